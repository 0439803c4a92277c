/-
  Merged: OrdBx, OrdTka, PartsTm, OrdTkp, OrdTkq, OrdTkn, OrdTkf, OrdCd, OrdTkc.
-/
import Derived.Test.YthlchdlgafincaaOrdTold
import Derived.Deep.MidRow
import Derived.Deep.LoopGhost
import Derived.Test.YthlchdlgafincaaHardPart
import Derived.Test.YthlchdlgafincaaPartsMk
import Derived.Deep.RegionLaw
import Derived.Laws.OwnMore
import Derived.Deep.OwnRows
import Derived.Shelf.Abstract
import Derived.Test.YthlchdlgafincaaRgA
/-
  A BOX OF ANY CELLS: what it is behind stores, other calls, and as a result.
-/
namespace Go.Proofs.Ythlchdlgafincaa
open Go.RowKit
namespace Hd
open PM
/-- Block B is a box of the cells cs. -/
def Bxn (w : World) (B : Nat) (cs : List Value) : Prop := ∃ T, w.heap[B]? = some (.cells cs.toArray T (0, 0))
theorem Bxn.lt {w : World} {B : Nat} {cs : List Value} (h : Bxn w B cs) : B < w.heap.size := by
  obtain ⟨T, h⟩ := h
  exact (Array.getElem?_eq_some_iff.1 h).1
theorem Bxn.cell {w : World} {B : Nat} {cs : List Value} (h : Bxn w B cs) (i : Nat) : w.cell? ⟨B, i, none⟩ = cs[i]? := by
  obtain ⟨T, h⟩ := h
  simp [World.cell?, h]
theorem Bxn.fz {w : World} {B : Nat} {cs : List Value} (h : Bxn w B cs) (i : Nat) : w.frozen? ⟨B, i, none⟩ = false := by
  obtain ⟨T, h⟩ := h
  simp [World.frozen?, h]
theorem Bxn.set {w : World} {B : Nat} {cs : List Value} (h : Bxn w B cs) (i : Nat) (u : Value) : Bxn (w.setCell ⟨B, i, none⟩ u) B (cs.set i u) := by
  obtain ⟨T, h⟩ := h
  exact ⟨T, by simp [World.setCell, Array.getElem?_modify, h]⟩
theorem Bxn.below {w w' : World} {B : Nat} {cs : List Value} (h : Bxn w B cs) (hb : Below w.heap.size w w') : Bxn w' B cs := by
  have hl := h.lt
  obtain ⟨T, h⟩ := h
  exact ⟨T, (hb.block B hl).trans h⟩
theorem Bxn.only {w w' : World} {B g : Nat} {cs : List Value} (h : Bxn w B cs) (ho : Only g w w') (hg : B ≠ g) : Bxn w' B cs := by
  have hl := h.lt
  obtain ⟨T, h⟩ := h
  exact ⟨T, (ho.block B hl (by intro e; injection e with e; exact hg e)).trans h⟩
theorem Bxn.made (w : World) (cs : List Value) (T : TypeId) : Bxn (w.alloc (.cells cs.toArray T)) w.heap.size cs := ⟨T, heap_alloc_new w _⟩
theorem Bxn.apart {w : World} {B p : Nat} {cs : List Value} (h : Bxn w B cs) (hp : p ≠ B) (o : Nat) (u : Value) : Bxn (w.setCell ⟨p, o, none⟩ u) B cs :=
  h.imp fun _ h => (Below.heap_setCell w ⟨p, o, none⟩ u B (by rintro rfl; exact hp rfl)).trans h
theorem Bxn.range {w : World} {B : Nat} {cs : List Value} (h : Bxn w B cs) (o : Nat) : w.rangeAt B o (cs.drop o) := by
  intro j v hj
  rw [h.cell]
  rw [List.getElem?_drop] at hj
  exact hj
/-- A struct read whole out of its box, or out of the middle of one. -/
theorem Bxn.load {w : World} {B : Nat} {cs : List Value} (h : Bxn w B cs) (o : Nat) (vs : List Value) (hv : (cs.drop o).take vs.length = vs) (ty : TypeId) (d : TypeDesc) (hu : Try.prog.underlying ty = some d) (hd : d.isRow = true) (hi : (Try.prog.info? ty).map (·.size) = some vs.length) :
    (Instr.loadAt ty (.pointer (some ⟨B, o, none⟩))).run Try.prog w = .ok (.agg vs.toArray) w :=
  run_loadAt_mid w B o ty _ d (fun j v hj => by
    rw [← hv, List.getElem?_take] at hj
    split at hj
    · exact h.range o j v hj
    · cases hj) hu hd hi
theorem bodyPost_bx {fn : Func} {p : Tmp} {ty : TypeId} (h : fn.results = #[.cell p ty]) {R : Ending → World → Prop} {a : Act} {w : World} (B : Nat) (cs : List Value) (d : TypeDesc) (hd : a.defers = [])
    (hp : a.tmps.getD p undef = .pointer (some ⟨B, 0, none⟩)) (hx : Bxn w B cs) (hu : Try.prog.underlying ty = some d) (hr : d.isRow = true) (hi : (Try.prog.info? ty).map (·.size) = some cs.length)
    (hR : R (.returned (.agg cs.toArray)) w) : bodyPost Try.prog fn R .ret a w := by
  refine bodyPost_ret ?_ hd hR
  rw [one_result h, hp]
  have := run_loadVar_mid w B 0 ty cs d (hx.range 0) hu hr hi
  simp [asAddr, this, Result.andThen]
theorem bodyPost_bx2 {fn : Func} {p u : Tmp} {ty : TypeId} (h : fn.results = #[.cell p ty, .tmp u]) {R : Ending → World → Prop} {a : Act} {w : World} (B : Nat) (cs : List Value) (d : TypeDesc) (hd : a.defers = [])
    (hp : a.tmps.getD p undef = .pointer (some ⟨B, 0, none⟩)) (hx : Bxn w B cs) (hu : Try.prog.underlying ty = some d) (hr : d.isRow = true) (hi : (Try.prog.info? ty).map (·.size) = some cs.length)
    (hR : R (.returned (.tuple #[.agg cs.toArray, a.tmps.getD u undef])) w) : bodyPost Try.prog fn R .ret a w := by
  refine bodyPost_ret ?_ hd hR
  rw [results_cell_tmp h, hp]
  have := run_loadVar_mid w B 0 ty cs d (hx.range 0) hu hr hi
  simp [asAddr, this, Result.andThen]
/-- Where the taking stands: what is left, the box of what was taken, the box of the result; only the taker, and what is new, has turned. -/
structure Tz (w0 : World) (g : Nat) (l : List UInt8) (b : Bool) (cs rs : List Value) (x : World) : Prop where
  tk : Tk x g l b
  bx : Bxn x (w0.heap.size + 1) cs
  rb : Bxn x w0.heap.size rs
  on : Only g w0 x
  lt : g < w0.heap.size
theorem Tz.go {w0 : World} {g : Nat} {l l2 : List UInt8} {b b2 : Bool} {cs rs : List Value} {x x' : World} (h : Tz w0 g l b cs rs x) (ht : Tk x' g l2 b2) (ho : Only g x x') : Tz w0 g l2 b2 cs rs x' :=
  ⟨ht, h.bx.only ho (by have := h.lt; omega), h.rb.only ho (by have := h.lt; omega), h.on.trans ho, h.lt⟩
theorem Tz.p {w0 : World} {g : Nat} {l : List UInt8} {b : Bool} {cs rs : List Value} {x : World} (h : Tz w0 g l b cs rs x) (i : Nat) (u : Value) : Tz w0 g l b (cs.set i u) rs (x.setCell ⟨w0.heap.size + 1, i, none⟩ u) :=
  ⟨h.tk.far (by have := h.lt; omega) i u, h.bx.set i u, h.rb.apart (by omega) i u, h.on.put2 (by omega) i u, h.lt⟩
theorem Tz.q {w0 : World} {g : Nat} {l : List UInt8} {b : Bool} {cs rs : List Value} {x : World} (h : Tz w0 g l b cs rs x) (i : Nat) (u : Value) : Tz w0 g l b cs (rs.set i u) (x.setCell ⟨w0.heap.size, i, none⟩ u) :=
  ⟨h.tk.far (by have := h.lt; omega) i u, h.bx.apart (by omega) i u, h.rb.set i u, h.on.put2 (by omega) i u, h.lt⟩
theorem Tz.made {w : World} {g : Nat} {l : List UInt8} {b : Bool} (cs : List Value) (T : TypeId) (h : Tk w g l b) : Tz w g l b cs cs ((w.alloc (.cells cs.toArray T)).alloc (.cells cs.toArray T)) := by
  have hl := h.lt
  have h1 : Below w.heap.size w (w.alloc (.cells cs.toArray T)) := (Below.refl _ _).alloc (Nat.le_refl _) _
  have h2 : Below (w.alloc (.cells cs.toArray T)).heap.size (w.alloc (.cells cs.toArray T)) ((w.alloc (.cells cs.toArray T)).alloc (.cells cs.toArray T)) := (Below.refl _ _).alloc (Nat.le_refl _) _
  have h3 := h1.trans (h2.mono h1.size)
  refine ⟨h.below h3 hl, ?_, (Bxn.made w _ _).below h2, Only.of_below h3, hl⟩
  have := Bxn.made (w.alloc (.cells cs.toArray T)) cs T
  rw [World.size_alloc] at this
  exact this
/-! A struct stored whole. -/
theorem only_setCells (R : Nat) : ∀ (vs : List Value) (o : Nat) (w : World), Only R w (w.setCells R o vs)
  | [], _, w => Only.refl R w
  | v :: r, o, w => ((Only.refl R w).set o v).trans (only_setCells R r (o + 1) _)
theorem heap_setCells (R : Nat) (T : TypeId) : ∀ (vs : List Value) (o : Nat) (w : World) (cs : List Value), w.heap[R]? = some (.cells cs.toArray T (0, 0)) → o + vs.length = cs.length →
    (w.setCells R o vs).heap[R]? = some (.cells (cs.take o ++ vs).toArray T (0, 0))
  | [], o, w, cs, h, hl => by
    rw [List.append_nil, List.take_of_length_le (by simp at hl; omega)]
    exact h
  | v :: r, o, w, cs, h, hl => by
    rw [World.setCells]
    have hlt : o < cs.length := by simp at hl; omega
    have h1 : (w.setCell ⟨R, o, none⟩ v).heap[R]? = some (.cells (cs.set o v).toArray T (0, 0)) := by simp [World.setCell, Array.getElem?_modify, h]
    rw [heap_setCells R T r (o + 1) _ (cs.set o v) h1 (by simp at hl ⊢; omega)]
    have e : (cs.set o v).take (o + 1) = cs.take o ++ [v] := by
      rw [List.set_eq_take_append_cons_drop, if_pos hlt, List.take_append]
      have hl2 : (cs.take o).length = o := by rw [List.length_take]; omega
      rw [hl2, List.take_of_length_le (by omega), show o + 1 - o = 1 by omega]
      rfl
    rw [e, List.append_assoc]
    rfl
theorem Bxn.all {w : World} {R : Nat} {rs : List Value} (h : Bxn w R rs) (vs : List Value) (hl : vs.length = rs.length) : Bxn (w.setCells R 0 vs) R vs := by
  obtain ⟨T, h⟩ := h
  exact ⟨T, heap_setCells R T vs 0 w rs h (by omega)⟩
theorem Bxn.there {w : World} {R : Nat} {rs : List Value} (h : Bxn w R rs) (n : Nat) (hn : n = rs.length) : w.there R 0 n := fun j hj => by
  rw [Nat.zero_add]
  refine ⟨?_, h.fz j⟩
  rw [h.cell, List.getElem?_eq_getElem (by omega)]
  rfl
theorem Tk.off {w w' : World} {g R : Nat} {l : List UInt8} {b : Bool} (h : Tk w g l b) (ho : Only R w w') (hg : g ≠ R) : Tk w' g l b := by
  have hl := h.lt
  obtain ⟨T, h⟩ := h
  exact ⟨T, (ho.block g hl (by intro e; injection e with e; exact hg e)).trans h⟩
theorem Only.both {w x x' : World} {g R : Nat} (h : Only g w x) (ho : Only R x x') (hR : w.heap.size ≤ R) : Only g w x' := by
  refine ⟨ho.os.trans h.os, ho.tape.trans h.tape, ho.output.trans h.output, Nat.le_trans h.size ho.size, fun i hi hne => ?_⟩
  have hs := h.size
  exact (ho.block i (by omega) (by intro e; injection e with e; omega)).trans (h.block i hi hne)
theorem Tz.all {w0 : World} {g : Nat} {l : List UInt8} {b : Bool} {cs rs : List Value} {x : World} (h : Tz w0 g l b cs rs x) (vs : List Value) (hl : vs.length = rs.length) : Tz w0 g l b cs vs (x.setCells w0.heap.size 0 vs) := by
  have ho := only_setCells w0.heap.size vs 0 x
  have hlt := h.lt
  exact ⟨h.tk.off ho (by omega), h.bx.only ho (by omega), h.rb.all vs hl, h.on.both ho (Nat.le_refl _), h.lt⟩
end Hd
end Go.Proofs.Ythlchdlgafincaa

/-
  AMOUNTS taken.
-/
namespace Go.Proofs.Ythlchdlgafincaa
open Go.RowKit
namespace Hd
open PM
def amM : Nat := 1099511627776
/-- What is left, whether something is wrong, behind k amounts. -/
def taR (l : List UInt8) : Nat → List UInt8
  | 0 => l
  | k + 1 => upR amM (taR l k)
def taB (l : List UInt8) (b : Bool) : Nat → Bool
  | 0 => b
  | k + 1 => upB amM (taR l k)
def taV (l : List UInt8) (k : Nat) : Nat := upV amM (taR l k)
theorem taR_length (l : List UInt8) : ∀ k, (taR l k).length ≤ l.length
  | 0 => Nat.le_refl _
  | k + 1 => Nat.le_trans (upR_length amM _) (taR_length l k)
def taC (l : List UInt8) : Nat → List Value
  | 0 => [.int .i64 0, .int .i64 0, .int .i64 0]
  | 1 => [.int .i64 (taV l 0 : Nat), .int .i64 0, .int .i64 0]
  | 2 => [.int .i64 (taV l 0 : Nat), .int .i64 (taV l 1 : Nat), .int .i64 0]
  | _ => [.int .i64 (taV l 0 : Nat), .int .i64 (taV l 1 : Nat), .int .i64 (taV l 2 : Nat)]
set_option maxRecDepth 100000 in
set_option maxHeartbeats 1000000 in
theorem amts_take (g : Nat) (l : List UInt8) (b : Bool) (w : World) (h : Tk w g l b) (hl : l.length ≤ maxLen) :
    Calls Try.prog 98 #[.pointer (some ⟨g, 0, none⟩)] w fun e w' => e = .returned (.agg #[.int .i64 (taV l 0 : Nat), .int .i64 (taV l 1 : Nat), .int .i64 (taV l 2 : Nat)]) ∧ Tk w' g (taR l 3) (taB l b 3) ∧ Only g w w' := by
  have HS0 := Lib.hid (Tz.made [.int .i64 0, .int .i64 0, .int .i64 0] 24 h)
  have HU : Hid (∀ (k : Nat) c z, Tk z g (taR l k) c → Calls Try.prog 54 #[.pointer (some ⟨g, 0, none⟩), .int .u64 1099511627776] z fun en w' => en = .returned (.int .u64 (taV l k : Nat)) ∧ Tk w' g (taR l (k + 1)) (upB amM (taR l k)) ∧ Only g z w') := fun k c z hz => upto_part g (taR l k) c amM z hz (Nat.le_trans (taR_length l k) hl)
  have HV : Hid (∀ k, IntKind.i64.wrap ((taV l k : Nat) : Int) = ((taV l k : Nat) : Int)) := fun k => by have := upV_le amM (taR l k); unfold taV; rw [IntKind.wrap_i64]; unfold amM at *; omega
  clear h hl
  go_enter Try.func98, Try.ntmps98
  go_wp2
  go_loopg [5] 3 (fun gg i wx => ∃ k : Nat, k + gg = 3 ∧ i = .int .i64 k ∧ Aside (Tz w g (taR l k) (taB l b k) (taC l k) (taC l 0) wx))
  case atStart => exact ⟨0, by omega, rfl, HS0.out⟩
  case round =>
    obtain ⟨k, hkg, rfl, HT⟩ := hrel
    cases gk with
    | zero =>
      obtain rfl : k = 3 := by omega
      have c0 : wr.cell? ⟨w.heap.size + 1, 0, none⟩ = some (.int .i64 (taV l 0 : Nat)) := HT.out.bx.cell 0
      have c1 : wr.cell? ⟨w.heap.size + 1, 1, none⟩ = some (.int .i64 (taV l 1 : Nat)) := HT.out.bx.cell 1
      have c2 : wr.cell? ⟨w.heap.size + 1, 2, none⟩ = some (.int .i64 (taV l 2 : Nat)) := HT.out.bx.cell 2
      have r0 : wr.cell? ⟨w.heap.size, 0, none⟩ = some (.int .i64 0) := HT.out.rb.cell 0
      have r1 : wr.cell? ⟨w.heap.size, 1, none⟩ = some (.int .i64 0) := HT.out.rb.cell 1
      have r2 : wr.cell? ⟨w.heap.size, 2, none⟩ = some (.int .i64 0) := HT.out.rb.cell 2
      have g0 := HT.out.rb.fz 0
      have g1 := HT.out.rb.fz 1
      have g2 := HT.out.rb.fz 2
      go_wp2
      refine bodyPost_bx (ty := 24) (p := 2) rfl w.heap.size (taC l 3) _ rfl rfl ?_ Try.underlying24 rfl rfl ?_
      case refine_1 => exact (((HT.out.q 0 _).q 1 _).q 2 _).rb
      case refine_2 => exact ⟨rfl, (((HT.out.q 0 _).q 1 _).q 2 _).tk, (((HT.out.q 0 _).q 1 _).q 2 _).on⟩
    | succ gg =>
      have hc : k = 0 ∨ k = 1 ∨ k = 2 := by omega
      rcases hc with rfl | rfl | rfl
      · have tv := HV.out 0
        go_wp2_with fail
        refine (HU.out 0 _ _ HT.out.tk).mono ?_
        rintro e w1 ⟨rfl, h1, ho1⟩
        have HT1 := Lib.hid (HT.out.go h1 ho1)
        clear h1 ho1
        have c0 : w1.cell? ⟨w.heap.size + 1, 0, none⟩ = some (.int .i64 0) := HT1.out.bx.cell 0
        have f0 := HT1.out.bx.fz 0
        go_wp2
        go_roundg gg
        case measure => omega
        case rel => exact ⟨1, by omega, rfl, HT1.out.p 0 _⟩
      · have tv := HV.out 1
        go_wp2_with fail
        refine (HU.out 1 _ _ HT.out.tk).mono ?_
        rintro e w1 ⟨rfl, h1, ho1⟩
        have HT1 := Lib.hid (HT.out.go h1 ho1)
        clear h1 ho1
        have c1 : w1.cell? ⟨w.heap.size + 1, 1, none⟩ = some (.int .i64 0) := HT1.out.bx.cell 1
        have f1 := HT1.out.bx.fz 1
        go_wp2
        go_roundg gg
        case measure => omega
        case rel => exact ⟨2, by omega, rfl, HT1.out.p 1 _⟩
      · have tv := HV.out 2
        go_wp2_with fail
        refine (HU.out 2 _ _ HT.out.tk).mono ?_
        rintro e w1 ⟨rfl, h1, ho1⟩
        have HT1 := Lib.hid (HT.out.go h1 ho1)
        clear h1 ho1
        have c2 : w1.cell? ⟨w.heap.size + 1, 2, none⟩ = some (.int .i64 0) := HT1.out.bx.cell 2
        have f2 := HT1.out.bx.fz 2
        go_wp2
        go_roundg gg
        case measure => omega
        case rel => exact ⟨3, by omega, rfl, HT1.out.p 2 _⟩
end Hd
end Go.Proofs.Ythlchdlgafincaa

/-
  TIMES of a taker, and what two blocks that turn leave (as in PartsMb, without a disk).
-/
namespace Go.Proofs.Ythlchdlgafincaa
open Go.RowKit
namespace Hc
open PM Hd
/-- Below block B nothing has turned but blocks g and p. -/
def Two (B g p : Nat) (w w' : World) : Prop := w'.os = w.os ∧ w'.tape = w.tape ∧ w'.output = w.output ∧ w.heap.size ≤ w'.heap.size ∧ ∀ i, i < B → i ≠ g → i ≠ p → w'.heap[i]? = w.heap[i]?
theorem Two.refl (B g p : Nat) (w : World) : Two B g p w w := ⟨rfl, rfl, rfl, Nat.le_refl _, fun _ _ _ _ => rfl⟩
theorem Two.trans {B g p : Nat} {a b c : World} (h : Two B g p a b) (k : Two B g p b c) : Two B g p a c :=
  ⟨k.1.trans h.1, k.2.1.trans h.2.1, k.2.2.1.trans h.2.2.1, Nat.le_trans h.2.2.2.1 k.2.2.2.1, fun i h1 h2 h3 => (k.2.2.2.2 i h1 h2 h3).trans (h.2.2.2.2 i h1 h2 h3)⟩
theorem Two.of_only {B g p : Nat} {w w' : World} (h : Only g w w') (hB : B ≤ w.heap.size) : Two B g p w w' := ⟨h.os, h.tape, h.output, h.size, fun i h1 h2 _ => h.block i (by omega) (by intro e; injection e with e; omega)⟩
theorem Two.of_below {B g p : Nat} {w w' : World} (h : Below w.heap.size w w') (hB : B ≤ w.heap.size) : Two B g p w w' := ⟨h.os, h.tape, h.output, h.size, fun i h1 _ _ => h.block i (by omega)⟩
theorem Two.of_grown {B g p : Nat} {w w' : World} {row : Option Nat} (h : w.grownBy w' row) (hB : B ≤ w.heap.size) (hr : ∀ k, row = some k → B ≤ k) : Two B g p w w' :=
  ⟨h.os, h.tape, h.output, h.size, fun i h1 _ _ => h.block i (by omega) (by intro e; have := hr i e.symm; omega)⟩
theorem Two.put (B g p : Nat) (w : World) (i : Nat) (u : Value) : Two B g p w (w.setCell ⟨p, i, none⟩ u) :=
  ⟨rfl, rfl, rfl, by simp [World.setCell], fun k _ _ h3 => Below.heap_setCell w ⟨p, i, none⟩ u k (by rintro rfl; exact h3 rfl)⟩
theorem Two.cell {B g p b i : Nat} {w w' : World} (h : Two B g p w w') (h1 : b < B) (h2 : b ≠ g) (h3 : b ≠ p) : w'.cell? ⟨b, i, none⟩ = w.cell? ⟨b, i, none⟩ := by
  simp only [World.cell?, h.2.2.2.2 b h1 h2 h3]
theorem Two.frozen {B g p b i : Nat} {w w' : World} (h : Two B g p w w') (h1 : b < B) (h2 : b ≠ g) (h3 : b ≠ p) : w'.frozen? ⟨b, i, none⟩ = w.frozen? ⟨b, i, none⟩ := by
  simp only [World.frozen?, h.2.2.2.2 b h1 h2 h3]
theorem only_cell {g b i : Nat} {w w' : World} (h : Only g w w') (h1 : b < w.heap.size) (h2 : b ≠ g) : w'.cell? ⟨b, i, none⟩ = w.cell? ⟨b, i, none⟩ := by
  have := h.block b h1 (by intro e; injection e with e; omega)
  simp only [World.cell?, this]
theorem only_frozen {g b i : Nat} {w w' : World} (h : Only g w w') (h1 : b < w.heap.size) (h2 : b ≠ g) : w'.frozen? ⟨b, i, none⟩ = w.frozen? ⟨b, i, none⟩ := by
  have := h.block b h1 (by intro e; injection e with e; omega)
  simp only [World.frozen?, this]
theorem grown_cell {row : Option Nat} {b i : Nat} {w w' : World} (h : w.grownBy w' row) (h1 : b < w.heap.size) (h2 : row ≠ some b) : w'.cell? ⟨b, i, none⟩ = w.cell? ⟨b, i, none⟩ := by
  have := h.block b h1 (fun e => h2 e.symm)
  simp only [World.cell?, this]
theorem grown_frozen {row : Option Nat} {b i : Nat} {w w' : World} (h : w.grownBy w' row) (h1 : b < w.heap.size) (h2 : row ≠ some b) : w'.frozen? ⟨b, i, none⟩ = w.frozen? ⟨b, i, none⟩ := by
  have := h.block b h1 (fun e => h2 e.symm)
  simp only [World.frozen?, this]
theorem tk_blk {w w' : World} {g : Nat} {l : List UInt8} {b : Bool} (h : Tk w g l b) (e : w'.heap[g]? = w.heap[g]?) : Tk w' g l b := h.imp fun _ h => e.trans h
/-- Times of a taker: how many there are, and as often what stands behind. -/
theorem ttimes (fn : FuncId) (hE : ∀ args w, (callFunc fn args).run Try.prog w = .ok (.enter fn args) w) (c0 c1 : Value) (g m : Nat) (l : List UInt8) (b : Bool) (J : Nat → World → Prop) (w : World) (h : Tk w g l b) (hl : l.length ≤ maxLen)
    (hJ0 : ∀ w1, Only g w w1 → Tk w1 g (upR m l) (upB m l) → J 0 w1)
    (hstep : ∀ i, i < upV m l → ∀ x, J i x → Calls Try.prog fn #[c0, c1] x fun e x' => e = .returned (.tuple #[]) ∧ J (i + 1) x') :
    Calls Try.prog 104 #[.pointer (some ⟨g, 0, none⟩), .int .u64 (m : Nat), .func (.func fn) #[] #[c0, c1]] w fun e w' => e = .returned (.tuple #[]) ∧ J (upV m l) w' := by
  have HU := Lib.hid (upto_part g l b m w h hl)
  have HS := Lib.hid hstep
  have HJ0 := Lib.hid hJ0
  have hn : upV m l < 2 ^ 64 := by
    unfold upV
    split
    · omega
    · exact tnN_lt l
  clear h hstep hJ0
  generalize upV m l = n at *
  go_enter Try.func104, Try.ntmps104
  go_wp2_with (go_at_call 54; go_loud ((with_reducible refine HU.out.mono ?_); rintro e w1 ⟨rfl, h1, ho1⟩; have H1 := Lib.hid (HJ0.out _ ho1 h1); clear h1 ho1))
  go_wp2
  go_loopg [9] n (fun gg i wx => ∃ k : Nat, k + gg = n ∧ i = .int .u64 k ∧ Aside (J k wx))
  case atStart => exact ⟨0, by omega, rfl, H1.out⟩
  case round =>
    obtain ⟨k, hkg, rfl, HA⟩ := hrel
    cases gk with
    | zero =>
      obtain rfl : k = n := by omega
      clear hkg
      go_wp2
      go_end0
      exact ⟨rfl, HA.out⟩
    | succ gg =>
      have hlt : (k : Int) < (n : Int) := by omega
      have HK := Lib.hid (HS.out k (by omega) wr HA.out)
      have tk : IntKind.u64.wrap ((k : Int) + 1) = (k : Int) + 1 := by rw [IntKind.wrap_u64]; omega
      go_wp2_with fail
      refine HK.out.mono ?_
      rintro e w2 ⟨rfl, h2⟩
      have H2 := Lib.hid h2
      clear h2
      go_wp2
      go_roundg gg
      case measure => omega
      case rel => exact ⟨k + 1, by omega, by simp, H2.out⟩
end Hc
end Go.Proofs.Ythlchdlgafincaa

/-
  PAIRS taken.
-/
namespace Go.Proofs.Ythlchdlgafincaa
open Go.RowKit
namespace Hd
open PM Hc
def encP : List Rg.Pr → List Value
  | [] => []
  | p :: r => .string p.k :: .string p.v :: encP r
theorem encP_len (ps : List Rg.Pr) : (encP ps).length = ps.length * 2 := by
  induction ps with
  | nil => rfl
  | cons p r ih => simp [encP, ih]; omega
theorem encP_app (a b : List Rg.Pr) : encP (a ++ b) = encP a ++ encP b := by
  induction a with
  | nil => rfl
  | cons p r ih => simp [encP, ih]
theorem encP_at (ps : List Rg.Pr) : ∀ i (h : i < ps.length), (encP ps)[i * 2]? = some (.string ps[i].k) ∧ (encP ps)[i * 2 + 1]? = some (.string ps[i].v) := by
  induction ps with
  | nil => intro i h; simp at h
  | cons p r ih =>
    intro i h
    cases i with
    | zero => exact ⟨rfl, rfl⟩
    | succ i =>
      have := ih i (by simpa using h)
      rw [show (i + 1) * 2 = i * 2 + 1 + 1 by omega]
      simpa [encP] using this
/-- A row of pairs of one's own, from block base on. -/
def OwnP (w : World) (base : Nat) (v : Value) (ps : List Rg.Pr) : Prop := w.ownsRow base 132 2 v ps.length (encP ps)
theorem info_pair : (Try.prog.info? 132).map (fun i => (i.zero, i.size, i.bytes)) = some (some (.agg #[.string ByteArray.empty, .string ByteArray.empty]), 2, 32) := by kernel_rfl
theorem OwnP.slice {w : World} {base : Nat} {v : Value} {ps : List Rg.Pr} (h : OwnP w base v ps) : ∃ a c, v = .slice a ps.length c := by
  rcases h.2 with ⟨rfl, h0⟩ | ⟨g, cap, cur, rfl, _⟩
  · exact ⟨none, 0, by rw [h0]⟩
  · exact ⟨_, _, rfl⟩
theorem OwnP.nil (w : World) (base : Nat) : OwnP w base (.slice none 0 0) [] := ⟨rfl, .inl ⟨rfl, rfl⟩⟩
theorem OwnP.less {w : World} {base b2 : Nat} {v : Value} {ps : List Rg.Pr} (h : OwnP w base v ps) (hb : b2 ≤ base) : OwnP w b2 v ps := by
  refine ⟨h.1, ?_⟩
  rcases h.2 with h2 | ⟨g, cap, cur, h3, h4, h5⟩
  · exact .inl h2
  · exact .inr ⟨g, cap, cur, h3, Nat.le_trans hb h4, h5⟩
theorem OwnP.below {w w' : World} {base : Nat} {v : Value} {ps : List Rg.Pr} (h : OwnP w base v ps) (hb : Below w.heap.size w w') : OwnP w' base v ps := own_keep h hb
theorem OwnP.al {w : World} {base : Nat} {v : Value} {ps : List Rg.Pr} (h : OwnP w base v ps) (o : Obj) : OwnP (w.alloc o) base v ps := h.below ((Below.refl _ _).alloc (Nat.le_refl _) _)
theorem OwnP.far {w : World} {base : Nat} {v : Value} {ps : List Rg.Pr} (h : OwnP w base v ps) {g : Nat} (hg : g < base) : v.ownBlock ≠ some g := fun e => by
  have := (World.ownsRow.lt h g e).1
  omega
theorem OwnP.only {w w' : World} {base : Nat} {v : Value} {ps : List Rg.Pr} (h : OwnP w base v ps) {g : Nat} (ho : Only g w w') (hg : v.ownBlock ≠ some g) : OwnP w' base v ps :=
  World.ownsRow.kept (row := some g) h ho (Or.inr hg)
theorem OwnP.put {w : World} {base : Nat} {v : Value} {ps : List Rg.Pr} (h : OwnP w base v ps) {p : Nat} (hp : v.ownBlock ≠ some p) (i : Nat) (u : Value) : OwnP (w.setCell ⟨p, i, none⟩ u) base v ps :=
  h.only ((Only.refl p w).set i u) hp
theorem OwnP.blk {w : World} {base : Nat} {v : Value} {ps : List Rg.Pr} (h : OwnP w base v ps) {p : Nat} (hp : w.heap.size ≤ p) : v.ownBlock ≠ some p := fun e => by
  have := (World.ownsRow.lt h p e).2
  omega
theorem OwnP.pairs {w : World} {base : Nat} {v : Value} {ps : List Rg.Pr} (h : OwnP w base v ps) (hl : ps.length ≤ 4611686018427387904) (hk : ∀ p ∈ ps, p.k.size ≤ maxLen ∧ p.v.size ≤ maxLen) : Rg.Pairs w w.heap.size v ps := by
  obtain ⟨a, c, hv⟩ := h.slice
  refine ⟨a, c, hv, hl, hk, ?_⟩
  intro hp
  rcases h.2 with ⟨_, h0⟩ | ⟨g, cap, cur, h3, h4, h5, h6⟩
  · omega
  · rw [hv] at h3
    injection h3 with h3a h3b h3c
    refine ⟨g, 0, h3a, (Array.getElem?_eq_some_iff.1 h5).1, fun i hi => ?_⟩
    obtain ⟨e0, e1⟩ := encP_at ps i hi
    have k0 := World.ownsRow.cells (g := g) h (by rw [hv, h3a]; rfl) _ _ e0
    have k1 := World.ownsRow.cells (g := g) h (by rw [hv, h3a]; rfl) _ _ e1
    rw [Addr.add_lit] at k0 k1
    exact ⟨k0, k1⟩
/-- An append of one pair onto a row of one's own, within a region. -/
theorem step_pair {ops : Array Oper} {o : Oper} {a : Act} {w : World} {K : Act → World → Prop} {Q : Exit → Act → World → Prop} {E : Prop} (hgd : o.guard = none) (s x : Operand)
    (ho : o.op = .call { callee := .builtin .append, args := #[s, x], argTypes := #[25, 25] })
    (base : Nat) (hbase : base ≤ w.heap.size) (ps : List Rg.Pr) (p : Rg.Pr) (v : Value) (hs : a.eval s = v) (hown : OwnP w base v ps) (ad : Addr) (c : Nat) (hx : a.eval x = .slice (some ad) 1 c)
    (hc : w.cell? (ad.add 0) = some (.string p.k)) (hc1 : w.cell? (ad.add 1) = some (.string p.v)) (hl : ps.length ≤ 1000)
    (h : ∀ v' w', OwnP w' base v' (ps ++ [p]) → w.grownBy w' v.ownBlock → K (a.put o.dst v') w') :
    if Region.wanted o (yielded ops a.tmps) = true then Oper.wp Try.prog o a w K Q else E := by
  have hw : Region.wanted o (yielded ops a.tmps) = true := by simp [Region.wanted, hgd]
  rw [if_pos hw]
  obtain ⟨i0, hi, hq0, hq1, hq2⟩ := info_parts info_pair
  refine wp_append_own w s x _ ho base 132 i0 _ 2 32 Try.underlying25 hi hq0 hq1 hq2 rfl (by omega) v ps.length (encP ps) hs hown ad 1 c [.string p.k, .string p.v] hx rfl ?_ ?_ (by simp only [maxLen]; omega) (by omega) hbase ?_
  · intro j u hj
    match j, hj with
    | 0, hj => simp at hj; subst hj; exact hc
    | 1, hj => simp at hj; subst hj; exact hc1
  · intro u hu; simp at hu; rcases hu with rfl | rfl <;> rfl
  · intro v' w' hown' hg _
    refine h v' w' ?_ hg
    unfold OwnP
    rw [List.length_append, encP_app]
    exact hown'
theorem wl_pair {ops : Array Oper} {rest : List Oper} {o : Oper} {a : Act} {w : World} {Q : Exit → Act → World → Prop} (hgd : o.guard = none) (s x : Operand)
    (ho : o.op = .call { callee := .builtin .append, args := #[s, x], argTypes := #[25, 25] })
    (base : Nat) (hbase : base ≤ w.heap.size) (ps : List Rg.Pr) (p : Rg.Pr) (v : Value) (hs : a.eval s = v) (hown : OwnP w base v ps) (ad : Addr) (c : Nat) (hx : a.eval x = .slice (some ad) 1 c)
    (hc : w.cell? (ad.add 0) = some (.string p.k)) (hc1 : w.cell? (ad.add 1) = some (.string p.v)) (hl : ps.length ≤ 1000)
    (h : ∀ v' w', OwnP w' base v' (ps ++ [p]) → w.grownBy w' v.ownBlock → wpList Try.prog ops Q rest (a.put o.dst v') w') : wpList Try.prog ops Q (o :: rest) a w := by
  obtain ⟨i0, hi, hq0, hq1, hq2⟩ := info_parts info_pair
  refine wpList_plain hgd fun K hK => ?_
  refine wp_append_own w s x _ ho base 132 i0 _ 2 32 Try.underlying25 hi hq0 hq1 hq2 rfl (by omega) v ps.length (encP ps) hs hown ad 1 c [.string p.k, .string p.v] hx rfl ?_ ?_ (by simp only [maxLen]; omega) (by omega) hbase ?_
  · intro j u hj
    match j, hj with
    | 0, hj => simp at hj; subst hj; exact hc
    | 1, hj => simp at hj; subst hj; exact hc1
  · intro u hu; simp at hu; rcases hu with rfl | rfl <;> rfl
  · intro v' w' hown' hg _
    refine hK _ _ (h v' w' ?_ hg)
    unfold OwnP
    rw [List.length_append, encP_app]
    exact hown'
end Hd
end Go.Proofs.Ythlchdlgafincaa

/-
  PAIRS taken: the closure, and the whole.
-/
namespace Go.Proofs.Ythlchdlgafincaa
open Go.RowKit
namespace Hd
open PM Hc
theorem ttR_length (l : List UInt8) : (ttR l).length ≤ l.length := by
  unfold ttR
  split
  · rw [List.length_drop]; have := tnR_length l; omega
  · exact Nat.zero_le _
/-- Where the taking of pairs stands: the taker's address in the box p, the row in the box q. -/
structure Pb (w0 : World) (p q g base : Nat) (l : List UInt8) (b : Bool) (ps : List Rg.Pr) (v : Value) (x : World) : Prop where
  tk : Tk x g l b
  own : OwnP x base v ps
  cp : x.cell? ⟨p, 0, none⟩ = some (.pointer (some ⟨g, 0, none⟩))
  cq : x.cell? ⟨q, 0, none⟩ = some v
  fq : x.frozen? ⟨q, 0, none⟩ = false
  sz : base ≤ x.heap.size
  fr : Two base g q w0 x
structure Far (p q g base : Nat) : Prop where
  hp : p < base
  hq : q < base
  hg : g < base
  pg : p ≠ g
  qg : q ≠ g
  qp : q ≠ p
theorem Pb.grow {w0 x x' : World} {p q g base : Nat} {l l2 : List UInt8} {b b2 : Bool} {ps : List Rg.Pr} {v : Value} (h : Pb w0 p q g base l b ps v x) (f : Far p q g base) (ht : Tk x' g l2 b2) (ho : Only g x x') : Pb w0 p q g base l2 b2 ps v x' := by
  have hsz := h.sz
  have hp := f.hp
  have hq := f.hq
  refine ⟨ht, h.own.only ho (h.own.far f.hg), ?_, ?_, ?_, Nat.le_trans h.sz ho.size, h.fr.trans (Two.of_only ho h.sz)⟩
  · rw [only_cell ho (by omega) f.pg]; exact h.cp
  · rw [only_cell ho (by omega) f.qg]; exact h.cq
  · rw [only_frozen ho (by omega) f.qg]; exact h.fq
theorem Pb.put {w0 x : World} {p q g base : Nat} {l : List UInt8} {b : Bool} {ps : List Rg.Pr} {v : Value} (h : Pb w0 p q g base l b ps v x) (f : Far p q g base) {n : Nat} (hn : base ≤ n) (hv : v.ownBlock ≠ some n) (i : Nat) (u : Value) : Pb w0 p q g base l b ps v (x.setCell ⟨n, i, none⟩ u) := by
  have hp := f.hp
  have hq := f.hq
  have hg := f.hg
  refine ⟨h.tk.far (by omega) i u, h.own.put hv i u, ?_, ?_, ?_, by simpa [World.setCell] using h.sz, ?_⟩
  · rw [World.cell?_setCell_other _ _ _ _ (by intro e; injection e with e; omega)]; exact h.cp
  · rw [World.cell?_setCell_other _ _ _ _ (by intro e; injection e with e; omega)]; exact h.cq
  · simpa using h.fq
  · refine h.fr.trans ⟨rfl, rfl, rfl, by simp [World.setCell], fun k h1 _ _ => Below.heap_setCell x ⟨n, i, none⟩ u k (by show k ≠ n; omega)⟩
theorem pb_end {w0 x w8 : World} {p q g base : Nat} {l : List UInt8} {b : Bool} {ps : List Rg.Pr} {y : Rg.Pr} {v : Value} {a8 : Option Addr} {c8 : Nat} {o : Obj} (h : Pb w0 p q g base l b ps v x) (f : Far p q g base)
    (hown8 : OwnP w8 base (.slice a8 (ps ++ [y]).length c8) (ps ++ [y])) (hg8 : (x.alloc o).grownBy w8 v.ownBlock) :
    Pb w0 p q g base l b (ps ++ [y]) (.slice a8 (ps.length + 1) c8) (w8.setCell ⟨q, 0, none⟩ (.slice a8 (ps.length + 1) c8)) := by
  have hsz := h.sz
  have hp := f.hp
  have hq := f.hq
  have hgb := f.hg
  have s8 : x.heap.size + 1 ≤ w8.heap.size := by have := hg8.size; simpa using this
  have hrow : ∀ i, i < base → v.ownBlock ≠ some i := fun i hi => h.own.far hi
  have hlen : (ps ++ [y]).length = ps.length + 1 := by simp
  rw [hlen] at hown8
  have b8 : ∀ i, i < base → w8.heap[i]? = x.heap[i]? := fun i hi => (hg8.block i (by simp; omega) (fun e => hrow i hi e.symm)).trans (Lib.alloc_old x o i (by omega))
  have t8 : Two base g q x w8 := ⟨hg8.os, hg8.tape, hg8.output, by omega, fun i hi _ _ => b8 i hi⟩
  have tall := (h.fr.trans t8).trans (Two.put base g q w8 0 (.slice a8 (ps.length + 1) c8))
  have cpp : w8.cell? ⟨p, 0, none⟩ = x.cell? ⟨p, 0, none⟩ := by simp only [World.cell?, b8 p hp]
  have cqq : w8.cell? ⟨q, 0, none⟩ = x.cell? ⟨q, 0, none⟩ := by simp only [World.cell?, b8 q hq]
  have fqq : w8.frozen? ⟨q, 0, none⟩ = x.frozen? ⟨q, 0, none⟩ := by simp only [World.frozen?, b8 q hq]
  refine ⟨?_, ?_, ?_, ?_, ?_, ?_, tall⟩
  · exact (tk_blk h.tk (b8 g hgb)).far f.qg.symm 0 _
  · exact hown8.put (fun e => hown8.far hq e) 0 _
  · rw [World.cell?_setCell_other _ _ _ _ (by intro e; injection e with e; exact f.qp e)]
    exact cpp.trans h.cp
  · exact World.cell?_setCell_same _ _ _ (cqq.trans h.cq)
  · simpa using fqq.trans h.fq
  · simp [World.setCell]; omega
set_option maxRecDepth 100000 in
set_option maxHeartbeats 2000000 in
theorem pclo_take (w0 : World) (p q g base : Nat) (l : List UInt8) (b : Bool) (ps : List Rg.Pr) (v : Value) (x : World) (h : Pb w0 p q g base l b ps v x) (f : Far p q g base) (hl : l.length ≤ maxLen) (h3 : ps.length ≤ 1000) :
    Calls Try.prog 105 #[.pointer (some ⟨p, 0, none⟩), .pointer (some ⟨q, 0, none⟩)] x fun e x' => e = .returned (.tuple #[]) ∧ ∃ v', Pb w0 p q g base (ttR (ttR l)) (decide (ttW (ttR l) ≠ 0)) (ps ++ [⟨bs (ttT l), bs (ttT (ttR l))⟩]) v' x' := by
  obtain ⟨av, cv, rfl⟩ := h.own.slice
  have hn := h.own.blk (Nat.le_refl _)
  have hsz := h.sz
  have hb0 : Below x.heap.size x (x.alloc (.cells #[.string ⟨#[]⟩, .string ⟨#[]⟩] 132)) := (Below.refl _ _).alloc (Nat.le_refl _) _
  have HB0 := Lib.hid (h.grow f (h.tk.below hb0 h.tk.lt) (Only.of_below hb0))
  have HX0 : Hid (Bxn (x.alloc (.cells #[.string ⟨#[]⟩, .string ⟨#[]⟩] 132)) x.heap.size [.string ⟨#[]⟩, .string ⟨#[]⟩]) := Bxn.made x _ _
  have HT1 := Lib.hid (fun z c (hz : Tk z g l c) => text_part g l c z hz hl)
  have HT2 := Lib.hid (fun z c (hz : Tk z g (ttR l) c) => text_part g (ttR l) c z hz (Nat.le_trans (ttR_length l) hl))
  have HSZ := Lib.hid hsz
  have HN := Lib.hid hn
  have hgx : x.heap.size ≠ g := by have := f.hg; omega
  have HG := Lib.hid hgx
  have HQX : Hid (q < x.heap.size) := by have := f.hq; show q < _; omega
  have c0 := HB0.out.cp
  clear hn hsz hb0 h hl hgx
  generalize ttR (ttR l) = l2 at *
  generalize decide (ttW (ttR l) ≠ 0) = b2 at *
  generalize bs (ttT (ttR l)) = s2 at *
  generalize bs (ttT l) = s1 at *
  go_enter Try.func105, Try.ntmps105
  go_wp2_with fail
  refine (HT1.out _ _ HB0.out.tk).mono ?_
  rintro e w1 ⟨rfl, h1, ho1⟩
  have HB1 := Lib.hid (HB0.out.grow f h1 ho1)
  have HX1 := Lib.hid (HX0.out.only ho1 HG.out)
  clear h1 ho1 c0
  have d0 : w1.cell? ⟨x.heap.size, 0, none⟩ = some (.string ⟨#[]⟩) := HX1.out.cell 0
  have e0 := HX1.out.fz 0
  have HB2 := Lib.hid (HB1.out.put f HSZ.out HN.out 0 (.string s1))
  have HX2 := Lib.hid (HX1.out.set 0 (.string s1))
  have c0 := HB2.out.cp
  go_wp2_with fail
  refine (HT2.out _ _ HB2.out.tk).mono ?_
  rintro e w2 ⟨rfl, h2, ho2⟩
  have HB3 := Lib.hid (HB2.out.grow f h2 ho2)
  have HX3 : Hid (Bxn w2 x.heap.size [.string s1, .string ⟨#[]⟩]) := HX2.out.only ho2 HG.out
  clear h2 ho2 d0 e0 c0
  have d1 : w2.cell? ⟨x.heap.size, 1, none⟩ = some (.string ⟨#[]⟩) := HX3.out.cell 1
  have e1 := HX3.out.fz 1
  have HB4 := Lib.hid (HB3.out.put f HSZ.out HN.out 1 (.string s2))
  have HX4 : Hid (Bxn (w2.setCell ⟨x.heap.size, 1, none⟩ (.string s2)) x.heap.size [.string s1, .string s2]) := HX3.out.set 1 (.string s2)
  have d2 : (w2.setCell ⟨x.heap.size, 1, none⟩ (.string s2)).cell? ⟨x.heap.size, 0, none⟩ = some (.string s1) := HX4.out.cell 0
  have d3 : (w2.setCell ⟨x.heap.size, 1, none⟩ (.string s2)).cell? ⟨x.heap.size, 1, none⟩ = some (.string s2) := HX4.out.cell 1
  have cq := HB4.out.cq
  have hzz : q < (w2.setCell ⟨x.heap.size, 1, none⟩ (.string s2)).heap.size := Nat.lt_of_lt_of_le f.hq HB4.out.sz
  have hbz : base ≤ ((w2.setCell ⟨x.heap.size, 1, none⟩ (.string s2)).alloc (.cells #[.string s1, .string s2] 132)).heap.size := by have := HB4.out.sz; rw [World.size_alloc]; omega
  have HF := Lib.hid f
  clear f
  go_wp2_with (at_builtin; go_loud (refine wl_pair rfl (.tmp 13) (.tmp 15) rfl base hbz ps ⟨s1, s2⟩ _ rfl (HB4.out.own.al _) ⟨w2.heap.size, 0, none⟩ 1 rfl (by simp [go_sem, Addr.add]) (by simp [go_sem, Addr.add]) h3 ?_; intro v8 w8 hown8 hg8; obtain ⟨a8, c8, rfl⟩ := hown8.slice; have HE := Lib.hid (pb_end HB4.out HF.out hown8 hg8); have q8 := (grown_cell hg8 (b := q) (i := 0) (by rw [World.size_alloc]; omega) (HB4.out.own.far HF.out.hq)).trans ((World.cell?_alloc_lt _ _ ⟨q, 0, none⟩ hzz).trans cq); have r8 := (grown_frozen hg8 (b := q) (i := 0) (by rw [World.size_alloc]; omega) (HB4.out.own.far HF.out.hq)).trans ((World.frozen?_alloc_past _ q 0 hzz).trans HB4.out.fq); clear hg8 hown8))
  go_wp2
  go_end0
  exact ⟨rfl, _, HE.out⟩
/-- What is left, whether something is wrong, and what was taken, behind k pairs. -/
def paR (l : List UInt8) : Nat → List UInt8
  | 0 => upR 4 l
  | k + 1 => ttR (ttR (paR l k))
def paB (l : List UInt8) : Nat → Bool
  | 0 => upB 4 l
  | k + 1 => decide (ttW (ttR (paR l k)) ≠ 0)
def paL (l : List UInt8) : Nat → List Rg.Pr
  | 0 => []
  | k + 1 => paL l k ++ [⟨bs (ttT (paR l k)), bs (ttT (ttR (paR l k)))⟩]
theorem paR_length (l : List UInt8) : ∀ k, (paR l k).length ≤ l.length
  | 0 => upR_length 4 l
  | k + 1 => Nat.le_trans (ttR_length _) (Nat.le_trans (ttR_length _) (paR_length l k))
theorem paL_length (l : List UInt8) : ∀ k, (paL l k).length = k
  | 0 => rfl
  | k + 1 => by rw [paL, List.length_append, paL_length l k]; rfl
/-- The pairs that are taken, what is left, whether something is wrong. -/
def prL (l : List UInt8) : List Rg.Pr := paL l (upV 4 l)
def prR (l : List UInt8) : List UInt8 := paR l (upV 4 l)
def prW (l : List UInt8) : Bool := paB l (upV 4 l)
theorem prR_length (l : List UInt8) : (prR l).length ≤ l.length := paR_length l _
theorem prL_length (l : List UInt8) : (prL l).length ≤ 4 := by unfold prL; rw [paL_length]; exact upV_le 4 l
set_option maxRecDepth 100000 in
set_option maxHeartbeats 1000000 in
theorem pairs_take (g : Nat) (l : List UInt8) (b : Bool) (w : World) (h : Tk w g l b) (hl : l.length ≤ maxLen) :
    Calls Try.prog 99 #[.pointer (some ⟨g, 0, none⟩)] w fun e w' => ∃ v', e = .returned v' ∧ OwnP w' w.heap.size v' (prL l) ∧ Tk w' g (prR l) (prW l) ∧ Only g w w' := by
  unfold prL prR prW
  have hmf : ∀ (fn : Fn) (first cap : Array Value) (w : World), (Instr.makeFunc fn first cap).run Try.prog w = .ok (.func fn first cap) w := fun _ _ _ _ => rfl
  have hlt := h.lt
  have hv := upV_le 4 l
  generalize hW2 : (w.alloc (.cells #[.pointer (some ⟨g, 0, none⟩)] 120)).alloc (.cells #[.slice none 0 0] 25) = W2
  have z2 : W2.heap.size = w.heap.size + 2 := by rw [← hW2]; simp
  have cp2 : W2.cell? ⟨w.heap.size + 1, 0, none⟩ = some (.slice none 0 0) := by rw [← hW2]; simp [go_sem]
  have fp2 : W2.frozen? ⟨w.heap.size + 1, 0, none⟩ = false := by rw [← hW2]; simp [go_sem]
  have cq2 : W2.cell? ⟨w.heap.size, 0, none⟩ = some (.pointer (some ⟨g, 0, none⟩)) := by rw [← hW2]; simp [go_sem]
  have b2 : Below w.heap.size w W2 := by rw [← hW2]; exact ((Below.refl _ _).alloc (Nat.le_refl _) _).alloc (by simp) _
  have hF : Far w.heap.size (w.heap.size + 1) g (w.heap.size + 2) := ⟨by omega, by omega, by omega, by omega, by omega, by omega⟩
  have HT : Hid (Calls Try.prog 104 #[.pointer (some ⟨g, 0, none⟩), .int .u64 4, .func (.func 105) #[] #[.pointer (some ⟨w.heap.size, 0, none⟩), .pointer (some ⟨w.heap.size + 1, 0, none⟩)]]
      W2 fun e w' => e = .returned (.tuple #[]) ∧ ∃ v', Pb W2 w.heap.size (w.heap.size + 1) g (w.heap.size + 2) (paR l (upV 4 l)) (paB l (upV 4 l)) (paL l (upV 4 l)) v' w') := by
    refine ttimes _ (Go.Proofs.enters_of Try.func105 (by kernel_rfl) rfl) _ _ g 4 l b (fun k x => ∃ v', Pb W2 w.heap.size (w.heap.size + 1) g (w.heap.size + 2) (paR l k) (paB l k) (paL l k) v' x) _ ?_ hl ?_ ?_
    · exact h.below b2 hlt
    · intro w1 ho ht
      have hz := ho.size
      refine ⟨.slice none 0 0, ht, OwnP.nil _ _, ?_, ?_, ?_, by omega, Two.of_only ho (by omega)⟩
      · rw [only_cell ho (by omega) (by omega)]; exact cq2
      · rw [only_cell ho (by omega) (by omega)]; exact cp2
      · rw [only_frozen ho (by omega) (by omega)]; exact fp2
    · rintro i hi x ⟨v', hx⟩
      refine (pclo_take W2 w.heap.size (w.heap.size + 1) g (w.heap.size + 2) _ _ _ v' x hx hF (Nat.le_trans (paR_length l i) hl) (by rw [paL_length]; omega)).mono ?_
      rintro e x' ⟨he, v2, h2⟩
      exact ⟨he, v2, h2⟩
  have HB2 := Lib.hid b2
  subst hW2
  clear h b2
  generalize upV 4 l = n at *
  go_enter Try.func99, Try.ntmps99
  go_wp2_with (go_at_call 104; go_loud ((with_reducible refine HT.out.mono ?_); rintro e w1 ⟨rfl, v', hTb⟩; obtain ⟨a1, c1, rfl⟩ := hTb.own.slice; have d1 := hTb.cq; have HTb := Lib.hid hTb; clear hTb))
  go_wp2
  go_ret
  refine ⟨_, rfl, HTb.out.own.less (by omega), HTb.out.tk, ?_⟩
  have t := HTb.out.fr
  refine ⟨t.1.trans HB2.out.os, t.2.1.trans HB2.out.tape, t.2.2.1.trans HB2.out.output, Nat.le_trans HB2.out.size t.2.2.2.1, fun i h1 h2 => ?_⟩
  exact (t.2.2.2.2 i (by omega) (fun e => h2 (by rw [e])) (by omega)).trans (HB2.out.block i h1)
end Hd
end Go.Proofs.Ythlchdlgafincaa

/-
  A NODE and a TASK, taken.
-/
namespace Go.Proofs.Ythlchdlgafincaa
open Go.RowKit
namespace Hd
open PM Hc
theorem taR3_length (l : List UInt8) : (taR l 3).length ≤ l.length := taR_length l 3
theorem amN (l : List UInt8) (k : Nat) : taV l k ≤ 1099511627776 := upV_le amM _
/-- A row of one's own behind the two boxes. -/
theorem OwnP.go {w0 x x' : World} {v : Value} {ps : List Rg.Pr} {g : Nat} (h : OwnP x (w0.heap.size + 2) v ps) (hg : g < w0.heap.size) (ho : Only g x x') : OwnP x' (w0.heap.size + 2) v ps :=
  h.only ho (h.far (by omega))
theorem OwnP.p {w0 x : World} {v : Value} {ps : List Rg.Pr} (h : OwnP x (w0.heap.size + 2) v ps) (i : Nat) (u : Value) : OwnP (x.setCell ⟨w0.heap.size + 1, i, none⟩ u) (w0.heap.size + 2) v ps := h.put (h.far (by omega)) i u
theorem OwnP.q {w0 x : World} {v : Value} {ps : List Rg.Pr} (h : OwnP x (w0.heap.size + 2) v ps) (i : Nat) (u : Value) : OwnP (x.setCell ⟨w0.heap.size, i, none⟩ u) (w0.heap.size + 2) v ps := h.put (h.far (by omega)) i u
theorem Tz.two {w0 x : World} {g : Nat} {l : List UInt8} {b : Bool} {cs rs : List Value} (h : Tz w0 g l b cs rs x) : w0.heap.size + 2 ≤ x.heap.size := h.bx.lt
set_option maxRecDepth 100000 in
set_option maxHeartbeats 2000000 in
theorem node_take (g : Nat) (l : List UInt8) (b : Bool) (w : World) (h : Tk w g l b) (hl : l.length ≤ maxLen) :
    Calls Try.prog 82 #[.pointer (some ⟨g, 0, none⟩)] w fun en w' => ∃ v2 v3, en = .returned (.agg #[.string (bs (ttT (l))), .int .i64 (taV (ttR l) 0 : Nat), .int .i64 (taV (ttR l) 1 : Nat), .int .i64 (taV (ttR l) 2 : Nat), v2, v3]) ∧ OwnP w' (w.heap.size + 2) v2 (prL (taR (ttR l) 3)) ∧ OwnP w' (w.heap.size + 2) v3 (prL (prR (taR (ttR l) 3))) ∧ Tk w' g (prR (prR (taR (ttR l) 3))) (prW (prR (taR (ttR l) 3))) ∧ Only g w w' := by
  have K0 := Lib.hid (fun z c (hz : Tk z g (l) c) => text_part g (l) c z hz (Nat.le_trans (Nat.le_refl _) hl))
  have K1 := Lib.hid (fun z c (hz : Tk z g (ttR l) c) => amts_take g (ttR l) c z hz (Nat.le_trans (ttR_length l) hl))
  have K2 := Lib.hid (fun z c (hz : Tk z g (taR (ttR l) 3) c) => pairs_take g (taR (ttR l) 3) c z hz (Nat.le_trans (Nat.le_trans (taR3_length _) (ttR_length l)) hl))
  have K3 := Lib.hid (fun z c (hz : Tk z g (prR (taR (ttR l) 3)) c) => pairs_take g (prR (taR (ttR l) 3)) c z hz (Nat.le_trans (Nat.le_trans (prR_length _) (Nat.le_trans (taR3_length _) (ttR_length l))) hl))
  have HS0 := Lib.hid (Tz.made [.string ⟨#[]⟩, .int .i64 0, .int .i64 0, .int .i64 0, .slice none 0 0, .slice none 0 0] 27 h)
  have HG := Lib.hid h.lt
  clear h hl
  generalize bs (ttT (l)) = q0 at *
  generalize taV (ttR l) 0 = a1_0 at *
  generalize taV (ttR l) 1 = a1_1 at *
  generalize taV (ttR l) 2 = a1_2 at *
  generalize prL (prR (taR (ttR l) 3)) = y3 at *
  generalize prL (taR (ttR l) 3) = y2 at *
  go_enter Try.func82, Try.ntmps82
  go_wp2_with fail
  refine (K0.out _ _ HS0.out.tk).mono ?_
  rintro e w0 ⟨rfl, h1, ho1⟩
  have HS1 := Lib.hid (HS0.out.go h1 ho1)
  clear h1 ho1
  have c0 : w0.cell? ⟨w.heap.size + 1, 0, none⟩ = some (.string ⟨#[]⟩) := HS1.out.bx.cell 0
  have f0 := HS1.out.bx.fz 0
  have HS2 := Lib.hid (HS1.out.p 0 (.string q0))
  go_wp2_with fail
  refine (K1.out _ _ HS2.out.tk).mono ?_
  rintro e w1 ⟨rfl, h1, ho1⟩
  have HS3 := Lib.hid (HS2.out.go h1 ho1)
  clear h1 ho1
  clear c0 f0
  have c1 : w1.cell? ⟨w.heap.size + 1, 1, none⟩ = some (.int .i64 0) := HS3.out.bx.cell 1
  have f1 := HS3.out.bx.fz 1
  have c2 : w1.cell? ⟨w.heap.size + 1, 2, none⟩ = some (.int .i64 0) := HS3.out.bx.cell 2
  have f2 := HS3.out.bx.fz 2
  have c3 : w1.cell? ⟨w.heap.size + 1, 3, none⟩ = some (.int .i64 0) := HS3.out.bx.cell 3
  have f3 := HS3.out.bx.fz 3
  have HS4 := Lib.hid (((HS3.out.p 1 (.int .i64 (a1_0 : Nat))).p 2 (.int .i64 (a1_1 : Nat))).p 3 (.int .i64 (a1_2 : Nat)))
  go_wp2_with fail
  refine (K2.out _ _ HS4.out.tk).mono ?_
  rintro e w2 ⟨v2, rfl, hr, h1, ho1⟩
  have HS5 := Lib.hid (HS4.out.go h1 ho1)
  have HO2_2 := Lib.hid ((hr.less HS4.out.two).go (w0 := w) HG.out (Only.refl g _))
  obtain ⟨sa2, sc2, rfl⟩ := hr.slice
  clear hr
  clear h1 ho1
  clear c1 f1 c2 f2 c3 f3
  have c4 : w2.cell? ⟨w.heap.size + 1, 4, none⟩ = some (.slice none 0 0) := HS5.out.bx.cell 4
  have f4 := HS5.out.bx.fz 4
  have HO2_2p := Lib.hid (HO2_2.out.p 4 (.slice sa2 y2.length sc2))
  have HS6 := Lib.hid (HS5.out.p 4 (.slice sa2 y2.length sc2))
  go_wp2_with fail
  refine (K3.out _ _ HS6.out.tk).mono ?_
  rintro e w3 ⟨v3, rfl, hr, h1, ho1⟩
  have HS7 := Lib.hid (HS6.out.go h1 ho1)
  have HO2_3 := Lib.hid (OwnP.go HO2_2p.out HG.out ho1)
  have HO3_3 := Lib.hid ((hr.less HS6.out.two).go (w0 := w) HG.out (Only.refl g _))
  obtain ⟨sa3, sc3, rfl⟩ := hr.slice
  clear hr
  clear h1 ho1
  clear c4 f4
  have c5 : w3.cell? ⟨w.heap.size + 1, 5, none⟩ = some (.slice none 0 0) := HS7.out.bx.cell 5
  have f5 := HS7.out.bx.fz 5
  have HO2_3p := Lib.hid (HO2_3.out.p 5 (.slice sa3 y3.length sc3))
  have HO3_3p := Lib.hid (HO3_3.out.p 5 (.slice sa3 y3.length sc3))
  have HS8 := Lib.hid (HS7.out.p 5 (.slice sa3 y3.length sc3))
  have c0 : w3.cell? ⟨w.heap.size + 1, 0, none⟩ = some (.string q0) := HS7.out.bx.cell 0
  have c1 : w3.cell? ⟨w.heap.size + 1, 1, none⟩ = some (.int .i64 (a1_0 : Nat)) := HS7.out.bx.cell 1
  have c2 : w3.cell? ⟨w.heap.size + 1, 2, none⟩ = some (.int .i64 (a1_1 : Nat)) := HS7.out.bx.cell 2
  have c3 : w3.cell? ⟨w.heap.size + 1, 3, none⟩ = some (.int .i64 (a1_2 : Nat)) := HS7.out.bx.cell 3
  have c4 : w3.cell? ⟨w.heap.size + 1, 4, none⟩ = some (.slice sa2 y2.length sc2) := HS7.out.bx.cell 4
  have r0 : w3.cell? ⟨w.heap.size, 0, none⟩ = some (.string ⟨#[]⟩) := HS7.out.rb.cell 0
  have g0 := HS7.out.rb.fz 0
  have r1 : w3.cell? ⟨w.heap.size, 1, none⟩ = some (.int .i64 0) := HS7.out.rb.cell 1
  have g1 := HS7.out.rb.fz 1
  have r2 : w3.cell? ⟨w.heap.size, 2, none⟩ = some (.int .i64 0) := HS7.out.rb.cell 2
  have g2 := HS7.out.rb.fz 2
  have r3 : w3.cell? ⟨w.heap.size, 3, none⟩ = some (.int .i64 0) := HS7.out.rb.cell 3
  have g3 := HS7.out.rb.fz 3
  have r4 : w3.cell? ⟨w.heap.size, 4, none⟩ = some (.slice none 0 0) := HS7.out.rb.cell 4
  have g4 := HS7.out.rb.fz 4
  have r5 : w3.cell? ⟨w.heap.size, 5, none⟩ = some (.slice none 0 0) := HS7.out.rb.cell 5
  have g5 := HS7.out.rb.fz 5
  go_wp2
  refine bodyPost_bx rfl w.heap.size [.string q0, .int .i64 (a1_0 : Nat), .int .i64 (a1_1 : Nat), .int .i64 (a1_2 : Nat), .slice sa2 y2.length sc2, .slice sa3 y3.length sc3] _ rfl rfl ?_ Try.underlying27 rfl rfl ?_
  case refine_1 => exact ((((((HS8.out.q 0 _).q 1 _).q 2 _).q 3 _).q 4 _).q 5 _).rb
  case refine_2 => exact ⟨_, _, rfl, (OwnP.q (OwnP.q (OwnP.q (OwnP.q (OwnP.q (OwnP.q HO2_3p.out 0 _) 1 _) 2 _) 3 _) 4 _) 5 _), (OwnP.q (OwnP.q (OwnP.q (OwnP.q (OwnP.q (OwnP.q HO3_3p.out 0 _) 1 _) 2 _) 3 _) 4 _) 5 _), ((((((HS8.out.q 0 _).q 1 _).q 2 _).q 3 _).q 4 _).q 5 _).tk, ((((((HS8.out.q 0 _).q 1 _).q 2 _).q 3 _).q 4 _).q 5 _).on⟩
set_option maxRecDepth 100000 in
set_option maxHeartbeats 2000000 in
theorem task_take (g : Nat) (l : List UInt8) (b : Bool) (w : World) (h : Tk w g l b) (hl : l.length ≤ maxLen) :
    Calls Try.prog 83 #[.pointer (some ⟨g, 0, none⟩)] w fun en w' => ∃ v2 v3, en = .returned (.agg #[.string (bs (ttT (l))), .int .i64 (taV (ttR l) 0 : Nat), .int .i64 (taV (ttR l) 1 : Nat), .int .i64 (taV (ttR l) 2 : Nat), v2, v3, .string (bs (ttT (prR (prR (taR (ttR l) 3))))), .string (bs (ttT (ttR (prR (prR (taR (ttR l) 3)))))), .int .i64 ((upV 2000 (ttR (ttR (prR (prR (taR (ttR l) 3))))) : Nat) - 1000)]) ∧ OwnP w' (w.heap.size + 2) v2 (prL (taR (ttR l) 3)) ∧ OwnP w' (w.heap.size + 2) v3 (prL (prR (taR (ttR l) 3))) ∧ Tk w' g (upR 2000 (ttR (ttR (prR (prR (taR (ttR l) 3)))))) (upB 2000 (ttR (ttR (prR (prR (taR (ttR l) 3)))))) ∧ Only g w w' := by
  obtain ⟨rk6, hrk6⟩ : ∃ r, upV 2000 (ttR (ttR (prR (prR (taR (ttR l) 3))))) = r := ⟨_, rfl⟩
  have hr6 : rk6 ≤ 2000 := by rw [← hrk6]; exact upV_le 2000 _
  have K0 := Lib.hid (fun z c (hz : Tk z g (l) c) => text_part g (l) c z hz (Nat.le_trans (Nat.le_refl _) hl))
  have K1 := Lib.hid (fun z c (hz : Tk z g (ttR l) c) => amts_take g (ttR l) c z hz (Nat.le_trans (ttR_length l) hl))
  have K2 := Lib.hid (fun z c (hz : Tk z g (taR (ttR l) 3) c) => pairs_take g (taR (ttR l) 3) c z hz (Nat.le_trans (Nat.le_trans (taR3_length _) (ttR_length l)) hl))
  have K3 := Lib.hid (fun z c (hz : Tk z g (prR (taR (ttR l) 3)) c) => pairs_take g (prR (taR (ttR l) 3)) c z hz (Nat.le_trans (Nat.le_trans (prR_length _) (Nat.le_trans (taR3_length _) (ttR_length l))) hl))
  have K4 := Lib.hid (fun z c (hz : Tk z g (prR (prR (taR (ttR l) 3))) c) => text_part g (prR (prR (taR (ttR l) 3))) c z hz (Nat.le_trans (Nat.le_trans (prR_length _) (Nat.le_trans (prR_length _) (Nat.le_trans (taR3_length _) (ttR_length l)))) hl))
  have K5 := Lib.hid (fun z c (hz : Tk z g (ttR (prR (prR (taR (ttR l) 3)))) c) => text_part g (ttR (prR (prR (taR (ttR l) 3)))) c z hz (Nat.le_trans (Nat.le_trans (ttR_length _) (Nat.le_trans (prR_length _) (Nat.le_trans (prR_length _) (Nat.le_trans (taR3_length _) (ttR_length l))))) hl))
  have K6 : Hid (∀ z c, Tk z g (ttR (ttR (prR (prR (taR (ttR l) 3))))) c → Calls Try.prog 54 #[.pointer (some ⟨g, 0, none⟩), .int .u64 2000] z fun en w' => en = .returned (.int .u64 (rk6 : Nat)) ∧ Tk w' g (upR 2000 (ttR (ttR (prR (prR (taR (ttR l) 3)))))) (upB 2000 (ttR (ttR (prR (prR (taR (ttR l) 3)))))) ∧ Only g z w') := fun z c hz => by rw [← hrk6]; exact upto_part g (ttR (ttR (prR (prR (taR (ttR l) 3))))) c 2000 z hz (Nat.le_trans (Nat.le_trans (ttR_length _) (Nat.le_trans (ttR_length _) (Nat.le_trans (prR_length _) (Nat.le_trans (prR_length _) (Nat.le_trans (taR3_length _) (ttR_length l)))))) hl)
  have HS0 := Lib.hid (Tz.made [.string ⟨#[]⟩, .int .i64 0, .int .i64 0, .int .i64 0, .slice none 0 0, .slice none 0 0, .string ⟨#[]⟩, .string ⟨#[]⟩, .int .i64 0] 29 h)
  have HG := Lib.hid h.lt
  clear h hl
  rw [hrk6]
  clear hrk6
  have tr6 : IntKind.i64.wrap ((rk6 : Nat) : Int) = ((rk6 : Nat) : Int) := by rw [IntKind.wrap_i64]; omega
  have tq6 : IntKind.i64.wrap (((rk6 : Nat) : Int) - 1000) = ((rk6 : Nat) : Int) - 1000 := by rw [IntKind.wrap_i64]; omega
  generalize bs (ttT (l)) = q0 at *
  generalize taV (ttR l) 0 = a1_0 at *
  generalize taV (ttR l) 1 = a1_1 at *
  generalize taV (ttR l) 2 = a1_2 at *
  generalize bs (ttT (prR (prR (taR (ttR l) 3)))) = q4 at *
  generalize bs (ttT (ttR (prR (prR (taR (ttR l) 3))))) = q5 at *
  generalize prL (prR (taR (ttR l) 3)) = y3 at *
  generalize prL (taR (ttR l) 3) = y2 at *
  go_enter Try.func83, Try.ntmps83
  go_wp2_with fail
  refine (K0.out _ _ HS0.out.tk).mono ?_
  rintro e w0 ⟨rfl, h1, ho1⟩
  have HS1 := Lib.hid (HS0.out.go h1 ho1)
  clear h1 ho1
  have c0 : w0.cell? ⟨w.heap.size + 1, 0, none⟩ = some (.string ⟨#[]⟩) := HS1.out.bx.cell 0
  have f0 := HS1.out.bx.fz 0
  have HS2 := Lib.hid (HS1.out.p 0 (.string q0))
  go_wp2_with fail
  refine (K1.out _ _ HS2.out.tk).mono ?_
  rintro e w1 ⟨rfl, h1, ho1⟩
  have HS3 := Lib.hid (HS2.out.go h1 ho1)
  clear h1 ho1
  clear c0 f0
  have c1 : w1.cell? ⟨w.heap.size + 1, 1, none⟩ = some (.int .i64 0) := HS3.out.bx.cell 1
  have f1 := HS3.out.bx.fz 1
  have c2 : w1.cell? ⟨w.heap.size + 1, 2, none⟩ = some (.int .i64 0) := HS3.out.bx.cell 2
  have f2 := HS3.out.bx.fz 2
  have c3 : w1.cell? ⟨w.heap.size + 1, 3, none⟩ = some (.int .i64 0) := HS3.out.bx.cell 3
  have f3 := HS3.out.bx.fz 3
  have HS4 := Lib.hid (((HS3.out.p 1 (.int .i64 (a1_0 : Nat))).p 2 (.int .i64 (a1_1 : Nat))).p 3 (.int .i64 (a1_2 : Nat)))
  go_wp2_with fail
  refine (K2.out _ _ HS4.out.tk).mono ?_
  rintro e w2 ⟨v2, rfl, hr, h1, ho1⟩
  have HS5 := Lib.hid (HS4.out.go h1 ho1)
  have HO2_2 := Lib.hid ((hr.less HS4.out.two).go (w0 := w) HG.out (Only.refl g _))
  obtain ⟨sa2, sc2, rfl⟩ := hr.slice
  clear hr
  clear h1 ho1
  clear c1 f1 c2 f2 c3 f3
  have c4 : w2.cell? ⟨w.heap.size + 1, 4, none⟩ = some (.slice none 0 0) := HS5.out.bx.cell 4
  have f4 := HS5.out.bx.fz 4
  have HO2_2p := Lib.hid (HO2_2.out.p 4 (.slice sa2 y2.length sc2))
  have HS6 := Lib.hid (HS5.out.p 4 (.slice sa2 y2.length sc2))
  go_wp2_with fail
  refine (K3.out _ _ HS6.out.tk).mono ?_
  rintro e w3 ⟨v3, rfl, hr, h1, ho1⟩
  have HS7 := Lib.hid (HS6.out.go h1 ho1)
  have HO2_3 := Lib.hid (OwnP.go HO2_2p.out HG.out ho1)
  have HO3_3 := Lib.hid ((hr.less HS6.out.two).go (w0 := w) HG.out (Only.refl g _))
  obtain ⟨sa3, sc3, rfl⟩ := hr.slice
  clear hr
  clear h1 ho1
  clear c4 f4
  have c5 : w3.cell? ⟨w.heap.size + 1, 5, none⟩ = some (.slice none 0 0) := HS7.out.bx.cell 5
  have f5 := HS7.out.bx.fz 5
  have HO2_3p := Lib.hid (HO2_3.out.p 5 (.slice sa3 y3.length sc3))
  have HO3_3p := Lib.hid (HO3_3.out.p 5 (.slice sa3 y3.length sc3))
  have HS8 := Lib.hid (HS7.out.p 5 (.slice sa3 y3.length sc3))
  go_wp2_with fail
  refine (K4.out _ _ HS8.out.tk).mono ?_
  rintro e w4 ⟨rfl, h1, ho1⟩
  have HS9 := Lib.hid (HS8.out.go h1 ho1)
  have HO2_4 := Lib.hid (OwnP.go HO2_3p.out HG.out ho1)
  have HO3_4 := Lib.hid (OwnP.go HO3_3p.out HG.out ho1)
  clear h1 ho1
  clear c5 f5
  have c6 : w4.cell? ⟨w.heap.size + 1, 6, none⟩ = some (.string ⟨#[]⟩) := HS9.out.bx.cell 6
  have f6 := HS9.out.bx.fz 6
  have HO2_4p := Lib.hid (HO2_4.out.p 6 (.string q4))
  have HO3_4p := Lib.hid (HO3_4.out.p 6 (.string q4))
  have HS10 := Lib.hid (HS9.out.p 6 (.string q4))
  go_wp2_with fail
  refine (K5.out _ _ HS10.out.tk).mono ?_
  rintro e w5 ⟨rfl, h1, ho1⟩
  have HS11 := Lib.hid (HS10.out.go h1 ho1)
  have HO2_5 := Lib.hid (OwnP.go HO2_4p.out HG.out ho1)
  have HO3_5 := Lib.hid (OwnP.go HO3_4p.out HG.out ho1)
  clear h1 ho1
  clear c6 f6
  have c7 : w5.cell? ⟨w.heap.size + 1, 7, none⟩ = some (.string ⟨#[]⟩) := HS11.out.bx.cell 7
  have f7 := HS11.out.bx.fz 7
  have HO2_5p := Lib.hid (HO2_5.out.p 7 (.string q5))
  have HO3_5p := Lib.hid (HO3_5.out.p 7 (.string q5))
  have HS12 := Lib.hid (HS11.out.p 7 (.string q5))
  go_wp2_with fail
  refine (K6.out _ _ HS12.out.tk).mono ?_
  rintro e w6 ⟨rfl, h1, ho1⟩
  have HS13 := Lib.hid (HS12.out.go h1 ho1)
  have HO2_6 := Lib.hid (OwnP.go HO2_5p.out HG.out ho1)
  have HO3_6 := Lib.hid (OwnP.go HO3_5p.out HG.out ho1)
  clear h1 ho1
  clear c7 f7
  have c8 : w6.cell? ⟨w.heap.size + 1, 8, none⟩ = some (.int .i64 0) := HS13.out.bx.cell 8
  have f8 := HS13.out.bx.fz 8
  have HO2_6p := Lib.hid (HO2_6.out.p 8 (.int .i64 ((rk6 : Nat) - 1000)))
  have HO3_6p := Lib.hid (HO3_6.out.p 8 (.int .i64 ((rk6 : Nat) - 1000)))
  have HS14 := Lib.hid (HS13.out.p 8 (.int .i64 ((rk6 : Nat) - 1000)))
  have c0 : w6.cell? ⟨w.heap.size + 1, 0, none⟩ = some (.string q0) := HS13.out.bx.cell 0
  have c1 : w6.cell? ⟨w.heap.size + 1, 1, none⟩ = some (.int .i64 (a1_0 : Nat)) := HS13.out.bx.cell 1
  have c2 : w6.cell? ⟨w.heap.size + 1, 2, none⟩ = some (.int .i64 (a1_1 : Nat)) := HS13.out.bx.cell 2
  have c3 : w6.cell? ⟨w.heap.size + 1, 3, none⟩ = some (.int .i64 (a1_2 : Nat)) := HS13.out.bx.cell 3
  have c4 : w6.cell? ⟨w.heap.size + 1, 4, none⟩ = some (.slice sa2 y2.length sc2) := HS13.out.bx.cell 4
  have c5 : w6.cell? ⟨w.heap.size + 1, 5, none⟩ = some (.slice sa3 y3.length sc3) := HS13.out.bx.cell 5
  have c6 : w6.cell? ⟨w.heap.size + 1, 6, none⟩ = some (.string q4) := HS13.out.bx.cell 6
  have c7 : w6.cell? ⟨w.heap.size + 1, 7, none⟩ = some (.string q5) := HS13.out.bx.cell 7
  have r0 : w6.cell? ⟨w.heap.size, 0, none⟩ = some (.string ⟨#[]⟩) := HS13.out.rb.cell 0
  have g0 := HS13.out.rb.fz 0
  have r1 : w6.cell? ⟨w.heap.size, 1, none⟩ = some (.int .i64 0) := HS13.out.rb.cell 1
  have g1 := HS13.out.rb.fz 1
  have r2 : w6.cell? ⟨w.heap.size, 2, none⟩ = some (.int .i64 0) := HS13.out.rb.cell 2
  have g2 := HS13.out.rb.fz 2
  have r3 : w6.cell? ⟨w.heap.size, 3, none⟩ = some (.int .i64 0) := HS13.out.rb.cell 3
  have g3 := HS13.out.rb.fz 3
  have r4 : w6.cell? ⟨w.heap.size, 4, none⟩ = some (.slice none 0 0) := HS13.out.rb.cell 4
  have g4 := HS13.out.rb.fz 4
  have r5 : w6.cell? ⟨w.heap.size, 5, none⟩ = some (.slice none 0 0) := HS13.out.rb.cell 5
  have g5 := HS13.out.rb.fz 5
  have r6 : w6.cell? ⟨w.heap.size, 6, none⟩ = some (.string ⟨#[]⟩) := HS13.out.rb.cell 6
  have g6 := HS13.out.rb.fz 6
  have r7 : w6.cell? ⟨w.heap.size, 7, none⟩ = some (.string ⟨#[]⟩) := HS13.out.rb.cell 7
  have g7 := HS13.out.rb.fz 7
  have r8 : w6.cell? ⟨w.heap.size, 8, none⟩ = some (.int .i64 0) := HS13.out.rb.cell 8
  have g8 := HS13.out.rb.fz 8
  go_wp2
  refine bodyPost_bx rfl w.heap.size [.string q0, .int .i64 (a1_0 : Nat), .int .i64 (a1_1 : Nat), .int .i64 (a1_2 : Nat), .slice sa2 y2.length sc2, .slice sa3 y3.length sc3, .string q4, .string q5, .int .i64 ((rk6 : Nat) - 1000)] _ rfl rfl ?_ Try.underlying29 rfl rfl ?_
  case refine_1 => exact (((((((((HS14.out.q 0 _).q 1 _).q 2 _).q 3 _).q 4 _).q 5 _).q 6 _).q 7 _).q 8 _).rb
  case refine_2 => exact ⟨_, _, rfl, (OwnP.q (OwnP.q (OwnP.q (OwnP.q (OwnP.q (OwnP.q (OwnP.q (OwnP.q (OwnP.q HO2_6p.out 0 _) 1 _) 2 _) 3 _) 4 _) 5 _) 6 _) 7 _) 8 _), (OwnP.q (OwnP.q (OwnP.q (OwnP.q (OwnP.q (OwnP.q (OwnP.q (OwnP.q (OwnP.q HO3_6p.out 0 _) 1 _) 2 _) 3 _) 4 _) 5 _) 6 _) 7 _) 8 _), (((((((((HS14.out.q 0 _).q 1 _).q 2 _).q 3 _).q 4 _).q 5 _).q 6 _).q 7 _).q 8 _).tk, (((((((((HS14.out.q 0 _).q 1 _).q 2 _).q 3 _).q 4 _).q 5 _).q 6 _).q 7 _).q 8 _).on⟩
end Hd
end Go.Proofs.Ythlchdlgafincaa

/-
  WHAT AN ORDER's KIND HAS, taken.
-/
namespace Go.Proofs.Ythlchdlgafincaa
open Go.RowKit
namespace Hd
open PM Hc
/-- Where the taking into a box B stands: only the taker g and the box have turned. -/
structure Tf (z0 : World) (g B : Nat) (l : List UInt8) (b : Bool) (cs : List Value) (x : World) : Prop where
  tk : Tk x g l b
  bx : Bxn x B cs
  fr : Two z0.heap.size g B z0 x
  gb : g ≠ B
  lt : g < z0.heap.size
  lb : B < z0.heap.size
theorem Tf.made {z0 : World} {g B : Nat} {l : List UInt8} {b : Bool} {cs : List Value} (h : Tk z0 g l b) (hx : Bxn z0 B cs) (hg : g ≠ B) : Tf z0 g B l b cs z0 := ⟨h, hx, Two.refl _ _ _ _, hg, h.lt, hx.lt⟩
theorem Tf.go {z0 : World} {g B : Nat} {l l2 : List UInt8} {b b2 : Bool} {cs : List Value} {x x' : World} (h : Tf z0 g B l b cs x) (ht : Tk x' g l2 b2) (ho : Only g x x') : Tf z0 g B l2 b2 cs x' :=
  ⟨ht, h.bx.only ho h.gb.symm, h.fr.trans (Two.of_only ho h.fr.2.2.2.1), h.gb, h.lt, h.lb⟩
theorem Tf.p {z0 : World} {g B : Nat} {l : List UInt8} {b : Bool} {cs : List Value} {x : World} (h : Tf z0 g B l b cs x) (i : Nat) (u : Value) : Tf z0 g B l b (cs.set i u) (x.setCell ⟨B, i, none⟩ u) :=
  ⟨h.tk.far h.gb i u, h.bx.set i u, h.fr.trans (Two.put _ _ _ _ _ _), h.gb, h.lt, h.lb⟩
theorem OwnP.pb {x : World} {base B : Nat} {v : Value} {ps : List Rg.Pr} (h : OwnP x base v ps) (hB : B < base) (i : Nat) (u : Value) : OwnP (x.setCell ⟨B, i, none⟩ u) base v ps := h.put (h.far hB) i u
set_option maxRecDepth 100000 in
set_option maxHeartbeats 2000000 in
theorem fields_tnode (C0 C1 : Value) (g B : Nat) (l : List UInt8) (b : Bool) (w : World) (h : Tk w g l b) (hx : Bxn w B [C0, C1, .int .u8 1, .string ⟨#[]⟩, .int .i64 0, .int .i64 0, .int .i64 0, .slice none 0 0, .slice none 0 0, .string ⟨#[]⟩, .int .i64 0, .int .i64 0, .int .i64 0, .slice none 0 0, .slice none 0 0, .string ⟨#[]⟩, .string ⟨#[]⟩, .int .i64 0, .string ⟨#[]⟩, .string ⟨#[]⟩, .int .u64 0]) (hg : g ≠ B) (hl : l.length ≤ maxLen) :
    Calls Try.prog 55 #[.pointer (some ⟨g, 0, none⟩), .pointer (some ⟨B, 2, none⟩)] w fun en w' => en = .returned (.tuple #[]) ∧ ∃ v2 v3, OwnP w' w.heap.size v2 (prL (taR (ttR l) 3)) ∧ OwnP w' w.heap.size v3 (prL (prR (taR (ttR l) 3))) ∧ Tf w g B (prR (prR (taR (ttR l) 3))) (prW (prR (taR (ttR l) 3))) [C0, C1, .int .u8 1, .string (bs (ttT l)), .int .i64 (taV (ttR l) 0 : Nat), .int .i64 (taV (ttR l) 1 : Nat), .int .i64 (taV (ttR l) 2 : Nat), v2, v3, .string ⟨#[]⟩, .int .i64 0, .int .i64 0, .int .i64 0, .slice none 0 0, .slice none 0 0, .string ⟨#[]⟩, .string ⟨#[]⟩, .int .i64 0, .string ⟨#[]⟩, .string ⟨#[]⟩, .int .u64 0] w' := by
  have K0 := Lib.hid (fun z c (hz : Tk z g l c) => node_take g l c z hz hl)
  have HS0 := Lib.hid (Tf.made h hx hg)
  clear h hx hg hl
  have c2 : w.cell? ⟨B, 2, none⟩ = some (.int .u8 1) := HS0.out.bx.cell 2
  generalize bs (ttT l) = q0 at *
  generalize taV (ttR l) 0 = a0 at *
  generalize taV (ttR l) 1 = a1 at *
  generalize taV (ttR l) 2 = a2 at *
  generalize prL (prR (taR (ttR l) 3)) = y3 at *
  generalize prL (taR (ttR l) 3) = y2 at *
  go_enter Try.func55, Try.ntmps55
  go_wp2_with fail
  refine (K0.out _ _ HS0.out.tk).mono ?_
  rintro e w1 ⟨v2, v3, rfl, hr2, hr3, h1, ho1⟩
  have HS1 := Lib.hid (HS0.out.go h1 ho1)
  obtain ⟨sa2, sc2, rfl⟩ := hr2.slice
  obtain ⟨sa3, sc3, rfl⟩ := hr3.slice
  have R2 := Lib.hid (hr2.less (Nat.le_add_right w.heap.size 2))
  have R3 := Lib.hid (hr3.less (Nat.le_add_right w.heap.size 2))
  clear hr2 hr3 h1 ho1 c2
  have d0 : w1.cell? ⟨B, 3, none⟩ = some (.string ⟨#[]⟩) := HS1.out.bx.cell 3
  have f0 := HS1.out.bx.fz 3
  have d1 : w1.cell? ⟨B, 4, none⟩ = some (.int .i64 0) := HS1.out.bx.cell 4
  have f1 := HS1.out.bx.fz 4
  have d2 : w1.cell? ⟨B, 5, none⟩ = some (.int .i64 0) := HS1.out.bx.cell 5
  have f2 := HS1.out.bx.fz 5
  have d3 : w1.cell? ⟨B, 6, none⟩ = some (.int .i64 0) := HS1.out.bx.cell 6
  have f3 := HS1.out.bx.fz 6
  have d4 : w1.cell? ⟨B, 7, none⟩ = some (.slice none 0 0) := HS1.out.bx.cell 7
  have f4 := HS1.out.bx.fz 7
  have d5 : w1.cell? ⟨B, 8, none⟩ = some (.slice none 0 0) := HS1.out.bx.cell 8
  have f5 := HS1.out.bx.fz 8
  go_wp2
  go_end0
  exact ⟨rfl, _, _, ((((((R2.out.pb HS0.out.lb 3 _).pb HS0.out.lb 4 _).pb HS0.out.lb 5 _).pb HS0.out.lb 6 _).pb HS0.out.lb 7 _).pb HS0.out.lb 8 _), ((((((R3.out.pb HS0.out.lb 3 _).pb HS0.out.lb 4 _).pb HS0.out.lb 5 _).pb HS0.out.lb 6 _).pb HS0.out.lb 7 _).pb HS0.out.lb 8 _), ((((((HS1.out.p 3 _).p 4 _).p 5 _).p 6 _).p 7 _).p 8 _)⟩
set_option maxRecDepth 100000 in
set_option maxHeartbeats 2000000 in
theorem fields_ttask (C0 C1 : Value) (g B : Nat) (l : List UInt8) (b : Bool) (w : World) (h : Tk w g l b) (hx : Bxn w B [C0, C1, .int .u8 3, .string ⟨#[]⟩, .int .i64 0, .int .i64 0, .int .i64 0, .slice none 0 0, .slice none 0 0, .string ⟨#[]⟩, .int .i64 0, .int .i64 0, .int .i64 0, .slice none 0 0, .slice none 0 0, .string ⟨#[]⟩, .string ⟨#[]⟩, .int .i64 0, .string ⟨#[]⟩, .string ⟨#[]⟩, .int .u64 0]) (hg : g ≠ B) (hl : l.length ≤ maxLen) :
    Calls Try.prog 55 #[.pointer (some ⟨g, 0, none⟩), .pointer (some ⟨B, 2, none⟩)] w fun en w' => en = .returned (.tuple #[]) ∧ ∃ v2 v3, OwnP w' w.heap.size v2 (prL (taR (ttR l) 3)) ∧ OwnP w' w.heap.size v3 (prL (prR (taR (ttR l) 3))) ∧ Tf w g B (upR 2000 (ttR (ttR (prR (prR (taR (ttR l) 3)))))) (upB 2000 (ttR (ttR (prR (prR (taR (ttR l) 3)))))) [C0, C1, .int .u8 3, .string ⟨#[]⟩, .int .i64 0, .int .i64 0, .int .i64 0, .slice none 0 0, .slice none 0 0, .string (bs (ttT l)), .int .i64 (taV (ttR l) 0 : Nat), .int .i64 (taV (ttR l) 1 : Nat), .int .i64 (taV (ttR l) 2 : Nat), v2, v3, .string (bs (ttT (prR (prR (taR (ttR l) 3))))), .string (bs (ttT (ttR (prR (prR (taR (ttR l) 3)))))), .int .i64 ((upV 2000 (ttR (ttR (prR (prR (taR (ttR l) 3))))) : Nat) - 1000), .string ⟨#[]⟩, .string ⟨#[]⟩, .int .u64 0] w' := by
  have K0 := Lib.hid (fun z c (hz : Tk z g l c) => task_take g l c z hz hl)
  have HS0 := Lib.hid (Tf.made h hx hg)
  clear h hx hg hl
  have c2 : w.cell? ⟨B, 2, none⟩ = some (.int .u8 3) := HS0.out.bx.cell 2
  generalize bs (ttT l) = q0 at *
  generalize taV (ttR l) 0 = a0 at *
  generalize taV (ttR l) 1 = a1 at *
  generalize taV (ttR l) 2 = a2 at *
  generalize bs (ttT (prR (prR (taR (ttR l) 3)))) = q1 at *
  generalize bs (ttT (ttR (prR (prR (taR (ttR l) 3))))) = q2 at *
  generalize upV 2000 (ttR (ttR (prR (prR (taR (ttR l) 3))))) = rk at *
  generalize prL (prR (taR (ttR l) 3)) = y3 at *
  generalize prL (taR (ttR l) 3) = y2 at *
  go_enter Try.func55, Try.ntmps55
  go_wp2_with fail
  refine (K0.out _ _ HS0.out.tk).mono ?_
  rintro e w1 ⟨v2, v3, rfl, hr2, hr3, h1, ho1⟩
  have HS1 := Lib.hid (HS0.out.go h1 ho1)
  obtain ⟨sa2, sc2, rfl⟩ := hr2.slice
  obtain ⟨sa3, sc3, rfl⟩ := hr3.slice
  have R2 := Lib.hid (hr2.less (Nat.le_add_right w.heap.size 2))
  have R3 := Lib.hid (hr3.less (Nat.le_add_right w.heap.size 2))
  clear hr2 hr3 h1 ho1 c2
  have d0 : w1.cell? ⟨B, 9, none⟩ = some (.string ⟨#[]⟩) := HS1.out.bx.cell 9
  have f0 := HS1.out.bx.fz 9
  have d1 : w1.cell? ⟨B, 10, none⟩ = some (.int .i64 0) := HS1.out.bx.cell 10
  have f1 := HS1.out.bx.fz 10
  have d2 : w1.cell? ⟨B, 11, none⟩ = some (.int .i64 0) := HS1.out.bx.cell 11
  have f2 := HS1.out.bx.fz 11
  have d3 : w1.cell? ⟨B, 12, none⟩ = some (.int .i64 0) := HS1.out.bx.cell 12
  have f3 := HS1.out.bx.fz 12
  have d4 : w1.cell? ⟨B, 13, none⟩ = some (.slice none 0 0) := HS1.out.bx.cell 13
  have f4 := HS1.out.bx.fz 13
  have d5 : w1.cell? ⟨B, 14, none⟩ = some (.slice none 0 0) := HS1.out.bx.cell 14
  have f5 := HS1.out.bx.fz 14
  have d6 : w1.cell? ⟨B, 15, none⟩ = some (.string ⟨#[]⟩) := HS1.out.bx.cell 15
  have f6 := HS1.out.bx.fz 15
  have d7 : w1.cell? ⟨B, 16, none⟩ = some (.string ⟨#[]⟩) := HS1.out.bx.cell 16
  have f7 := HS1.out.bx.fz 16
  have d8 : w1.cell? ⟨B, 17, none⟩ = some (.int .i64 0) := HS1.out.bx.cell 17
  have f8 := HS1.out.bx.fz 17
  go_wp2
  go_end0
  exact ⟨rfl, _, _, (((((((((R2.out.pb HS0.out.lb 9 _).pb HS0.out.lb 10 _).pb HS0.out.lb 11 _).pb HS0.out.lb 12 _).pb HS0.out.lb 13 _).pb HS0.out.lb 14 _).pb HS0.out.lb 15 _).pb HS0.out.lb 16 _).pb HS0.out.lb 17 _), (((((((((R3.out.pb HS0.out.lb 9 _).pb HS0.out.lb 10 _).pb HS0.out.lb 11 _).pb HS0.out.lb 12 _).pb HS0.out.lb 13 _).pb HS0.out.lb 14 _).pb HS0.out.lb 15 _).pb HS0.out.lb 16 _).pb HS0.out.lb 17 _), (((((((((HS1.out.p 9 _).p 10 _).p 11 _).p 12 _).p 13 _).p 14 _).p 15 _).p 16 _).p 17 _)⟩
set_option maxRecDepth 100000 in
set_option maxHeartbeats 2000000 in
theorem fields_tbind (C0 C1 : Value) (g B : Nat) (l : List UInt8) (b : Bool) (w : World) (h : Tk w g l b) (hx : Bxn w B [C0, C1, .int .u8 5, .string ⟨#[]⟩, .int .i64 0, .int .i64 0, .int .i64 0, .slice none 0 0, .slice none 0 0, .string ⟨#[]⟩, .int .i64 0, .int .i64 0, .int .i64 0, .slice none 0 0, .slice none 0 0, .string ⟨#[]⟩, .string ⟨#[]⟩, .int .i64 0, .string ⟨#[]⟩, .string ⟨#[]⟩, .int .u64 0]) (hg : g ≠ B) (hl : l.length ≤ maxLen) :
    Calls Try.prog 55 #[.pointer (some ⟨g, 0, none⟩), .pointer (some ⟨B, 2, none⟩)] w fun en w' => en = .returned (.tuple #[]) ∧ Tf w g B (tnR (ttR (ttR l))) (decide (tnW (ttR (ttR l)) ≠ 0)) [C0, C1, .int .u8 5, .string ⟨#[]⟩, .int .i64 0, .int .i64 0, .int .i64 0, .slice none 0 0, .slice none 0 0, .string ⟨#[]⟩, .int .i64 0, .int .i64 0, .int .i64 0, .slice none 0 0, .slice none 0 0, .string ⟨#[]⟩, .string ⟨#[]⟩, .int .i64 0, .string (bs (ttT (l))), .string (bs (ttT (ttR l))), .int .u64 (tnN (ttR (ttR l)) : Nat)] w' := by
  have K0 := Lib.hid (fun z c (hz : Tk z g (l) c) => text_part g (l) c z hz (hl))
  have K1 := Lib.hid (fun z c (hz : Tk z g (ttR l) c) => text_part g (ttR l) c z hz (Nat.le_trans (ttR_length l) hl))
  have K2 := Lib.hid (fun z c (hz : Tk z g (ttR (ttR l)) c) => number_part g (ttR (ttR l)) c z hz (Nat.le_trans (ttR_length _) (Nat.le_trans (ttR_length l) hl)))
  have HS0 := Lib.hid (Tf.made h hx hg)
  clear h hx hg hl
  have c2 : w.cell? ⟨B, 2, none⟩ = some (.int .u8 5) := HS0.out.bx.cell 2
  generalize bs (ttT (l)) = q0 at *
  generalize bs (ttT (ttR l)) = q1 at *
  generalize tnN (ttR (ttR l)) = q2 at *
  go_enter Try.func55, Try.ntmps55
  go_wp2_with fail
  refine (K0.out _ _ HS0.out.tk).mono ?_
  rintro e w1 ⟨rfl, h1, ho1⟩
  have HS1 := Lib.hid (HS0.out.go h1 ho1)
  clear h1 ho1 c2
  have d0 : w1.cell? ⟨B, 18, none⟩ = some (.string ⟨#[]⟩) := HS1.out.bx.cell 18
  have g0 := HS1.out.bx.fz 18
  have HS2 := Lib.hid (HS1.out.p 18 (.string q0))
  go_wp2_with fail
  refine (K1.out _ _ HS2.out.tk).mono ?_
  rintro e w2 ⟨rfl, h1, ho1⟩
  have HS3 := Lib.hid (HS2.out.go h1 ho1)
  clear h1 ho1
  clear d0 g0
  have d1 : w2.cell? ⟨B, 19, none⟩ = some (.string ⟨#[]⟩) := HS3.out.bx.cell 19
  have g1 := HS3.out.bx.fz 19
  have HS4 := Lib.hid (HS3.out.p 19 (.string q1))
  go_wp2_with fail
  refine (K2.out _ _ HS4.out.tk).mono ?_
  rintro e w3 ⟨rfl, h1, ho1⟩
  have HS5 := Lib.hid (HS4.out.go h1 ho1)
  clear h1 ho1
  clear d1 g1
  have d2 : w3.cell? ⟨B, 20, none⟩ = some (.int .u64 0) := HS5.out.bx.cell 20
  have g2 := HS5.out.bx.fz 20
  have HS6 := Lib.hid (HS5.out.p 20 (.int .u64 (q2 : Nat)))
  go_wp2
  go_end0
  exact ⟨rfl, HS6.out⟩
set_option maxRecDepth 100000 in
set_option maxHeartbeats 2000000 in
theorem fields_tname (C0 C1 : Value) (k : Nat) (k1 : k ≠ 1) (k3 : k ≠ 3) (k5 : k ≠ 5) (g B : Nat) (l : List UInt8) (b : Bool) (w : World) (h : Tk w g l b) (hx : Bxn w B [C0, C1, .int .u8 (k : Nat), .string ⟨#[]⟩, .int .i64 0, .int .i64 0, .int .i64 0, .slice none 0 0, .slice none 0 0, .string ⟨#[]⟩, .int .i64 0, .int .i64 0, .int .i64 0, .slice none 0 0, .slice none 0 0, .string ⟨#[]⟩, .string ⟨#[]⟩, .int .i64 0, .string ⟨#[]⟩, .string ⟨#[]⟩, .int .u64 0]) (hg : g ≠ B) (hl : l.length ≤ maxLen) :
    Calls Try.prog 55 #[.pointer (some ⟨g, 0, none⟩), .pointer (some ⟨B, 2, none⟩)] w fun en w' => en = .returned (.tuple #[]) ∧ Tf w g B (ttR l) (decide (ttW l ≠ 0)) [C0, C1, .int .u8 (k : Nat), .string ⟨#[]⟩, .int .i64 0, .int .i64 0, .int .i64 0, .slice none 0 0, .slice none 0 0, .string ⟨#[]⟩, .int .i64 0, .int .i64 0, .int .i64 0, .slice none 0 0, .slice none 0 0, .string ⟨#[]⟩, .string ⟨#[]⟩, .int .i64 0, .string (bs (ttT (l))), .string ⟨#[]⟩, .int .u64 0] w' := by
  have K0 := Lib.hid (fun z c (hz : Tk z g (l) c) => text_part g (l) c z hz (hl))
  have e1 : ¬ ((k : Nat) : Int) = 1 := by omega
  have e3 : ¬ ((k : Nat) : Int) = 3 := by omega
  have e5 : ¬ ((k : Nat) : Int) = 5 := by omega
  have f1 : (((k : Nat) : Int) == 1) = false := by simp; omega
  have f3 : (((k : Nat) : Int) == 3) = false := by simp; omega
  have f5 : (((k : Nat) : Int) == 5) = false := by simp; omega
  clear k1 k3 k5
  have HS0 := Lib.hid (Tf.made h hx hg)
  clear h hx hg hl
  have c2 : w.cell? ⟨B, 2, none⟩ = some (.int .u8 (k : Nat)) := HS0.out.bx.cell 2
  generalize bs (ttT (l)) = q0 at *
  go_enter Try.func55, Try.ntmps55
  go_wp2_with fail
  refine (K0.out _ _ HS0.out.tk).mono ?_
  rintro e w1 ⟨rfl, h1, ho1⟩
  have HS1 := Lib.hid (HS0.out.go h1 ho1)
  clear h1 ho1 c2
  have d0 : w1.cell? ⟨B, 18, none⟩ = some (.string ⟨#[]⟩) := HS1.out.bx.cell 18
  have g0 := HS1.out.bx.fz 18
  have HS2 := Lib.hid (HS1.out.p 18 (.string q0))
  go_wp2
  go_end0
  exact ⟨rfl, HS2.out⟩
end Hd
end Go.Proofs.Ythlchdlgafincaa

/-
  A COMMAND as plain data, and what is taken of bytes as one.
-/
namespace Go.Proofs.Ythlchdlgafincaa
open Go.RowKit
namespace Hd
open PM Hc
structure Nd where
  n : ByteArray
  z0 : Int
  z1 : Int
  z2 : Int
  ls : List Rg.Pr
  ts : List Rg.Pr
structure Td where
  n : ByteArray
  z0 : Int
  z1 : Int
  z2 : Int
  ws : List Rg.Pr
  bs : List Rg.Pr
  g : ByteArray
  a : ByteArray
  r : Int
structure Cd where
  cl : Nat
  sq : Nat
  k : Nat
  nd : Nd
  td : Td
  na : ByteArray
  on : ByteArray
  fe : Nat
def nd0 : Nd := ⟨⟨#[]⟩, 0, 0, 0, [], []⟩
def td0 : Td := ⟨⟨#[]⟩, 0, 0, 0, [], [], ⟨#[]⟩, ⟨#[]⟩, 0⟩
/-- The cells of a command. -/
def cdC (c : Cd) (v2 v3 v4 v5 : Value) : List Value :=
  [.int .u64 (c.cl : Nat), .int .u64 (c.sq : Nat), .int .u8 (c.k : Nat), .string c.nd.n, .int .i64 c.nd.z0, .int .i64 c.nd.z1, .int .i64 c.nd.z2, v2, v3,
    .string c.td.n, .int .i64 c.td.z0, .int .i64 c.td.z1, .int .i64 c.td.z2, v4, v5, .string c.td.g, .string c.td.a, .int .i64 c.td.r, .string c.na, .string c.on, .int .u64 (c.fe : Nat)]
def cd0 (cl sq k : Nat) : Cd := ⟨cl, sq, k, nd0, td0, ⟨#[]⟩, ⟨#[]⟩, 0⟩
/-- What is taken as a node, as a task. -/
def ndT (l : List UInt8) : Nd := ⟨bs (ttT l), (taV (ttR l) 0 : Nat), (taV (ttR l) 1 : Nat), (taV (ttR l) 2 : Nat), prL (taR (ttR l) 3), prL (prR (taR (ttR l) 3))⟩
def ndR (l : List UInt8) : List UInt8 := prR (prR (taR (ttR l) 3))
def ndX (l : List UInt8) : Bool := prW (prR (taR (ttR l) 3))
def tkT (l : List UInt8) : Td := ⟨bs (ttT l), (taV (ttR l) 0 : Nat), (taV (ttR l) 1 : Nat), (taV (ttR l) 2 : Nat), prL (taR (ttR l) 3), prL (prR (taR (ttR l) 3)), bs (ttT (ndR l)), bs (ttT (ttR (ndR l))), ((upV 2000 (ttR (ttR (ndR l))) : Nat) : Int) - 1000⟩
def tkR (l : List UInt8) : List UInt8 := upR 2000 (ttR (ttR (ndR l)))
def tkX (l : List UInt8) : Bool := upB 2000 (ttR (ttR (ndR l)))
/-- What is taken, by the kind. -/
def fdT (cl sq k : Nat) (l : List UInt8) : Cd :=
  if k = 1 then ⟨cl, sq, k, ndT l, td0, ⟨#[]⟩, ⟨#[]⟩, 0⟩
  else if k = 3 then ⟨cl, sq, k, nd0, tkT l, ⟨#[]⟩, ⟨#[]⟩, 0⟩
  else if k = 5 then ⟨cl, sq, k, nd0, td0, bs (ttT l), bs (ttT (ttR l)), tnN (ttR (ttR l))⟩
  else ⟨cl, sq, k, nd0, td0, bs (ttT l), ⟨#[]⟩, 0⟩
def fdR (k : Nat) (l : List UInt8) : List UInt8 := if k = 1 then ndR l else if k = 3 then tkR l else if k = 5 then tnR (ttR (ttR l)) else ttR l
def fdB (k : Nat) (l : List UInt8) : Bool := if k = 1 then ndX l else if k = 3 then tkX l else if k = 5 then decide (tnW (ttR (ttR l)) ≠ 0) else decide (ttW l ≠ 0)
def Rows (w : World) (base : Nat) (c : Cd) (v2 v3 v4 v5 : Value) : Prop := OwnP w base v2 c.nd.ls ∧ OwnP w base v3 c.nd.ts ∧ OwnP w base v4 c.td.ws ∧ OwnP w base v5 c.td.bs
def nilS : Value := .slice none 0 0
def FdIs (w : World) (g B : Nat) (l : List UInt8) (cl sq k : Nat) (w' : World) : Prop := ∃ v2 v3 v4 v5, Rows w' w.heap.size (fdT cl sq k l) v2 v3 v4 v5 ∧ Tf w g B (fdR k l) (fdB k l) (cdC (fdT cl sq k l) v2 v3 v4 v5) w'
set_option maxHeartbeats 1000000 in
theorem fields_take (g B : Nat) (l : List UInt8) (b : Bool) (cl sq k : Nat) (w : World) (h : Tk w g l b) (hx : Bxn w B (cdC (cd0 cl sq k) nilS nilS nilS nilS)) (hg : g ≠ B) (hl : l.length ≤ maxLen) :
    Calls Try.prog 55 #[.pointer (some ⟨g, 0, none⟩), .pointer (some ⟨B, 2, none⟩)] w fun en w' => en = .returned (.tuple #[]) ∧ FdIs w g B l cl sq k w' := by
  unfold FdIs
  simp only [cdC, cd0, nd0, td0, nilS] at hx
  by_cases k1 : k = 1
  · have e1 : fdT cl sq k l = ⟨cl, sq, k, ndT l, td0, ⟨#[]⟩, ⟨#[]⟩, 0⟩ := if_pos k1
    have e2 : fdR k l = ndR l := if_pos k1
    have e3 : fdB k l = ndX l := if_pos k1
    rw [e1, e2, e3]
    subst k1
    rw [show ((1 : Nat) : Int) = 1 from rfl, show ((0 : Nat) : Int) = 0 from rfl] at hx
    refine (fields_tnode (.int .u64 (cl : Nat)) (.int .u64 (sq : Nat)) g B l b w h hx hg hl).mono ?_
    rintro e w' ⟨he, v2, v3, h2, h3, hT⟩
    refine ⟨he, v2, v3, nilS, nilS, ?_, ?_⟩
    · simp only [Rows, ndT, td0, nilS]
      exact ⟨h2, h3, OwnP.nil _ _, OwnP.nil _ _⟩
    simp only [cdC, ndT, td0, nilS]
    rw [show ((1 : Nat) : Int) = 1 from rfl, show ((0 : Nat) : Int) = 0 from rfl]
    exact hT
  · by_cases k3 : k = 3
    · have e1 : fdT cl sq k l = ⟨cl, sq, k, nd0, tkT l, ⟨#[]⟩, ⟨#[]⟩, 0⟩ := (if_neg k1).trans (if_pos k3)
      have e2 : fdR k l = tkR l := (if_neg k1).trans (if_pos k3)
      have e3 : fdB k l = tkX l := (if_neg k1).trans (if_pos k3)
      rw [e1, e2, e3]
      subst k3
      rw [show ((3 : Nat) : Int) = 3 from rfl, show ((0 : Nat) : Int) = 0 from rfl] at hx
      refine (fields_ttask (.int .u64 (cl : Nat)) (.int .u64 (sq : Nat)) g B l b w h hx hg hl).mono ?_
      rintro e w' ⟨he, v2, v3, h2, h3, hT⟩
      refine ⟨he, nilS, nilS, v2, v3, ?_, ?_⟩
      · simp only [Rows, tkT, nd0, nilS]
        exact ⟨OwnP.nil _ _, OwnP.nil _ _, h2, h3⟩
      simp only [cdC, tkT, nd0, nilS]
      rw [show ((3 : Nat) : Int) = 3 from rfl, show ((0 : Nat) : Int) = 0 from rfl]
      exact hT
    · by_cases k5 : k = 5
      · have e1 : fdT cl sq k l = ⟨cl, sq, k, nd0, td0, bs (ttT l), bs (ttT (ttR l)), tnN (ttR (ttR l))⟩ := (if_neg k1).trans ((if_neg k3).trans (if_pos k5))
        have e2 : fdR k l = tnR (ttR (ttR l)) := (if_neg k1).trans ((if_neg k3).trans (if_pos k5))
        have e3 : fdB k l = decide (tnW (ttR (ttR l)) ≠ 0) := (if_neg k1).trans ((if_neg k3).trans (if_pos k5))
        rw [e1, e2, e3]
        subst k5
        rw [show ((5 : Nat) : Int) = 5 from rfl, show ((0 : Nat) : Int) = 0 from rfl] at hx
        refine (fields_tbind (.int .u64 (cl : Nat)) (.int .u64 (sq : Nat)) g B l b w h hx hg hl).mono ?_
        rintro e w' ⟨he, hT⟩
        refine ⟨he, nilS, nilS, nilS, nilS, ?_, ?_⟩
        · simp only [Rows, td0, nd0, nilS]
          exact ⟨OwnP.nil _ _, OwnP.nil _ _, OwnP.nil _ _, OwnP.nil _ _⟩
        simp only [cdC, nd0, td0, nilS]
        rw [show ((5 : Nat) : Int) = 5 from rfl]
        exact hT
      · have e1 : fdT cl sq k l = ⟨cl, sq, k, nd0, td0, bs (ttT l), ⟨#[]⟩, 0⟩ := (if_neg k1).trans ((if_neg k3).trans (if_neg k5))
        have e2 : fdR k l = ttR l := (if_neg k1).trans ((if_neg k3).trans (if_neg k5))
        have e3 : fdB k l = decide (ttW l ≠ 0) := (if_neg k1).trans ((if_neg k3).trans (if_neg k5))
        rw [e1, e2, e3]
        rw [show ((0 : Nat) : Int) = 0 from rfl] at hx
        refine (fields_tname (.int .u64 (cl : Nat)) (.int .u64 (sq : Nat)) k k1 k3 k5 g B l b w h hx hg hl).mono ?_
        rintro e w' ⟨he, hT⟩
        refine ⟨he, nilS, nilS, nilS, nilS, ?_, ?_⟩
        · simp only [Rows, td0, nd0, nilS]
          exact ⟨OwnP.nil _ _, OwnP.nil _ _, OwnP.nil _ _, OwnP.nil _ _⟩
        simp only [cdC, nd0, td0, nilS]
        rw [show ((0 : Nat) : Int) = 0 from rfl]
        exact hT
end Hd
end Go.Proofs.Ythlchdlgafincaa

/-
  A COMMAND taken.
-/
namespace Go.Proofs.Ythlchdlgafincaa
open Go.RowKit
namespace Hd
open PM Hc
/-- What is taken as a command, what is left, whether something is wrong. -/
def cmK (l : List UInt8) : Nat := upV 8 (tnR (tnR l))
def cmF (l : List UInt8) : List UInt8 := upR 8 (tnR (tnR l))
def cmT (l : List UInt8) : Cd := fdT (tnN l) (tnN (tnR l)) (cmK l) (cmF l)
def cmR (l : List UInt8) : List UInt8 := fdR (cmK l) (cmF l)
def cmB (l : List UInt8) : Bool := fdB (cmK l) (cmF l)
theorem cmF_length (l : List UInt8) : (cmF l).length ≤ l.length := Nat.le_trans (upR_length 8 _) (Nat.le_trans (tnR_length _) (tnR_length l))
/-- A command as a value, its rows below block B. -/
def CmdIs (w : World) (base : Nat) (v : Value) (c : Cd) : Prop := ∃ v2 v3 v4 v5, v = .agg (cdC c v2 v3 v4 v5).toArray ∧ Rows w base c v2 v3 v4 v5
theorem only_of_tf {w x x' : World} {g : Nat} {l l2 : List UInt8} {b b2 : Bool} {cs cs2 rs : List Value} (h : Tz w g l b cs rs x) (f : Tf x g (w.heap.size + 1) l2 b2 cs2 x') : Tz w g l2 b2 cs2 rs x' := by
  have hl := h.lt
  have h2 := h.bx.lt
  refine ⟨f.tk, f.bx, ?_, ?_, hl⟩
  · obtain ⟨T, hr⟩ := h.rb
    exact ⟨T, (f.fr.2.2.2.2 _ (by omega) (by omega) (by omega)).trans hr⟩
  · refine ⟨f.fr.1.trans h.on.os, f.fr.2.1.trans h.on.tape, f.fr.2.2.1.trans h.on.output, Nat.le_trans h.on.size f.fr.2.2.2.1, fun i hi hne => ?_⟩
    have hs := h.on.size
    exact (f.fr.2.2.2.2 i (by omega) (fun e => hne (by rw [e])) (by omega)).trans (h.on.block i hi hne)
theorem cdC_one (C : Cd) (v2 v3 v4 v5 : Value) (h2 : v2.oneCell' = true) (h3 : v3.oneCell' = true) (h4 : v4.oneCell' = true) (h5 : v5.oneCell' = true) : ∀ v ∈ cdC C v2 v3 v4 v5, v.oneCell' = true := by
  intro v hv
  simp only [cdC, List.mem_cons, List.not_mem_nil, or_false] at hv
  rcases hv with rfl | rfl | rfl | rfl | rfl | rfl | rfl | rfl | rfl | rfl | rfl | rfl | rfl | rfl | rfl | rfl | rfl | rfl | rfl | rfl | rfl
  all_goals first | rfl | assumption
theorem Rows.off {x x' : World} {base R : Nat} {c : Cd} {v2 v3 v4 v5 : Value} (h : Rows x base c v2 v3 v4 v5) (ho : Only R x x') (hR : R < base) : Rows x' base c v2 v3 v4 v5 :=
  ⟨h.1.only ho (h.1.far hR), h.2.1.only ho (h.2.1.far hR), h.2.2.1.only ho (h.2.2.1.far hR), h.2.2.2.only ho (h.2.2.2.far hR)⟩
set_option maxRecDepth 100000 in
set_option maxHeartbeats 4000000 in
theorem command_take (g : Nat) (l : List UInt8) (b : Bool) (w : World) (h : Tk w g l b) (hl : l.length ≤ maxLen) :
    Calls Try.prog 26 #[.pointer (some ⟨g, 0, none⟩)] w fun en w' => ∃ v, en = .returned v ∧ CmdIs w' (w.heap.size + 2) v (cmT l) ∧ Tk w' g (cmR l) (cmB l) ∧ Only g w w' := by
  have K0 := Lib.hid (fun z c (hz : Tk z g l c) => number_part g l c z hz hl)
  have K1 := Lib.hid (fun z c (hz : Tk z g (tnR l) c) => number_part g (tnR l) c z hz (Nat.le_trans (tnR_length l) hl))
  have K2 : Hid (∀ z c, Tk z g (tnR (tnR l)) c → Calls Try.prog 54 #[.pointer (some ⟨g, 0, none⟩), .int .u64 8] z fun en w' => en = .returned (.int .u64 (cmK l : Nat)) ∧ Tk w' g (cmF l) (upB 8 (tnR (tnR l))) ∧ Only g z w') := fun z c hz => upto_part g (tnR (tnR l)) c 8 z hz (Nat.le_trans (tnR_length _) (Nat.le_trans (tnR_length l) hl))
  have K3 := Lib.hid (fun B z c cl sq k (hz : Tk z g (cmF l) c) (hx : Bxn z B (cdC (cd0 cl sq k) nilS nilS nilS nilS)) (hg : g ≠ B) => fields_take g B (cmF l) c cl sq k z hz hx hg (Nat.le_trans (cmF_length l) hl))
  have HS0 := Lib.hid (Tz.made [.int .u64 0, .int .u64 0, .int .u8 0, .string ⟨#[]⟩, .int .i64 0, .int .i64 0, .int .i64 0, .slice none 0 0, .slice none 0 0, .string ⟨#[]⟩, .int .i64 0, .int .i64 0, .int .i64 0, .slice none 0 0, .slice none 0 0, .string ⟨#[]⟩, .string ⟨#[]⟩, .int .i64 0, .string ⟨#[]⟩, .string ⟨#[]⟩, .int .u64 0] 33 h)
  have hk : cmK l ≤ 8 := upV_le 8 _
  have tk : IntKind.u8.wrap ((cmK l : Nat) : Int) = ((cmK l : Nat) : Int) := by rw [IntKind.wrap_u8]; omega
  have HG : Hid (g ≠ w.heap.size + 1) := by have := h.lt; show g ≠ _; omega
  unfold cmT cmR cmB
  clear h hl
  generalize tnN (tnR l) = n1 at *
  generalize tnN l = n0 at *
  generalize cmK l = k at *
  generalize cmF l = lf at *
  go_enter Try.func26, Try.ntmps26
  go_wp2_with fail
  refine (K0.out _ _ HS0.out.tk).mono ?_
  rintro e w0 ⟨rfl, h1, ho1⟩
  have HS1 := Lib.hid (HS0.out.go h1 ho1)
  clear h1 ho1
  have c0 : w0.cell? ⟨w.heap.size + 1, 0, none⟩ = some (.int .u64 0) := HS1.out.bx.cell 0
  have f0 := HS1.out.bx.fz 0
  have HS2 := Lib.hid (HS1.out.p 0 (.int .u64 (n0 : Nat)))
  go_wp2_with fail
  refine (K1.out _ _ HS2.out.tk).mono ?_
  rintro e w1 ⟨rfl, h1, ho1⟩
  have HS3 := Lib.hid (HS2.out.go h1 ho1)
  clear h1 ho1 c0 f0
  have c1 : w1.cell? ⟨w.heap.size + 1, 1, none⟩ = some (.int .u64 0) := HS3.out.bx.cell 1
  have f1 := HS3.out.bx.fz 1
  have HS4 := Lib.hid (HS3.out.p 1 (.int .u64 (n1 : Nat)))
  go_wp2_with fail
  refine (K2.out _ _ HS4.out.tk).mono ?_
  rintro e w2 ⟨rfl, h1, ho1⟩
  have HS5 := Lib.hid (HS4.out.go h1 ho1)
  clear h1 ho1 c1 f1
  have c2 : w2.cell? ⟨w.heap.size + 1, 2, none⟩ = some (.int .u8 0) := HS5.out.bx.cell 2
  have f2 := HS5.out.bx.fz 2
  have HS6 := Lib.hid (HS5.out.p 2 (.int .u8 (k : Nat)))
  have HX6 : Hid (Bxn (w2.setCell ⟨w.heap.size + 1, 2, none⟩ (.int .u8 (k : Nat))) (w.heap.size + 1) (cdC (cd0 n0 n1 k) nilS nilS nilS nilS)) := HS6.out.bx
  go_wp2_with fail
  refine (K3.out _ _ _ n0 n1 k HS6.out.tk HX6.out HG.out).mono ?_
  rintro e w3 ⟨rfl, v2, v3, v4, v5, hr, hT⟩
  have HS7 := Lib.hid (only_of_tf HS6.out hT)
  have HR : Hid (Rows w3 (w.heap.size + 2) (fdT n0 n1 k lf) v2 v3 v4 v5) := by
    have hz : w.heap.size + 2 ≤ (w2.setCell ⟨w.heap.size + 1, 2, none⟩ (.int .u8 (k : Nat))).heap.size := HS6.out.two
    exact ⟨hr.1.less hz, hr.2.1.less hz, hr.2.2.1.less hz, hr.2.2.2.less hz⟩
  clear hr hT c2 f2 K0 K1 K2 K3 HS0 HS1 HS2 HS3 HS4 HS5 HS6 HX6
  obtain ⟨C, hC⟩ : ∃ C, C = fdT n0 n1 k lf := ⟨_, rfl⟩
  rw [← hC] at HR HS7
  have HC := Lib.hid hC
  clear hC
  obtain ⟨s2, d2, rfl⟩ := HR.out.1.slice
  obtain ⟨s3, d3, rfl⟩ := HR.out.2.1.slice
  obtain ⟨s4, d4, rfl⟩ := HR.out.2.2.1.slice
  obtain ⟨s5, d5, rfl⟩ := HR.out.2.2.2.slice
  have hth := HS7.out.rb.there 21 rfl
  go_upto_region 6 with fail
  refine wp_region_list ?_
  refine wpList_load_mid rfl 33 (.tmp 3) rfl (w.heap.size + 1) 0 rfl _ _ (HS7.out.bx.range 0) Try.underlying33 rfl rfl ?_
  refine wpList_store_mid rfl 33 (.tmp 2) (.tmp 27) rfl w.heap.size 0 (cdC C (.slice s2 C.nd.ls.length d2) (.slice s3 C.nd.ts.length d3) (.slice s4 C.td.ws.length d4) (.slice s5 C.td.bs.length d5)).toArray rfl rfl hth rfl (all_oneCell_toArray (cdC_one C _ _ _ _ rfl rfl rfl rfl)) ?_
  have HE := Lib.hid (HS7.out.all (cdC C (.slice s2 C.nd.ls.length d2) (.slice s3 C.nd.ts.length d3) (.slice s4 C.td.ws.length d4) (.slice s5 C.td.bs.length d5)) rfl)
  have HR2 := Lib.hid (HR.out.off (only_setCells w.heap.size (cdC C (.slice s2 C.nd.ls.length d2) (.slice s3 C.nd.ts.length d3) (.slice s4 C.td.ws.length d4) (.slice s5 C.td.bs.length d5)) 0 w3) (by omega))
  clear hth HR HS7
  refine wpList_nil ?_
  rw [show (cdC C (.slice s2 C.nd.ls.length d2) (.slice s3 C.nd.ts.length d3) (.slice s4 C.td.ws.length d4) (.slice s5 C.td.bs.length d5)).toArray.toList = cdC C (.slice s2 C.nd.ls.length d2) (.slice s3 C.nd.ts.length d3) (.slice s4 C.td.ws.length d4) (.slice s5 C.td.bs.length d5) from rfl]
  generalize w3.setCells w.heap.size 0 (cdC C (.slice s2 C.nd.ls.length d2) (.slice s3 C.nd.ts.length d3) (.slice s4 C.td.ws.length d4) (.slice s5 C.td.bs.length d5)) = W4 at *
  go_wp2
  refine bodyPost_bx rfl w.heap.size (cdC C (.slice s2 C.nd.ls.length d2) (.slice s3 C.nd.ts.length d3) (.slice s4 C.td.ws.length d4) (.slice s5 C.td.bs.length d5)) _ rfl rfl ?_ Try.underlying33 rfl ?_ ?_
  case refine_1 => exact HE.out.rb
  case refine_2 => rfl
  case refine_3 =>
    rw [← HC.out]
    exact ⟨_, rfl, ⟨_, _, _, _, rfl, HR2.out⟩, HE.out.tk, HE.out.on⟩
end Hd
end Go.Proofs.Ythlchdlgafincaa
