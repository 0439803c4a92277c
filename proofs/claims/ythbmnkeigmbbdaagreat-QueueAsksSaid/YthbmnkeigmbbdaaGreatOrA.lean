/-
  Merged: OrdBx, OrdTka, PartsTm, OrdTkp, OrdTkq, OrdTkn, OrdTkf, OrdCd.
-/
import Derived.Test.YthbmnkeigmbbdaaGreatPkQ
import Derived.Deep.MidRow
import Derived.Deep.LoopGhost
import Derived.Deep.RegionLaw
import Derived.Laws.OwnMore
import Derived.Deep.OwnRows
import Derived.Shelf.Abstract
import Derived.Test.YthbmnkeigmbbdaaGreatRgA
/-
  A BOX OF ANY CELLS: what it is behind stores, other calls, and as a result.
-/
namespace Go.Proofs.YthbmnkeigmbbdaaGreat
open Go.RowKit
namespace Hd
open PM
/-- Block B is a box of the cells cs. -/
def Bxn (w : World) (B : Nat) (cs : List Value) : Prop := ∃ T, w.heap[B]? = some (.cells cs.toArray T (0, 0))
theorem Bxn.lt {w : World} {B : Nat} {cs : List Value} (h : Bxn w B cs) : B < w.heap.size := by
  obtain ⟨T, h⟩ := h
  exact (Array.getElem?_eq_some_iff.1 h).1
theorem Bxn.cell {w : World} {B : Nat} {cs : List Value} (h : Bxn w B cs) (i : Nat) : w.cell? ⟨B, i, none⟩ = cs[i]? := by
  obtain ⟨T, h⟩ := h
  simp [World.cell?, h]
theorem Bxn.fz {w : World} {B : Nat} {cs : List Value} (h : Bxn w B cs) (i : Nat) : w.frozen? ⟨B, i, none⟩ = false := by
  obtain ⟨T, h⟩ := h
  simp [World.frozen?, h]
theorem Bxn.set {w : World} {B : Nat} {cs : List Value} (h : Bxn w B cs) (i : Nat) (u : Value) : Bxn (w.setCell ⟨B, i, none⟩ u) B (cs.set i u) := by
  obtain ⟨T, h⟩ := h
  exact ⟨T, by simp [World.setCell, Array.getElem?_modify, h]⟩
theorem Bxn.below {w w' : World} {B : Nat} {cs : List Value} (h : Bxn w B cs) (hb : Below w.heap.size w w') : Bxn w' B cs := by
  have hl := h.lt
  obtain ⟨T, h⟩ := h
  exact ⟨T, (hb.block B hl).trans h⟩
theorem Bxn.only {w w' : World} {B g : Nat} {cs : List Value} (h : Bxn w B cs) (ho : Only g w w') (hg : B ≠ g) : Bxn w' B cs := by
  have hl := h.lt
  obtain ⟨T, h⟩ := h
  exact ⟨T, (ho.block B hl (by intro e; injection e with e; exact hg e)).trans h⟩
theorem Bxn.made (w : World) (cs : List Value) (T : TypeId) : Bxn (w.alloc (.cells cs.toArray T)) w.heap.size cs := ⟨T, heap_alloc_new w _⟩
theorem Bxn.apart {w : World} {B p : Nat} {cs : List Value} (h : Bxn w B cs) (hp : p ≠ B) (o : Nat) (u : Value) : Bxn (w.setCell ⟨p, o, none⟩ u) B cs :=
  h.imp fun _ h => (Below.heap_setCell w ⟨p, o, none⟩ u B (by rintro rfl; exact hp rfl)).trans h
theorem Bxn.range {w : World} {B : Nat} {cs : List Value} (h : Bxn w B cs) (o : Nat) : w.rangeAt B o (cs.drop o) := by
  intro j v hj
  rw [h.cell]
  rw [List.getElem?_drop] at hj
  exact hj
theorem bodyPost_bx {fn : Func} {p : Tmp} {ty : TypeId} (h : fn.results = #[.cell p ty]) {R : Ending → World → Prop} {a : Act} {w : World} (B : Nat) (cs : List Value) (d : TypeDesc) (hd : a.defers = [])
    (hp : a.tmps.getD p undef = .pointer (some ⟨B, 0, none⟩)) (hx : Bxn w B cs) (hu : Tryz.prog.underlying ty = some d) (hr : d.isRow = true) (hi : (Tryz.prog.info? ty).map (·.size) = some cs.length)
    (hR : R (.returned (.agg cs.toArray)) w) : bodyPost Tryz.prog fn R .ret a w := by
  refine bodyPost_ret ?_ hd hR
  rw [one_result h, hp]
  have := run_loadVar_mid w B 0 ty cs d (hx.range 0) hu hr hi
  simp [asAddr, this, Result.andThen]
theorem bodyPost_bx2 {fn : Func} {p u : Tmp} {ty : TypeId} (h : fn.results = #[.cell p ty, .tmp u]) {R : Ending → World → Prop} {a : Act} {w : World} (B : Nat) (cs : List Value) (d : TypeDesc) (hd : a.defers = [])
    (hp : a.tmps.getD p undef = .pointer (some ⟨B, 0, none⟩)) (hx : Bxn w B cs) (hu : Tryz.prog.underlying ty = some d) (hr : d.isRow = true) (hi : (Tryz.prog.info? ty).map (·.size) = some cs.length)
    (hR : R (.returned (.tuple #[.agg cs.toArray, a.tmps.getD u undef])) w) : bodyPost Tryz.prog fn R .ret a w := by
  refine bodyPost_ret ?_ hd hR
  rw [results_cell_tmp h, hp]
  have := run_loadVar_mid w B 0 ty cs d (hx.range 0) hu hr hi
  simp [asAddr, this, Result.andThen]
/-- Where the taking stands: what is left, the box of what was taken, the box of the result; only the taker, and what is new, has turned. -/
structure Tz (w0 : World) (g : Nat) (l : List UInt8) (b : Bool) (cs rs : List Value) (x : World) : Prop where
  tk : Tk x g l b
  bx : Bxn x (w0.heap.size + 1) cs
  rb : Bxn x w0.heap.size rs
  on : Only g w0 x
  lt : g < w0.heap.size
theorem Tz.go {w0 : World} {g : Nat} {l l2 : List UInt8} {b b2 : Bool} {cs rs : List Value} {x x' : World} (h : Tz w0 g l b cs rs x) (ht : Tk x' g l2 b2) (ho : Only g x x') : Tz w0 g l2 b2 cs rs x' :=
  ⟨ht, h.bx.only ho (by have := h.lt; omega), h.rb.only ho (by have := h.lt; omega), h.on.trans ho, h.lt⟩
theorem Tz.p {w0 : World} {g : Nat} {l : List UInt8} {b : Bool} {cs rs : List Value} {x : World} (h : Tz w0 g l b cs rs x) (i : Nat) (u : Value) : Tz w0 g l b (cs.set i u) rs (x.setCell ⟨w0.heap.size + 1, i, none⟩ u) :=
  ⟨h.tk.far (by have := h.lt; omega) i u, h.bx.set i u, h.rb.apart (by omega) i u, h.on.put2 (by omega) i u, h.lt⟩
theorem Tz.q {w0 : World} {g : Nat} {l : List UInt8} {b : Bool} {cs rs : List Value} {x : World} (h : Tz w0 g l b cs rs x) (i : Nat) (u : Value) : Tz w0 g l b cs (rs.set i u) (x.setCell ⟨w0.heap.size, i, none⟩ u) :=
  ⟨h.tk.far (by have := h.lt; omega) i u, h.bx.apart (by omega) i u, h.rb.set i u, h.on.put2 (by omega) i u, h.lt⟩
theorem Tz.made {w : World} {g : Nat} {l : List UInt8} {b : Bool} (cs : List Value) (T : TypeId) (h : Tk w g l b) : Tz w g l b cs cs ((w.alloc (.cells cs.toArray T)).alloc (.cells cs.toArray T)) := by
  have hl := h.lt
  have h1 : Below w.heap.size w (w.alloc (.cells cs.toArray T)) := (Below.refl _ _).alloc (Nat.le_refl _) _
  have h2 : Below (w.alloc (.cells cs.toArray T)).heap.size (w.alloc (.cells cs.toArray T)) ((w.alloc (.cells cs.toArray T)).alloc (.cells cs.toArray T)) := (Below.refl _ _).alloc (Nat.le_refl _) _
  have h3 := h1.trans (h2.mono h1.size)
  refine ⟨h.below h3 hl, ?_, (Bxn.made w _ _).below h2, Only.of_below h3, hl⟩
  have := Bxn.made (w.alloc (.cells cs.toArray T)) cs T
  rw [World.size_alloc] at this
  exact this
/-! A struct stored whole. -/
theorem only_setCells (R : Nat) : ∀ (vs : List Value) (o : Nat) (w : World), Only R w (w.setCells R o vs)
  | [], _, w => Only.refl R w
  | v :: r, o, w => ((Only.refl R w).set o v).trans (only_setCells R r (o + 1) _)
theorem heap_setCells (R : Nat) (T : TypeId) : ∀ (vs : List Value) (o : Nat) (w : World) (cs : List Value), w.heap[R]? = some (.cells cs.toArray T (0, 0)) → o + vs.length = cs.length →
    (w.setCells R o vs).heap[R]? = some (.cells (cs.take o ++ vs).toArray T (0, 0))
  | [], o, w, cs, h, hl => by
    rw [List.append_nil, List.take_of_length_le (by simp at hl; omega)]
    exact h
  | v :: r, o, w, cs, h, hl => by
    rw [World.setCells]
    have hlt : o < cs.length := by simp at hl; omega
    have h1 : (w.setCell ⟨R, o, none⟩ v).heap[R]? = some (.cells (cs.set o v).toArray T (0, 0)) := by simp [World.setCell, Array.getElem?_modify, h]
    rw [heap_setCells R T r (o + 1) _ (cs.set o v) h1 (by simp at hl ⊢; omega)]
    have e : (cs.set o v).take (o + 1) = cs.take o ++ [v] := by
      rw [List.set_eq_take_append_cons_drop, if_pos hlt, List.take_append]
      have hl2 : (cs.take o).length = o := by rw [List.length_take]; omega
      rw [hl2, List.take_of_length_le (by omega), show o + 1 - o = 1 by omega]
      rfl
    rw [e, List.append_assoc]
    rfl
theorem Bxn.all {w : World} {R : Nat} {rs : List Value} (h : Bxn w R rs) (vs : List Value) (hl : vs.length = rs.length) : Bxn (w.setCells R 0 vs) R vs := by
  obtain ⟨T, h⟩ := h
  exact ⟨T, heap_setCells R T vs 0 w rs h (by omega)⟩
theorem Bxn.there {w : World} {R : Nat} {rs : List Value} (h : Bxn w R rs) (n : Nat) (hn : n = rs.length) : w.there R 0 n := fun j hj => by
  rw [Nat.zero_add]
  refine ⟨?_, h.fz j⟩
  rw [h.cell, List.getElem?_eq_getElem (by omega)]
  rfl
theorem Tk.off {w w' : World} {g R : Nat} {l : List UInt8} {b : Bool} (h : Tk w g l b) (ho : Only R w w') (hg : g ≠ R) : Tk w' g l b := by
  have hl := h.lt
  obtain ⟨T, h⟩ := h
  exact ⟨T, (ho.block g hl (by intro e; injection e with e; exact hg e)).trans h⟩
theorem Only.both {w x x' : World} {g R : Nat} (h : Only g w x) (ho : Only R x x') (hR : w.heap.size ≤ R) : Only g w x' := by
  refine ⟨ho.os.trans h.os, ho.tape.trans h.tape, ho.output.trans h.output, Nat.le_trans h.size ho.size, fun i hi hne => ?_⟩
  have hs := h.size
  exact (ho.block i (by omega) (by intro e; injection e with e; omega)).trans (h.block i hi hne)
theorem Tz.all {w0 : World} {g : Nat} {l : List UInt8} {b : Bool} {cs rs : List Value} {x : World} (h : Tz w0 g l b cs rs x) (vs : List Value) (hl : vs.length = rs.length) : Tz w0 g l b cs vs (x.setCells w0.heap.size 0 vs) := by
  have ho := only_setCells w0.heap.size vs 0 x
  have hlt := h.lt
  exact ⟨h.tk.off ho (by omega), h.bx.only ho (by omega), h.rb.all vs hl, h.on.both ho (Nat.le_refl _), h.lt⟩
end Hd
end Go.Proofs.YthbmnkeigmbbdaaGreat

/-
  AMOUNTS taken.
-/
namespace Go.Proofs.YthbmnkeigmbbdaaGreat
open Go.RowKit
namespace Hd
open PM
end Hd
end Go.Proofs.YthbmnkeigmbbdaaGreat

/-
  TIMES of a taker, and what two blocks that turn leave (as in PartsMb, without a disk).
-/
namespace Go.Proofs.YthbmnkeigmbbdaaGreat
open Go.RowKit
namespace Hc
open PM Hd
/-- Below block B nothing has turned but blocks g and p. -/
def Two (B g p : Nat) (w w' : World) : Prop := w'.os = w.os ∧ w'.tape = w.tape ∧ w'.output = w.output ∧ w.heap.size ≤ w'.heap.size ∧ ∀ i, i < B → i ≠ g → i ≠ p → w'.heap[i]? = w.heap[i]?
theorem Two.refl (B g p : Nat) (w : World) : Two B g p w w := ⟨rfl, rfl, rfl, Nat.le_refl _, fun _ _ _ _ => rfl⟩
theorem Two.trans {B g p : Nat} {a b c : World} (h : Two B g p a b) (k : Two B g p b c) : Two B g p a c :=
  ⟨k.1.trans h.1, k.2.1.trans h.2.1, k.2.2.1.trans h.2.2.1, Nat.le_trans h.2.2.2.1 k.2.2.2.1, fun i h1 h2 h3 => (k.2.2.2.2 i h1 h2 h3).trans (h.2.2.2.2 i h1 h2 h3)⟩
theorem Two.of_only {B g p : Nat} {w w' : World} (h : Only g w w') (hB : B ≤ w.heap.size) : Two B g p w w' := ⟨h.os, h.tape, h.output, h.size, fun i h1 h2 _ => h.block i (by omega) (by intro e; injection e with e; omega)⟩
theorem Two.of_below {B g p : Nat} {w w' : World} (h : Below w.heap.size w w') (hB : B ≤ w.heap.size) : Two B g p w w' := ⟨h.os, h.tape, h.output, h.size, fun i h1 _ _ => h.block i (by omega)⟩
theorem Two.put (B g p : Nat) (w : World) (i : Nat) (u : Value) : Two B g p w (w.setCell ⟨p, i, none⟩ u) :=
  ⟨rfl, rfl, rfl, by simp [World.setCell], fun k _ _ h3 => Below.heap_setCell w ⟨p, i, none⟩ u k (by rintro rfl; exact h3 rfl)⟩
theorem Two.cell {B g p b i : Nat} {w w' : World} (h : Two B g p w w') (h1 : b < B) (h2 : b ≠ g) (h3 : b ≠ p) : w'.cell? ⟨b, i, none⟩ = w.cell? ⟨b, i, none⟩ := by
  simp only [World.cell?, h.2.2.2.2 b h1 h2 h3]
theorem only_cell {g b i : Nat} {w w' : World} (h : Only g w w') (h1 : b < w.heap.size) (h2 : b ≠ g) : w'.cell? ⟨b, i, none⟩ = w.cell? ⟨b, i, none⟩ := by
  have := h.block b h1 (by intro e; injection e with e; omega)
  simp only [World.cell?, this]
theorem only_frozen {g b i : Nat} {w w' : World} (h : Only g w w') (h1 : b < w.heap.size) (h2 : b ≠ g) : w'.frozen? ⟨b, i, none⟩ = w.frozen? ⟨b, i, none⟩ := by
  have := h.block b h1 (by intro e; injection e with e; omega)
  simp only [World.frozen?, this]
end Hc
end Go.Proofs.YthbmnkeigmbbdaaGreat

/-
  PAIRS taken.
-/
namespace Go.Proofs.YthbmnkeigmbbdaaGreat
open Go.RowKit
namespace Hd
open PM Hc
def encP : List Rg.Pr → List Value
  | [] => []
  | p :: r => .string p.k :: .string p.v :: encP r
theorem encP_at (ps : List Rg.Pr) : ∀ i (h : i < ps.length), (encP ps)[i * 2]? = some (.string ps[i].k) ∧ (encP ps)[i * 2 + 1]? = some (.string ps[i].v) := by
  induction ps with
  | nil => intro i h; simp at h
  | cons p r ih =>
    intro i h
    cases i with
    | zero => exact ⟨rfl, rfl⟩
    | succ i =>
      have := ih i (by simpa using h)
      rw [show (i + 1) * 2 = i * 2 + 1 + 1 by omega]
      simpa [encP] using this
/-- A row of pairs of one's own, from block base on. -/
def OwnP (w : World) (base : Nat) (v : Value) (ps : List Rg.Pr) : Prop := w.ownsRow base 89 2 v ps.length (encP ps)
theorem OwnP.slice {w : World} {base : Nat} {v : Value} {ps : List Rg.Pr} (h : OwnP w base v ps) : ∃ a c, v = .slice a ps.length c := by
  rcases h.2 with ⟨rfl, h0⟩ | ⟨g, cap, cur, rfl, _⟩
  · exact ⟨none, 0, by rw [h0]⟩
  · exact ⟨_, _, rfl⟩
theorem OwnP.nil (w : World) (base : Nat) : OwnP w base (.slice none 0 0) [] := ⟨rfl, .inl ⟨rfl, rfl⟩⟩
theorem OwnP.below {w w' : World} {base : Nat} {v : Value} {ps : List Rg.Pr} (h : OwnP w base v ps) (hb : Below w.heap.size w w') : OwnP w' base v ps := own_keep h hb
theorem OwnP.al {w : World} {base : Nat} {v : Value} {ps : List Rg.Pr} (h : OwnP w base v ps) (o : Obj) : OwnP (w.alloc o) base v ps := h.below ((Below.refl _ _).alloc (Nat.le_refl _) _)
theorem OwnP.far {w : World} {base : Nat} {v : Value} {ps : List Rg.Pr} (h : OwnP w base v ps) {g : Nat} (hg : g < base) : v.ownBlock ≠ some g := fun e => by
  have := (World.ownsRow.lt h g e).1
  omega
theorem OwnP.only {w w' : World} {base : Nat} {v : Value} {ps : List Rg.Pr} (h : OwnP w base v ps) {g : Nat} (ho : Only g w w') (hg : v.ownBlock ≠ some g) : OwnP w' base v ps :=
  World.ownsRow.kept (row := some g) h ho (Or.inr hg)
theorem OwnP.put {w : World} {base : Nat} {v : Value} {ps : List Rg.Pr} (h : OwnP w base v ps) {p : Nat} (hp : v.ownBlock ≠ some p) (i : Nat) (u : Value) : OwnP (w.setCell ⟨p, i, none⟩ u) base v ps :=
  h.only ((Only.refl p w).set i u) hp
theorem OwnP.blk {w : World} {base : Nat} {v : Value} {ps : List Rg.Pr} (h : OwnP w base v ps) {p : Nat} (hp : w.heap.size ≤ p) : v.ownBlock ≠ some p := fun e => by
  have := (World.ownsRow.lt h p e).2
  omega
theorem OwnP.pairs {w : World} {base : Nat} {v : Value} {ps : List Rg.Pr} (h : OwnP w base v ps) (hl : ps.length ≤ 4611686018427387904) (hk : ∀ p ∈ ps, p.k.size ≤ maxLen ∧ p.v.size ≤ maxLen) : Rg.Pairs w w.heap.size v ps := by
  obtain ⟨a, c, hv⟩ := h.slice
  refine ⟨a, c, hv, hl, hk, ?_⟩
  intro hp
  rcases h.2 with ⟨_, h0⟩ | ⟨g, cap, cur, h3, h4, h5, h6⟩
  · omega
  · rw [hv] at h3
    injection h3 with h3a h3b h3c
    refine ⟨g, 0, h3a, (Array.getElem?_eq_some_iff.1 h5).1, fun i hi => ?_⟩
    obtain ⟨e0, e1⟩ := encP_at ps i hi
    have k0 := World.ownsRow.cells (g := g) h (by rw [hv, h3a]; rfl) _ _ e0
    have k1 := World.ownsRow.cells (g := g) h (by rw [hv, h3a]; rfl) _ _ e1
    rw [Addr.add_lit] at k0 k1
    exact ⟨k0, k1⟩
end Hd
end Go.Proofs.YthbmnkeigmbbdaaGreat

/-
  PAIRS taken: the closure, and the whole.
-/
namespace Go.Proofs.YthbmnkeigmbbdaaGreat
open Go.RowKit
namespace Hd
open PM Hc
/-- Where the taking of pairs stands: the taker's address in the box p, the row in the box q. -/
structure Pb (w0 : World) (p q g base : Nat) (l : List UInt8) (b : Bool) (ps : List Rg.Pr) (v : Value) (x : World) : Prop where
  tk : Tk x g l b
  own : OwnP x base v ps
  cp : x.cell? ⟨p, 0, none⟩ = some (.pointer (some ⟨g, 0, none⟩))
  cq : x.cell? ⟨q, 0, none⟩ = some v
  fq : x.frozen? ⟨q, 0, none⟩ = false
  sz : base ≤ x.heap.size
  fr : Two base g q w0 x
structure Far (p q g base : Nat) : Prop where
  hp : p < base
  hq : q < base
  hg : g < base
  pg : p ≠ g
  qg : q ≠ g
  qp : q ≠ p
theorem Pb.grow {w0 x x' : World} {p q g base : Nat} {l l2 : List UInt8} {b b2 : Bool} {ps : List Rg.Pr} {v : Value} (h : Pb w0 p q g base l b ps v x) (f : Far p q g base) (ht : Tk x' g l2 b2) (ho : Only g x x') : Pb w0 p q g base l2 b2 ps v x' := by
  have hsz := h.sz
  have hp := f.hp
  have hq := f.hq
  refine ⟨ht, h.own.only ho (h.own.far f.hg), ?_, ?_, ?_, Nat.le_trans h.sz ho.size, h.fr.trans (Two.of_only ho h.sz)⟩
  · rw [only_cell ho (by omega) f.pg]; exact h.cp
  · rw [only_cell ho (by omega) f.qg]; exact h.cq
  · rw [only_frozen ho (by omega) f.qg]; exact h.fq
theorem Pb.put {w0 x : World} {p q g base : Nat} {l : List UInt8} {b : Bool} {ps : List Rg.Pr} {v : Value} (h : Pb w0 p q g base l b ps v x) (f : Far p q g base) {n : Nat} (hn : base ≤ n) (hv : v.ownBlock ≠ some n) (i : Nat) (u : Value) : Pb w0 p q g base l b ps v (x.setCell ⟨n, i, none⟩ u) := by
  have hp := f.hp
  have hq := f.hq
  have hg := f.hg
  refine ⟨h.tk.far (by omega) i u, h.own.put hv i u, ?_, ?_, ?_, by simpa [World.setCell] using h.sz, ?_⟩
  · rw [World.cell?_setCell_other _ _ _ _ (by intro e; injection e with e; omega)]; exact h.cp
  · rw [World.cell?_setCell_other _ _ _ _ (by intro e; injection e with e; omega)]; exact h.cq
  · simpa using h.fq
  · refine h.fr.trans ⟨rfl, rfl, rfl, by simp [World.setCell], fun k h1 _ _ => Below.heap_setCell x ⟨n, i, none⟩ u k (by show k ≠ n; omega)⟩
end Hd
end Go.Proofs.YthbmnkeigmbbdaaGreat

/-
  A NODE and a TASK, taken.
-/
namespace Go.Proofs.YthbmnkeigmbbdaaGreat
open Go.RowKit
namespace Hd
open PM Hc
/-- A row of one's own behind the two boxes. -/
theorem OwnP.go {w0 x x' : World} {v : Value} {ps : List Rg.Pr} {g : Nat} (h : OwnP x (w0.heap.size + 2) v ps) (hg : g < w0.heap.size) (ho : Only g x x') : OwnP x' (w0.heap.size + 2) v ps :=
  h.only ho (h.far (by omega))
theorem OwnP.p {w0 x : World} {v : Value} {ps : List Rg.Pr} (h : OwnP x (w0.heap.size + 2) v ps) (i : Nat) (u : Value) : OwnP (x.setCell ⟨w0.heap.size + 1, i, none⟩ u) (w0.heap.size + 2) v ps := h.put (h.far (by omega)) i u
theorem OwnP.q {w0 x : World} {v : Value} {ps : List Rg.Pr} (h : OwnP x (w0.heap.size + 2) v ps) (i : Nat) (u : Value) : OwnP (x.setCell ⟨w0.heap.size, i, none⟩ u) (w0.heap.size + 2) v ps := h.put (h.far (by omega)) i u
theorem Tz.two {w0 x : World} {g : Nat} {l : List UInt8} {b : Bool} {cs rs : List Value} (h : Tz w0 g l b cs rs x) : w0.heap.size + 2 ≤ x.heap.size := h.bx.lt
end Hd
end Go.Proofs.YthbmnkeigmbbdaaGreat

/-
  WHAT AN ORDER's KIND HAS, taken.
-/
namespace Go.Proofs.YthbmnkeigmbbdaaGreat
open Go.RowKit
namespace Hd
open PM Hc
/-- Where the taking into a box B stands: only the taker g and the box have turned. -/
structure Tf (z0 : World) (g B : Nat) (l : List UInt8) (b : Bool) (cs : List Value) (x : World) : Prop where
  tk : Tk x g l b
  bx : Bxn x B cs
  fr : Two z0.heap.size g B z0 x
  gb : g ≠ B
  lt : g < z0.heap.size
  lb : B < z0.heap.size
theorem Tf.made {z0 : World} {g B : Nat} {l : List UInt8} {b : Bool} {cs : List Value} (h : Tk z0 g l b) (hx : Bxn z0 B cs) (hg : g ≠ B) : Tf z0 g B l b cs z0 := ⟨h, hx, Two.refl _ _ _ _, hg, h.lt, hx.lt⟩
theorem Tf.go {z0 : World} {g B : Nat} {l l2 : List UInt8} {b b2 : Bool} {cs : List Value} {x x' : World} (h : Tf z0 g B l b cs x) (ht : Tk x' g l2 b2) (ho : Only g x x') : Tf z0 g B l2 b2 cs x' :=
  ⟨ht, h.bx.only ho h.gb.symm, h.fr.trans (Two.of_only ho h.fr.2.2.2.1), h.gb, h.lt, h.lb⟩
theorem Tf.p {z0 : World} {g B : Nat} {l : List UInt8} {b : Bool} {cs : List Value} {x : World} (h : Tf z0 g B l b cs x) (i : Nat) (u : Value) : Tf z0 g B l b (cs.set i u) (x.setCell ⟨B, i, none⟩ u) :=
  ⟨h.tk.far h.gb i u, h.bx.set i u, h.fr.trans (Two.put _ _ _ _ _ _), h.gb, h.lt, h.lb⟩
theorem OwnP.pb {x : World} {base B : Nat} {v : Value} {ps : List Rg.Pr} (h : OwnP x base v ps) (hB : B < base) (i : Nat) (u : Value) : OwnP (x.setCell ⟨B, i, none⟩ u) base v ps := h.put (h.far hB) i u
end Hd
end Go.Proofs.YthbmnkeigmbbdaaGreat

/-
  A COMMAND as plain data, and what is taken of bytes as one.
-/
namespace Go.Proofs.YthbmnkeigmbbdaaGreat
open Go.RowKit
namespace Hd
open PM Hc
structure Nd where
  n : ByteArray
  z0 : Int
  z1 : Int
  z2 : Int
  ls : List Rg.Pr
  ts : List Rg.Pr
structure Td where
  n : ByteArray
  z0 : Int
  z1 : Int
  z2 : Int
  ws : List Rg.Pr
  bs : List Rg.Pr
  g : ByteArray
  a : ByteArray
  r : Int
structure Cd where
  cl : Nat
  sq : Nat
  k : Nat
  nd : Nd
  td : Td
  na : ByteArray
  on : ByteArray
  fe : Nat
def nd0 : Nd := ⟨⟨#[]⟩, 0, 0, 0, [], []⟩
def td0 : Td := ⟨⟨#[]⟩, 0, 0, 0, [], [], ⟨#[]⟩, ⟨#[]⟩, 0⟩
def Rows (w : World) (base : Nat) (c : Cd) (v2 v3 v4 v5 : Value) : Prop := OwnP w base v2 c.nd.ls ∧ OwnP w base v3 c.nd.ts ∧ OwnP w base v4 c.td.ws ∧ OwnP w base v5 c.td.bs
end Hd
end Go.Proofs.YthbmnkeigmbbdaaGreat
