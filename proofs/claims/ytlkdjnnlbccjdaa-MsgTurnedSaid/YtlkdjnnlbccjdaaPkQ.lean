/-
  Merged: OrdTold, OrdBx.
-/
import Derived.Test.YtlkdjnnlbccjdaaPartsMk
import Derived.Test.YtlkdjnnlbccjdaaHardPart
import Derived.Deep.MidRow
/-
  WHAT IS TOLD, as bytes: made and taken by cluster and order.
-/
namespace Go.Proofs.Ytlkdjnnlbccjdaa
open Go.RowKit
namespace Hd
open PM
theorem box_cells {w : World} {b : Nat} {cs : Array Value} {T : TypeId} (h : w.heap[b]? = some (.cells cs T (0, 0))) : (∀ i, w.cell? ⟨b, i, none⟩ = cs[i]?) := by
  intro i
  simp [World.cell?, h]
def tlB (why : Nat) (s : ByteArray) : List UInt8 := num why ++ txt s.data.toList
/-- A box of two cells. -/
def Bx2 (w : World) (B : Nat) (a b : Value) : Prop := ∃ T, w.heap[B]? = some (.cells #[a, b] T (0, 0))
theorem Bx2.lt {w : World} {B : Nat} {a b : Value} (h : Bx2 w B a b) : B < w.heap.size := by
  obtain ⟨T, h⟩ := h
  exact (Array.getElem?_eq_some_iff.1 h).1
theorem Bx2.cells {w : World} {B : Nat} {a b : Value} (h : Bx2 w B a b) : w.cell? ⟨B, 0, none⟩ = some a ∧ w.cell? ⟨B, 1, none⟩ = some b := by
  obtain ⟨T, h⟩ := h
  refine ⟨?_, ?_⟩ <;> simp [World.cell?, h]
theorem Bx2.fz {w : World} {B : Nat} {a b : Value} (h : Bx2 w B a b) : w.frozen? ⟨B, 0, none⟩ = false ∧ w.frozen? ⟨B, 1, none⟩ = false := by
  obtain ⟨T, h⟩ := h
  refine ⟨?_, ?_⟩ <;> simp [World.frozen?, h]
theorem Bx2.set0 {w : World} {B : Nat} {a b : Value} (h : Bx2 w B a b) (u : Value) : Bx2 (w.setCell ⟨B, 0, none⟩ u) B u b := by obtain ⟨T, h⟩ := h; exact ⟨T, by simp [World.setCell, Array.getElem?_modify, h]⟩
theorem Bx2.set1 {w : World} {B : Nat} {a b : Value} (h : Bx2 w B a b) (u : Value) : Bx2 (w.setCell ⟨B, 1, none⟩ u) B a u := by obtain ⟨T, h⟩ := h; exact ⟨T, by simp [World.setCell, Array.getElem?_modify, h]⟩
theorem Bx2.below {w w' : World} {B : Nat} {a b : Value} (h : Bx2 w B a b) (hb : Below w.heap.size w w') : Bx2 w' B a b := by
  have hl := h.lt
  obtain ⟨T, h⟩ := h
  exact ⟨T, (hb.block B hl).trans h⟩
theorem Bx2.only {w w' : World} {B g : Nat} {a b : Value} (h : Bx2 w B a b) (ho : Only g w w') (hg : B ≠ g) : Bx2 w' B a b := by
  have hl := h.lt
  obtain ⟨T, h⟩ := h
  exact ⟨T, (ho.block B hl (by intro e; injection e with e; exact hg e)).trans h⟩
theorem Bx2.made (w : World) (a b : Value) (T : TypeId) : Bx2 (w.alloc (.cells #[a, b] T)) w.heap.size a b := ⟨T, heap_alloc_new w _⟩
theorem Tk.far {w : World} {g : Nat} {l : List UInt8} {b : Bool} (h : Tk w g l b) {B : Nat} (hg : g ≠ B) (o : Nat) (u : Value) : Tk (w.setCell ⟨B, o, none⟩ u) g l b := by
  obtain ⟨T, h⟩ := h
  refine ⟨T, ?_⟩
  rw [Below.heap_setCell w ⟨B, o, none⟩ u g hg]
  exact h
theorem Only.put2 {w w' : World} {g B : Nat} (h : Only g w w') (hB : w.heap.size ≤ B) (o : Nat) (u : Value) : Only g w (w'.setCell ⟨B, o, none⟩ u) := by
  refine ⟨h.os, h.tape, h.output, ?_, ?_⟩
  · have := h.size; simpa [World.setCell] using this
  · intro i hi hn
    rw [Below.heap_setCell w' ⟨B, o, none⟩ u i (by show i ≠ B; omega)]
    exact h.block i hi hn
/-- What is taken of something told. -/
def tdW (l : List UInt8) : Nat := upV 255 l
def tdR (l : List UInt8) : List UInt8 := upR 255 l
/-- Where the taking stands: what is left, the box of what was taken, the box of the result. -/
structure Ts (w0 : World) (g : Nat) (l : List UInt8) (b : Bool) (a0 a1 r0 r1 : Value) (x : World) : Prop where
  tk : Tk x g l b
  bx : Bx2 x (w0.heap.size + 1) a0 a1
  rb : Bx2 x w0.heap.size r0 r1
  on : Only g w0 x
  lt : g < w0.heap.size
theorem Ts.go {w0 : World} {g : Nat} {l l2 : List UInt8} {b b2 : Bool} {a0 a1 r0 r1 : Value} {x x' : World} (h : Ts w0 g l b a0 a1 r0 r1 x) (ht : Tk x' g l2 b2) (ho : Only g x x') : Ts w0 g l2 b2 a0 a1 r0 r1 x' :=
  ⟨ht, h.bx.only ho (by have := h.lt; omega), h.rb.only ho (by have := h.lt; omega), h.on.trans ho, h.lt⟩
theorem Bx2.apart {w : World} {B p : Nat} {a b : Value} (h : Bx2 w B a b) (hp : p ≠ B) (o : Nat) (u : Value) : Bx2 (w.setCell ⟨p, o, none⟩ u) B a b :=
  h.imp fun _ h => (Below.heap_setCell w ⟨p, o, none⟩ u B (by rintro rfl; exact hp rfl)).trans h
theorem Ts.p0 {w0 : World} {g : Nat} {l : List UInt8} {b : Bool} {a0 a1 r0 r1 : Value} {x : World} (h : Ts w0 g l b a0 a1 r0 r1 x) (u : Value) : Ts w0 g l b u a1 r0 r1 (x.setCell ⟨w0.heap.size + 1, 0, none⟩ u) :=
  ⟨h.tk.far (by have := h.lt; omega) 0 u, h.bx.set0 u, h.rb.apart (by omega) 0 u, h.on.put2 (by omega) 0 u, h.lt⟩
theorem Ts.p1 {w0 : World} {g : Nat} {l : List UInt8} {b : Bool} {a0 a1 r0 r1 : Value} {x : World} (h : Ts w0 g l b a0 a1 r0 r1 x) (u : Value) : Ts w0 g l b a0 u r0 r1 (x.setCell ⟨w0.heap.size + 1, 1, none⟩ u) :=
  ⟨h.tk.far (by have := h.lt; omega) 1 u, h.bx.set1 u, h.rb.apart (by omega) 1 u, h.on.put2 (by omega) 1 u, h.lt⟩
theorem Ts.q0 {w0 : World} {g : Nat} {l : List UInt8} {b : Bool} {a0 a1 r0 r1 : Value} {x : World} (h : Ts w0 g l b a0 a1 r0 r1 x) (u : Value) : Ts w0 g l b a0 a1 u r1 (x.setCell ⟨w0.heap.size, 0, none⟩ u) :=
  ⟨h.tk.far (by have := h.lt; omega) 0 u, h.bx.apart (by omega) 0 u, h.rb.set0 u, h.on.put2 (by omega) 0 u, h.lt⟩
theorem Ts.q1 {w0 : World} {g : Nat} {l : List UInt8} {b : Bool} {a0 a1 r0 r1 : Value} {x : World} (h : Ts w0 g l b a0 a1 r0 r1 x) (u : Value) : Ts w0 g l b a0 a1 r0 u (x.setCell ⟨w0.heap.size, 1, none⟩ u) :=
  ⟨h.tk.far (by have := h.lt; omega) 1 u, h.bx.apart (by omega) 1 u, h.rb.set1 u, h.on.put2 (by omega) 1 u, h.lt⟩
/-- Whether something told is right. -/
def tdOk (why : Int) (s : ByteArray) : Bool := decide (0 ≤ why) && (decide (why ≤ 255) && decide (s.size ≤ 32))
def teS (why : Int) (s : ByteArray) : List UInt8 := if tdOk why s = true then tlB why.toNat s else []
def teE (why : Int) (s : ByteArray) : Nat := if tdOk why s = true then 0 else 4
def ToldIs (why : Int) (s : ByteArray) (e : Ending) : Prop := e = .returned (.tuple #[.string (bs (teS why s)), .int .i64 (teE why s : Nat)])
theorem tlB_ne (n : Nat) (s : ByteArray) : tlB n s ≠ [] := by simp [tlB, num]
end Hd
end Go.Proofs.Ytlkdjnnlbccjdaa

/-
  A BOX OF ANY CELLS: what it is behind stores, other calls, and as a result.
-/
namespace Go.Proofs.Ytlkdjnnlbccjdaa
open Go.RowKit
namespace Hd
open PM
/-- Block B is a box of the cells cs. -/
def Bxn (w : World) (B : Nat) (cs : List Value) : Prop := ∃ T, w.heap[B]? = some (.cells cs.toArray T (0, 0))
theorem Bxn.lt {w : World} {B : Nat} {cs : List Value} (h : Bxn w B cs) : B < w.heap.size := by
  obtain ⟨T, h⟩ := h
  exact (Array.getElem?_eq_some_iff.1 h).1
theorem Bxn.cell {w : World} {B : Nat} {cs : List Value} (h : Bxn w B cs) (i : Nat) : w.cell? ⟨B, i, none⟩ = cs[i]? := by
  obtain ⟨T, h⟩ := h
  simp [World.cell?, h]
theorem Bxn.fz {w : World} {B : Nat} {cs : List Value} (h : Bxn w B cs) (i : Nat) : w.frozen? ⟨B, i, none⟩ = false := by
  obtain ⟨T, h⟩ := h
  simp [World.frozen?, h]
theorem Bxn.set {w : World} {B : Nat} {cs : List Value} (h : Bxn w B cs) (i : Nat) (u : Value) : Bxn (w.setCell ⟨B, i, none⟩ u) B (cs.set i u) := by
  obtain ⟨T, h⟩ := h
  exact ⟨T, by simp [World.setCell, Array.getElem?_modify, h]⟩
theorem Bxn.below {w w' : World} {B : Nat} {cs : List Value} (h : Bxn w B cs) (hb : Below w.heap.size w w') : Bxn w' B cs := by
  have hl := h.lt
  obtain ⟨T, h⟩ := h
  exact ⟨T, (hb.block B hl).trans h⟩
theorem Bxn.only {w w' : World} {B g : Nat} {cs : List Value} (h : Bxn w B cs) (ho : Only g w w') (hg : B ≠ g) : Bxn w' B cs := by
  have hl := h.lt
  obtain ⟨T, h⟩ := h
  exact ⟨T, (ho.block B hl (by intro e; injection e with e; exact hg e)).trans h⟩
theorem Bxn.made (w : World) (cs : List Value) (T : TypeId) : Bxn (w.alloc (.cells cs.toArray T)) w.heap.size cs := ⟨T, heap_alloc_new w _⟩
theorem Bxn.apart {w : World} {B p : Nat} {cs : List Value} (h : Bxn w B cs) (hp : p ≠ B) (o : Nat) (u : Value) : Bxn (w.setCell ⟨p, o, none⟩ u) B cs :=
  h.imp fun _ h => (Below.heap_setCell w ⟨p, o, none⟩ u B (by rintro rfl; exact hp rfl)).trans h
theorem Bxn.range {w : World} {B : Nat} {cs : List Value} (h : Bxn w B cs) (o : Nat) : w.rangeAt B o (cs.drop o) := by
  intro j v hj
  rw [h.cell]
  rw [List.getElem?_drop] at hj
  exact hj
/-- A struct read whole out of its box, or out of the middle of one. -/
theorem Bxn.load {w : World} {B : Nat} {cs : List Value} (h : Bxn w B cs) (o : Nat) (vs : List Value) (hv : (cs.drop o).take vs.length = vs) (ty : TypeId) (d : TypeDesc) (hu : Try.prog.underlying ty = some d) (hd : d.isRow = true) (hi : (Try.prog.info? ty).map (·.size) = some vs.length) :
    (Instr.loadAt ty (.pointer (some ⟨B, o, none⟩))).run Try.prog w = .ok (.agg vs.toArray) w :=
  run_loadAt_mid w B o ty _ d (fun j v hj => by
    rw [← hv, List.getElem?_take] at hj
    split at hj
    · exact h.range o j v hj
    · cases hj) hu hd hi
theorem bodyPost_bx {fn : Func} {p : Tmp} {ty : TypeId} (h : fn.results = #[.cell p ty]) {R : Ending → World → Prop} {a : Act} {w : World} (B : Nat) (cs : List Value) (d : TypeDesc) (hd : a.defers = [])
    (hp : a.tmps.getD p undef = .pointer (some ⟨B, 0, none⟩)) (hx : Bxn w B cs) (hu : Try.prog.underlying ty = some d) (hr : d.isRow = true) (hi : (Try.prog.info? ty).map (·.size) = some cs.length)
    (hR : R (.returned (.agg cs.toArray)) w) : bodyPost Try.prog fn R .ret a w := by
  refine bodyPost_ret ?_ hd hR
  rw [one_result h, hp]
  have := run_loadVar_mid w B 0 ty cs d (hx.range 0) hu hr hi
  simp [asAddr, this, Result.andThen]
theorem bodyPost_bx2 {fn : Func} {p u : Tmp} {ty : TypeId} (h : fn.results = #[.cell p ty, .tmp u]) {R : Ending → World → Prop} {a : Act} {w : World} (B : Nat) (cs : List Value) (d : TypeDesc) (hd : a.defers = [])
    (hp : a.tmps.getD p undef = .pointer (some ⟨B, 0, none⟩)) (hx : Bxn w B cs) (hu : Try.prog.underlying ty = some d) (hr : d.isRow = true) (hi : (Try.prog.info? ty).map (·.size) = some cs.length)
    (hR : R (.returned (.tuple #[.agg cs.toArray, a.tmps.getD u undef])) w) : bodyPost Try.prog fn R .ret a w := by
  refine bodyPost_ret ?_ hd hR
  rw [results_cell_tmp h, hp]
  have := run_loadVar_mid w B 0 ty cs d (hx.range 0) hu hr hi
  simp [asAddr, this, Result.andThen]
/-- Where the taking stands: what is left, the box of what was taken, the box of the result; only the taker, and what is new, has turned. -/
structure Tz (w0 : World) (g : Nat) (l : List UInt8) (b : Bool) (cs rs : List Value) (x : World) : Prop where
  tk : Tk x g l b
  bx : Bxn x (w0.heap.size + 1) cs
  rb : Bxn x w0.heap.size rs
  on : Only g w0 x
  lt : g < w0.heap.size
theorem Tz.go {w0 : World} {g : Nat} {l l2 : List UInt8} {b b2 : Bool} {cs rs : List Value} {x x' : World} (h : Tz w0 g l b cs rs x) (ht : Tk x' g l2 b2) (ho : Only g x x') : Tz w0 g l2 b2 cs rs x' :=
  ⟨ht, h.bx.only ho (by have := h.lt; omega), h.rb.only ho (by have := h.lt; omega), h.on.trans ho, h.lt⟩
theorem Tz.p {w0 : World} {g : Nat} {l : List UInt8} {b : Bool} {cs rs : List Value} {x : World} (h : Tz w0 g l b cs rs x) (i : Nat) (u : Value) : Tz w0 g l b (cs.set i u) rs (x.setCell ⟨w0.heap.size + 1, i, none⟩ u) :=
  ⟨h.tk.far (by have := h.lt; omega) i u, h.bx.set i u, h.rb.apart (by omega) i u, h.on.put2 (by omega) i u, h.lt⟩
theorem Tz.q {w0 : World} {g : Nat} {l : List UInt8} {b : Bool} {cs rs : List Value} {x : World} (h : Tz w0 g l b cs rs x) (i : Nat) (u : Value) : Tz w0 g l b cs (rs.set i u) (x.setCell ⟨w0.heap.size, i, none⟩ u) :=
  ⟨h.tk.far (by have := h.lt; omega) i u, h.bx.apart (by omega) i u, h.rb.set i u, h.on.put2 (by omega) i u, h.lt⟩
theorem Tz.made {w : World} {g : Nat} {l : List UInt8} {b : Bool} (cs : List Value) (T : TypeId) (h : Tk w g l b) : Tz w g l b cs cs ((w.alloc (.cells cs.toArray T)).alloc (.cells cs.toArray T)) := by
  have hl := h.lt
  have h1 : Below w.heap.size w (w.alloc (.cells cs.toArray T)) := (Below.refl _ _).alloc (Nat.le_refl _) _
  have h2 : Below (w.alloc (.cells cs.toArray T)).heap.size (w.alloc (.cells cs.toArray T)) ((w.alloc (.cells cs.toArray T)).alloc (.cells cs.toArray T)) := (Below.refl _ _).alloc (Nat.le_refl _) _
  have h3 := h1.trans (h2.mono h1.size)
  refine ⟨h.below h3 hl, ?_, (Bxn.made w _ _).below h2, Only.of_below h3, hl⟩
  have := Bxn.made (w.alloc (.cells cs.toArray T)) cs T
  rw [World.size_alloc] at this
  exact this
/-! A struct stored whole. -/
theorem only_setCells (R : Nat) : ∀ (vs : List Value) (o : Nat) (w : World), Only R w (w.setCells R o vs)
  | [], _, w => Only.refl R w
  | v :: r, o, w => ((Only.refl R w).set o v).trans (only_setCells R r (o + 1) _)
theorem heap_setCells (R : Nat) (T : TypeId) : ∀ (vs : List Value) (o : Nat) (w : World) (cs : List Value), w.heap[R]? = some (.cells cs.toArray T (0, 0)) → o + vs.length = cs.length →
    (w.setCells R o vs).heap[R]? = some (.cells (cs.take o ++ vs).toArray T (0, 0))
  | [], o, w, cs, h, hl => by
    rw [List.append_nil, List.take_of_length_le (by simp at hl; omega)]
    exact h
  | v :: r, o, w, cs, h, hl => by
    rw [World.setCells]
    have hlt : o < cs.length := by simp at hl; omega
    have h1 : (w.setCell ⟨R, o, none⟩ v).heap[R]? = some (.cells (cs.set o v).toArray T (0, 0)) := by simp [World.setCell, Array.getElem?_modify, h]
    rw [heap_setCells R T r (o + 1) _ (cs.set o v) h1 (by simp at hl ⊢; omega)]
    have e : (cs.set o v).take (o + 1) = cs.take o ++ [v] := by
      rw [List.set_eq_take_append_cons_drop, if_pos hlt, List.take_append]
      have hl2 : (cs.take o).length = o := by rw [List.length_take]; omega
      rw [hl2, List.take_of_length_le (by omega), show o + 1 - o = 1 by omega]
      rfl
    rw [e, List.append_assoc]
    rfl
theorem Bxn.all {w : World} {R : Nat} {rs : List Value} (h : Bxn w R rs) (vs : List Value) (hl : vs.length = rs.length) : Bxn (w.setCells R 0 vs) R vs := by
  obtain ⟨T, h⟩ := h
  exact ⟨T, heap_setCells R T vs 0 w rs h (by omega)⟩
theorem Bxn.there {w : World} {R : Nat} {rs : List Value} (h : Bxn w R rs) (n : Nat) (hn : n = rs.length) : w.there R 0 n := fun j hj => by
  rw [Nat.zero_add]
  refine ⟨?_, h.fz j⟩
  rw [h.cell, List.getElem?_eq_getElem (by omega)]
  rfl
theorem Tk.off {w w' : World} {g R : Nat} {l : List UInt8} {b : Bool} (h : Tk w g l b) (ho : Only R w w') (hg : g ≠ R) : Tk w' g l b := by
  have hl := h.lt
  obtain ⟨T, h⟩ := h
  exact ⟨T, (ho.block g hl (by intro e; injection e with e; exact hg e)).trans h⟩
theorem Only.both {w x x' : World} {g R : Nat} (h : Only g w x) (ho : Only R x x') (hR : w.heap.size ≤ R) : Only g w x' := by
  refine ⟨ho.os.trans h.os, ho.tape.trans h.tape, ho.output.trans h.output, Nat.le_trans h.size ho.size, fun i hi hne => ?_⟩
  have hs := h.size
  exact (ho.block i (by omega) (by intro e; injection e with e; omega)).trans (h.block i hi hne)
theorem Tz.all {w0 : World} {g : Nat} {l : List UInt8} {b : Bool} {cs rs : List Value} {x : World} (h : Tz w0 g l b cs rs x) (vs : List Value) (hl : vs.length = rs.length) : Tz w0 g l b cs vs (x.setCells w0.heap.size 0 vs) := by
  have ho := only_setCells w0.heap.size vs 0 x
  have hlt := h.lt
  exact ⟨h.tk.off ho (by omega), h.bx.only ho (by omega), h.rb.all vs hl, h.on.both ho (Nat.le_refl _), h.lt⟩
end Hd
end Go.Proofs.Ytlkdjnnlbccjdaa
