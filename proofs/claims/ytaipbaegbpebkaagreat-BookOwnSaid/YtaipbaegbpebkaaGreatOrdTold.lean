/-
  WHAT IS TOLD, as bytes: made and taken by cluster and order.
-/
import Derived.Test.YtaipbaegbpebkaaGreatPartsMk
import Derived.Test.YtaipbaegbpebkaaGreatHardPart
namespace Go.Proofs.YtaipbaegbpebkaaGreat
open Go.RowKit
namespace Hd
open PM
theorem box_cells {w : World} {b : Nat} {cs : Array Value} {T : TypeId} (h : w.heap[b]? = some (.cells cs T (0, 0))) : (∀ i, w.cell? ⟨b, i, none⟩ = cs[i]?) := by
  intro i
  simp [World.cell?, h]
def tlB (why : Nat) (s : ByteArray) : List UInt8 := num why ++ txt s.data.toList
/-- A box of two cells. -/
def Bx2 (w : World) (B : Nat) (a b : Value) : Prop := ∃ T, w.heap[B]? = some (.cells #[a, b] T (0, 0))
theorem Bx2.lt {w : World} {B : Nat} {a b : Value} (h : Bx2 w B a b) : B < w.heap.size := by
  obtain ⟨T, h⟩ := h
  exact (Array.getElem?_eq_some_iff.1 h).1
theorem Bx2.cells {w : World} {B : Nat} {a b : Value} (h : Bx2 w B a b) : w.cell? ⟨B, 0, none⟩ = some a ∧ w.cell? ⟨B, 1, none⟩ = some b := by
  obtain ⟨T, h⟩ := h
  refine ⟨?_, ?_⟩ <;> simp [World.cell?, h]
theorem Bx2.fz {w : World} {B : Nat} {a b : Value} (h : Bx2 w B a b) : w.frozen? ⟨B, 0, none⟩ = false ∧ w.frozen? ⟨B, 1, none⟩ = false := by
  obtain ⟨T, h⟩ := h
  refine ⟨?_, ?_⟩ <;> simp [World.frozen?, h]
theorem Bx2.set0 {w : World} {B : Nat} {a b : Value} (h : Bx2 w B a b) (u : Value) : Bx2 (w.setCell ⟨B, 0, none⟩ u) B u b := by obtain ⟨T, h⟩ := h; exact ⟨T, by simp [World.setCell, Array.getElem?_modify, h]⟩
theorem Bx2.set1 {w : World} {B : Nat} {a b : Value} (h : Bx2 w B a b) (u : Value) : Bx2 (w.setCell ⟨B, 1, none⟩ u) B a u := by obtain ⟨T, h⟩ := h; exact ⟨T, by simp [World.setCell, Array.getElem?_modify, h]⟩
theorem Bx2.below {w w' : World} {B : Nat} {a b : Value} (h : Bx2 w B a b) (hb : Below w.heap.size w w') : Bx2 w' B a b := by
  have hl := h.lt
  obtain ⟨T, h⟩ := h
  exact ⟨T, (hb.block B hl).trans h⟩
theorem Bx2.only {w w' : World} {B g : Nat} {a b : Value} (h : Bx2 w B a b) (ho : Only g w w') (hg : B ≠ g) : Bx2 w' B a b := by
  have hl := h.lt
  obtain ⟨T, h⟩ := h
  exact ⟨T, (ho.block B hl (by intro e; injection e with e; exact hg e)).trans h⟩
theorem Bx2.made (w : World) (a b : Value) (T : TypeId) : Bx2 (w.alloc (.cells #[a, b] T)) w.heap.size a b := ⟨T, heap_alloc_new w _⟩
theorem Tk.far {w : World} {g : Nat} {l : List UInt8} {b : Bool} (h : Tk w g l b) {B : Nat} (hg : g ≠ B) (o : Nat) (u : Value) : Tk (w.setCell ⟨B, o, none⟩ u) g l b := by
  obtain ⟨T, h⟩ := h
  refine ⟨T, ?_⟩
  rw [Below.heap_setCell w ⟨B, o, none⟩ u g hg]
  exact h
theorem Only.put2 {w w' : World} {g B : Nat} (h : Only g w w') (hB : w.heap.size ≤ B) (o : Nat) (u : Value) : Only g w (w'.setCell ⟨B, o, none⟩ u) := by
  refine ⟨h.os, h.tape, h.output, ?_, ?_⟩
  · have := h.size; simpa [World.setCell] using this
  · intro i hi hn
    rw [Below.heap_setCell w' ⟨B, o, none⟩ u i (by show i ≠ B; omega)]
    exact h.block i hi hn
theorem load_told (w : World) (B : Nat) (v : Int) (s : ByteArray) (h : Bx2 w B (.int .i64 v) (.string s)) :
    (loadVar 40 ⟨B, 0, none⟩).run Tryz.prog w = .ok (.agg #[.int .i64 v, .string s]) w := by
  obtain ⟨c0, c1⟩ := h.cells
  have a := Tryz.isAgg40 w
  have c := Tryz.sizeOf40 w
  go_simp
theorem bodyPost_told {fn : Func} {p : Tmp} (h : fn.results = #[.cell p 40]) {R : Ending → World → Prop} {a : Act} {w : World} (B : Nat) (v : Int) (s : ByteArray) (hd : a.defers = [])
    (hp : a.tmps.getD p undef = .pointer (some ⟨B, 0, none⟩)) (hx : Bx2 w B (.int .i64 v) (.string s))
    (hR : R (.returned (.agg #[.int .i64 v, .string s])) w) : bodyPost Tryz.prog fn R .ret a w := by
  refine bodyPost_ret ?_ hd hR
  rw [one_result h, hp]
  have := load_told w B v s hx
  simp [asAddr, this, Result.andThen]
/-- What is taken of something told. -/
def tdW (l : List UInt8) : Nat := upV 255 l
def tdR (l : List UInt8) : List UInt8 := upR 255 l
/-- Where the taking stands: what is left, the box of what was taken, the box of the result. -/
structure Ts (w0 : World) (g : Nat) (l : List UInt8) (b : Bool) (a0 a1 r0 r1 : Value) (x : World) : Prop where
  tk : Tk x g l b
  bx : Bx2 x (w0.heap.size + 1) a0 a1
  rb : Bx2 x w0.heap.size r0 r1
  on : Only g w0 x
  lt : g < w0.heap.size
theorem Ts.go {w0 : World} {g : Nat} {l l2 : List UInt8} {b b2 : Bool} {a0 a1 r0 r1 : Value} {x x' : World} (h : Ts w0 g l b a0 a1 r0 r1 x) (ht : Tk x' g l2 b2) (ho : Only g x x') : Ts w0 g l2 b2 a0 a1 r0 r1 x' :=
  ⟨ht, h.bx.only ho (by have := h.lt; omega), h.rb.only ho (by have := h.lt; omega), h.on.trans ho, h.lt⟩
theorem Bx2.apart {w : World} {B p : Nat} {a b : Value} (h : Bx2 w B a b) (hp : p ≠ B) (o : Nat) (u : Value) : Bx2 (w.setCell ⟨p, o, none⟩ u) B a b :=
  h.imp fun _ h => (Below.heap_setCell w ⟨p, o, none⟩ u B (by rintro rfl; exact hp rfl)).trans h
theorem Ts.p0 {w0 : World} {g : Nat} {l : List UInt8} {b : Bool} {a0 a1 r0 r1 : Value} {x : World} (h : Ts w0 g l b a0 a1 r0 r1 x) (u : Value) : Ts w0 g l b u a1 r0 r1 (x.setCell ⟨w0.heap.size + 1, 0, none⟩ u) :=
  ⟨h.tk.far (by have := h.lt; omega) 0 u, h.bx.set0 u, h.rb.apart (by omega) 0 u, h.on.put2 (by omega) 0 u, h.lt⟩
theorem Ts.p1 {w0 : World} {g : Nat} {l : List UInt8} {b : Bool} {a0 a1 r0 r1 : Value} {x : World} (h : Ts w0 g l b a0 a1 r0 r1 x) (u : Value) : Ts w0 g l b a0 u r0 r1 (x.setCell ⟨w0.heap.size + 1, 1, none⟩ u) :=
  ⟨h.tk.far (by have := h.lt; omega) 1 u, h.bx.set1 u, h.rb.apart (by omega) 1 u, h.on.put2 (by omega) 1 u, h.lt⟩
theorem Ts.q0 {w0 : World} {g : Nat} {l : List UInt8} {b : Bool} {a0 a1 r0 r1 : Value} {x : World} (h : Ts w0 g l b a0 a1 r0 r1 x) (u : Value) : Ts w0 g l b a0 a1 u r1 (x.setCell ⟨w0.heap.size, 0, none⟩ u) :=
  ⟨h.tk.far (by have := h.lt; omega) 0 u, h.bx.apart (by omega) 0 u, h.rb.set0 u, h.on.put2 (by omega) 0 u, h.lt⟩
theorem Ts.q1 {w0 : World} {g : Nat} {l : List UInt8} {b : Bool} {a0 a1 r0 r1 : Value} {x : World} (h : Ts w0 g l b a0 a1 r0 r1 x) (u : Value) : Ts w0 g l b a0 a1 r0 u (x.setCell ⟨w0.heap.size, 1, none⟩ u) :=
  ⟨h.tk.far (by have := h.lt; omega) 1 u, h.bx.apart (by omega) 1 u, h.rb.set1 u, h.on.put2 (by omega) 1 u, h.lt⟩
theorem Ts.made {w : World} {g : Nat} {l : List UInt8} {b : Bool} (h : Tk w g l b) : Ts w g l b (.int .i64 0) (.string ⟨#[]⟩) (.int .i64 0) (.string ⟨#[]⟩) ((w.alloc (.cells #[.int .i64 0, .string ⟨#[]⟩] 40)).alloc (.cells #[.int .i64 0, .string ⟨#[]⟩] 40)) := by
  have hl := h.lt
  have h1 : Below w.heap.size w (w.alloc (.cells #[.int .i64 0, .string ⟨#[]⟩] 40)) := (Below.refl _ _).alloc (Nat.le_refl _) _
  have h2 : Below (w.alloc (.cells #[.int .i64 0, .string ⟨#[]⟩] 40)).heap.size (w.alloc (.cells #[.int .i64 0, .string ⟨#[]⟩] 40)) ((w.alloc (.cells #[.int .i64 0, .string ⟨#[]⟩] 40)).alloc (.cells #[.int .i64 0, .string ⟨#[]⟩] 40)) := (Below.refl _ _).alloc (Nat.le_refl _) _
  have h3 := h1.trans (h2.mono h1.size)
  refine ⟨h.below h3 hl, ?_, (Bx2.made w _ _ _).below h2, Only.of_below h3, hl⟩
  have := Bx2.made (w.alloc (.cells #[.int .i64 0, .string ⟨#[]⟩] 40)) (.int .i64 0) (.string ⟨#[]⟩) 40
  rw [World.size_alloc] at this
  exact this
/-- Whether something told is right. -/
def tdOk (why : Int) (s : ByteArray) : Bool := decide (0 ≤ why) && (decide (why ≤ 255) && decide (s.size ≤ 32))
def teS (why : Int) (s : ByteArray) : List UInt8 := if tdOk why s = true then tlB why.toNat s else []
def teE (why : Int) (s : ByteArray) : Nat := if tdOk why s = true then 0 else 4
def ToldIs (why : Int) (s : ByteArray) (e : Ending) : Prop := e = .returned (.tuple #[.string (bs (teS why s)), .int .i64 (teE why s : Nat)])
theorem tlB_ne (n : Nat) (s : ByteArray) : tlB n s ≠ [] := by simp [tlB, num]
end Hd
end Go.Proofs.YtaipbaegbpebkaaGreat
