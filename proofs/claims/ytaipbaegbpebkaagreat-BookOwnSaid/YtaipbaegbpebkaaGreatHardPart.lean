/-
  A TAKER OF PARTS: parts.Of, Framed, Number, Upto, Done.
-/
import Derived.Test.YtaipbaegbpebkaaGreatPackTakeNum
import Derived.Test.YtaipbaegbpebkaaGreatPackText
import Derived.Test.YtaipbaegbpebkaaGreatPackTakeFr
import Derived.Test.YtaipbaegbpebkaaGreatPackBackMath
import Derived.Laws.ResultCell
namespace Go.Proofs.YtaipbaegbpebkaaGreat
open Go.RowKit
namespace Hd
open PM
/-- Block g is a taker: the bytes l are left; whether something was wrong. -/
def Tk (w : World) (g : Nat) (l : List UInt8) (b : Bool) : Prop := ∃ T, w.heap[g]? = some (.cells #[.string (bs l), .bool b] T (0, 0))
theorem Tk.cells {w : World} {g : Nat} {l : List UInt8} {b : Bool} (h : Tk w g l b) : w.cell? ⟨g, 0, none⟩ = some (.string (bs l)) ∧ w.cell? ⟨g, 1, none⟩ = some (.bool b) ∧ w.frozen? ⟨g, 0, none⟩ = false ∧ w.frozen? ⟨g, 1, none⟩ = false := by
  obtain ⟨T, h⟩ := h
  refine ⟨?_, ?_, ?_, ?_⟩ <;> simp [World.cell?, World.frozen?, h]
theorem Tk.lt {w : World} {g : Nat} {l : List UInt8} {b : Bool} (h : Tk w g l b) : g < w.heap.size := by
  rcases Nat.lt_or_ge g w.heap.size with hlt | hge
  · exact hlt
  · obtain ⟨T, h⟩ := h; rw [Array.getElem?_eq_none hge] at h; cases h
theorem Tk.set {w : World} {g : Nat} {l m : List UInt8} {b c : Bool} (h : Tk w g l b) : Tk ((w.setCell ⟨g, 0, none⟩ (.string (bs m))).setCell ⟨g, 1, none⟩ (.bool c)) g m c := by
  obtain ⟨T, h⟩ := h
  exact ⟨T, by simp [World.setCell, Array.getElem?_modify, h]⟩
theorem Tk.below {w w' : World} {B g : Nat} {l : List UInt8} {b : Bool} (h : Tk w g l b) (hb : Below B w w') (hg : g < B) : Tk w' g l b := h.imp fun _ h => (hb.block g hg).trans h
theorem Tk.made (T : TypeId) (w : World) (l : List UInt8) (b : Bool) : Tk (w.alloc (.cells #[.string (bs l), .bool b] T)) w.heap.size l b := ⟨T, heap_alloc_new w _⟩
/-- Only block g, and what is new, has turned. -/
def Only (g : Nat) (w w' : World) : Prop := w.grownBy w' (some g)
theorem Only.refl (g : Nat) (w : World) : Only g w w := ⟨rfl, rfl, rfl, Nat.le_refl _, fun _ _ _ => rfl⟩
theorem Only.of_below {g : Nat} {w w' : World} (h : Below w.heap.size w w') : Only g w w' := ⟨h.os, h.tape, h.output, h.size, fun i hi _ => h.block i hi⟩
theorem Only.set {g : Nat} {a w : World} (h : Only g a w) (o : Nat) (u : Value) : Only g a (w.setCell ⟨g, o, none⟩ u) :=
  ⟨h.os, h.tape, h.output, by simpa [World.setCell] using h.size, fun i hi hne => (Below.heap_setCell w ⟨g, o, none⟩ u i (by rintro rfl; exact hne rfl)).trans (h.block i hi hne)⟩
theorem Only.trans {g : Nat} {a b c : World} (h : Only g a b) (k : Only g b c) : Only g a c :=
  ⟨k.os.trans h.os, k.tape.trans h.tape, k.output.trans h.output, Nat.le_trans h.size k.size, fun i hi hne => (k.block i (Nat.lt_of_lt_of_le hi h.size) hne).trans (h.block i hi hne)⟩
theorem Only.below {g B : Nat} {w w' : World} (h : Only g w w') (hB : B ≤ w.heap.size) (hg : B ≤ g) : Below B w w' := (Below.refl B w).grown h hB (fun k e => by injection e with e; omega)

theorem one_result {fn : Func} {p : Tmp} {ty : TypeId} (h : fn.results = #[.cell p ty]) (tmps : Array Value) (P : Program) (w : World) :
    (results fn tmps).run P w = ((asAddr (tmps.getD p undef)).run P w).andThen fun a w₁ => (loadVar ty a).run P w₁ := by
  simp [results, h]
/-- What a frame that is all of some bytes holds; whether it is none. -/
def fmL (l : List UInt8) : List UInt8 := if tfW l = 0 then (if tfR l = [] then tfP l else []) else []
def fmB (l : List UInt8) : Bool := if tfW l = 0 then (if tfR l = [] then false else true) else true
theorem fm_bad (l : List UInt8) (h : tfW l ≠ 0) : fmL l = [] ∧ fmB l = true := by unfold fmL fmB; rw [if_neg h, if_neg h]; exact ⟨rfl, rfl⟩
theorem fm_more (l : List UInt8) (h : tfW l = 0) (h2 : tfR l ≠ []) : fmL l = [] ∧ fmB l = true := by unfold fmL fmB; rw [if_pos h, if_pos h, if_neg h2, if_neg h2]; exact ⟨rfl, rfl⟩
theorem fm_ok (l : List UInt8) (h : tfW l = 0) (h2 : tfR l = []) : fmL l = tfP l ∧ fmB l = false := by unfold fmL fmB; rw [if_pos h, if_pos h, if_pos h2, if_pos h2]; exact ⟨rfl, rfl⟩
theorem bs_nil (l : List UInt8) : (bs l).toList = [] ↔ l = [] := by
  rw [ByteArray.toList_eq, bs_data]
def FramedIs (l : List UInt8) (e : Ending) : Prop := e = .returned (.agg #[.string (bs (fmL l)), .bool (fmB l)])
theorem FramedIs.bad {l : List UInt8} (h : fmL l = [] ∧ fmB l = true) : FramedIs l (.returned (.agg #[.string ⟨#[]⟩, .bool true])) := by unfold FramedIs; rw [h.1, h.2]; rfl
theorem FramedIs.ok {l : List UInt8} (h : fmL l = tfP l ∧ fmB l = false) : FramedIs l (.returned (.agg #[.string (bs (tfP l)), .bool false])) := by unfold FramedIs; rw [h.1, h.2]
/-- What a number that may be at most so much comes to. -/
def upV (m : Nat) (l : List UInt8) : Nat := if m < tnN l then 0 else tnN l
def upR (m : Nat) (l : List UInt8) : List UInt8 := if m < tnN l then [] else tnR l
def upB (m : Nat) (l : List UInt8) : Bool := if m < tnN l then true else decide (tnW l ≠ 0)
theorem upV_le (m : Nat) (l : List UInt8) : upV m l ≤ m := by unfold upV; split <;> omega
theorem upR_length (m : Nat) (l : List UInt8) : (upR m l).length ≤ l.length := by
  unfold upR
  split
  · exact Nat.zero_le _
  · exact tnR_length l
end Hd
end Go.Proofs.YtaipbaegbpebkaaGreat
