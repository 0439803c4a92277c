/-
  A MAKER OF PARTS: parts.Maker's Number, Text, Bytes.
-/
import Derived.Test.YtaipbaegbpebkaaGreatPackText
import Derived.Laws.Externs
import Derived.Lib.OthersKept
import Derived.Lib.Builder
import Derived.Lib.AppendStr
import Derived.Lib.UnsafeStr
import Derived.Deep.RegionWith
import Derived.Deep.LoopGhost
namespace Go.Proofs.YtaipbaegbpebkaaGreat
open Go.RowKit
namespace Hd
open PM
/-- Nothing has turned but block g, and rows of bytes from B on. -/
def Fr (B g : Nat) (w w' : World) : Prop := Below B w w' ∧ Lib.OthersKept 5 (some g) w w'
theorem Fr.refl (B g : Nat) (w : World) : Fr B g w w := ⟨Below.refl B w, Lib.OthersKept.refl _ _ w⟩
theorem Fr.trans {B g : Nat} {a b c : World} (h : Fr B g a b) (k : Fr B g b c) : Fr B g a c := ⟨h.1.trans k.1, h.2.trans k.2⟩
theorem kept_of_below {e : TypeId} {b : Option Nat} {w w' : World} (h : Below w.heap.size w w') : Lib.OthersKept e b w w' := by
  intro k o hk _ _
  have hlt : k < w.heap.size := (Array.getElem?_eq_some_iff.1 hk).1
  exact (h.block k hlt).trans hk
theorem Fr.of_below {B g : Nat} {w w' : World} (h : Below w.heap.size w w') (hB : B ≤ w.heap.size) : Fr B g w w' := ⟨h.mono hB, kept_of_below h⟩
theorem Fr.keep {B g b : Nat} {w w' : World} {cs : Array Value} {T : TypeId} (h : Fr B g w w') (hk : w.heap[b]? = some (.cells cs T (0, 0))) (hb : b ≠ g) (hT : T ≠ 5) : w'.heap[b]? = some (.cells cs T (0, 0)) :=
  h.2 b _ hk (by intro e; exact hb (Option.some.inj e)) (by intro c fz e; injection e with e1 e2; exact hT e2)
theorem own_keep {w w' : World} {base : Nat} {e : TypeId} {size n : Nat} {v : Value} {xs : List Value} (h : w.ownsRow base e size v n xs) (hb : Below w.heap.size w w') : w'.ownsRow base e size v n xs := by
  refine ⟨h.1, ?_⟩
  rcases h.2 with h2 | ⟨g, cap, cur, h3, h4, h5, h6⟩
  · exact .inl h2
  · exact .inr ⟨g, cap, cur, h3, h4, (hb.block g ((Array.getElem?_eq_some_iff.1 h5).1)).trans h5, h6⟩
theorem bat_keep {T e : TypeId} {B b : Nat} {p : Value} {xs : List Value} {w w' : World} (h : Lib.BuilderAt T e B b p xs w) (hb : Below w.heap.size w w') : Lib.BuilderAt T e B b p xs w' := by
  have hlt := h.lt
  obtain ⟨hB, v, hv, ho, hn⟩ := h
  exact ⟨hB, v, (hb.block b hlt).trans hv, own_keep ho hb, hn⟩
theorem cells_u8 : Tryz.prog.cellsOf 5 = 1 := by kernel_rfl
end Hd
end Go.Proofs.YtaipbaegbpebkaaGreat
