/-
  WHO BEARS WHOM: rig.keepsOff, rig.Bear, the document's Bear, and the examples.
-/
import Derived.Test.YtgdnpjmicdiclaaRigName
import Derived.Deep.RegionHeld3
namespace Go.Proofs.Ytgdnpjmicdiclaa
open Go.RowKit
namespace Rg
/-- Whether one that is apart of group a will not be where one of group g is. -/
def koB (a g : ByteArray) : Bool := !(a.toList.isEmpty) && (a.toList == g.toList)
def bearB (aa ag ba bg : ByteArray) : Bool := !(koB aa bg) && !(koB ba ag)
theorem koB_nil (a g : ByteArray) (h : a.toList = []) : koB a g = false := by unfold koB; simp [h]
theorem koB_eq (a g : ByteArray) (h : ¬ a.toList = []) : koB a g = (a.toList == g.toList) := by unfold koB; simp [h]
theorem bear_turned (aa ag ba bg : ByteArray) : bearB aa ag ba bg = bearB ba bg aa ag := by unfold bearB; rw [Bool.and_comm]
theorem two (w : World) (o o' : Obj) : Below w.heap.size w ((w.alloc o).alloc o') := ((Below.refl _ _).alloc (Nat.le_refl _) _).alloc (by simp) _

theorem boxed {w w1 : World} {a b : Array Value} {t u : TypeId} (hb : Below ((w.alloc (.cells a t)).alloc (.cells b u)).heap.size ((w.alloc (.cells a t)).alloc (.cells b u)) w1) :
    (∀ i, w1.cell? ⟨w.heap.size, i, none⟩ = a[i]?) ∧ (∀ i, w1.cell? ⟨w.heap.size + 1, i, none⟩ = b[i]?) ∧ Below w.heap.size w w1 := by
  refine ⟨fun i => ?_, fun i => ?_, (two w _ _).trans (hb.mono (by simp; omega))⟩
  · rw [hb.cell (by simp; omega)]
    simp [go_sem]
  · rw [hb.cell (by simp)]
    simp [go_sem]

end Rg
end Go.Proofs.Ytgdnpjmicdiclaa
