/-
  NOTHING of a node, of a task: book.zeroNode, book.zeroTask.
-/
import Derived.Test.YthbmnkeigmbbdaaRgA
import Derived.Test.YthbmnkeigmbbdaaPkQ
namespace Go.Proofs.Ythbmnkeigmbbdaa
open Go.RowKit
namespace Rg
theorem ba_size0 {s : ByteArray} (h : s.size = 0) : s = ⟨#[]⟩ := by
  rcases s with ⟨⟨l⟩⟩
  cases l with
  | nil => rfl
  | cons a r => simp [ByteArray.size] at h
theorem ba_ne {s : ByteArray} (h : ¬ s.size = 0) : ¬ s.toList = [] ∧ s.toList.isEmpty = false := by
  have h1 : ¬ s.toList = [] := by
    intro e
    apply h
    rw [ByteArray.toList_eq] at e
    show s.data.size = 0
    rw [← Array.length_toList, e]
    rfl
  refine ⟨h1, ?_⟩
  rw [← Bool.not_eq_true, List.isEmpty_iff]
  exact h1
theorem andT {a b r : Bool} (h : a = true) (k : b = r) : (a && b) = r := by rw [h, k]; rfl
theorem andF {a b : Bool} (h : a = false) : (a && b) = false := by rw [h]; rfl
def zB (s : ByteArray) : Bool := decide (s.size = 0)
def zL (n : Nat) : Bool := decide (n = 0)
def zZ (n : Int) : Bool := decide (n = 0)
def zN (n : ByteArray) (z0 z1 z2 : Int) (ln tn : Nat) : Bool := zB n && (eqA z0 z1 z2 0 0 0 && (zL ln && zL tn))
def zT (n : ByteArray) (z0 z1 z2 : Int) (ln tn : Nat) (g a : ByteArray) (r : Int) : Bool := zB n && (eqA z0 z1 z2 0 0 0 && (zL ln && (zL tn && (zB g && (zB a && zZ r)))))
theorem eqA_true {a0 a1 a2 b0 b1 b2 : Int} (h : eqA a0 a1 a2 b0 b1 b2 = true) : a0 = b0 ∧ a1 = b1 ∧ a2 = b2 := by
  unfold eqA at h
  simpa [Bool.and_eq_true] using h
end Rg
end Go.Proofs.Ythbmnkeigmbbdaa
