/-
  NOTHING of a node, of a task: book.zeroNode, book.zeroTask.
-/
import Derived.Test.YthbmnkeigmbbdaaGreatRgA
import Derived.Test.YthbmnkeigmbbdaaGreatPkQ
namespace Go.Proofs.YthbmnkeigmbbdaaGreat
open Go.RowKit
namespace Rg
theorem andT {a b r : Bool} (h : a = true) (k : b = r) : (a && b) = r := by rw [h, k]; rfl
theorem andF {a b : Bool} (h : a = false) : (a && b) = false := by rw [h]; rfl
def zB (s : ByteArray) : Bool := decide (s.size = 0)
def zL (n : Nat) : Bool := decide (n = 0)
def zZ (n : Int) : Bool := decide (n = 0)
def zN (n : ByteArray) (z0 z1 z2 : Int) (ln tn : Nat) : Bool := zB n && (eqA z0 z1 z2 0 0 0 && (zL ln && zL tn))
def zT (n : ByteArray) (z0 z1 z2 : Int) (ln tn : Nat) (g a : ByteArray) (r : Int) : Bool := zB n && (eqA z0 z1 z2 0 0 0 && (zL ln && (zL tn && (zB g && (zB a && zZ r)))))
end Rg
end Go.Proofs.YthbmnkeigmbbdaaGreat
