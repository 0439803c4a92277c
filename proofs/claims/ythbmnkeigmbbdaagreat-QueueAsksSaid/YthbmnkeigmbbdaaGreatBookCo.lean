/-
  book.CheckOrder: whether an order has no others than its kind's.
-/
import Derived.Test.YthbmnkeigmbbdaaGreatBookZero
import Derived.Test.YthbmnkeigmbbdaaGreatOrA
namespace Go.Proofs.YthbmnkeigmbbdaaGreat
open Go.RowKit
namespace Hd
open PM Hc Rg
def zF (n : Nat) : Bool := decide (n = 0)
end Hd
end Go.Proofs.YthbmnkeigmbbdaaGreat
