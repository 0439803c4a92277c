/-
  A TASK BOUND: book.bind.
-/
import Derived.Test.YthbmnkeigmbbdaaGreatBgB
import Derived.Test.YthbmnkeigmbbdaaGreatBgU
import Derived.BigQuiet
import Derived.Deep.RegionWith
import Derived.Deep.RegionHeld3
namespace Go.Proofs.YthbmnkeigmbbdaaGreat
open Go.RowKit Go.Lib
namespace Bo
open Rw
set_option linter.unusedVariables false
theorem below_drew {B : Nat} {w z : World} (h : Below B w z) : Below B w z.drew := ⟨h.os, h.tape, h.output, h.size, h.block⟩
end Bo
end Go.Proofs.YthbmnkeigmbbdaaGreat
