/-
  Merged: BoAddN, BoAddT, BoDrpN, BoDrpT, BoFree.
-/
import Derived.Test.YthbmnkeigmbbdaaBgB
import Derived.Deep.RegionWith
import Derived.Deep.RegionHeld3
/-
  NODES: book.addNode.
-/
namespace Go.Proofs.Ythbmnkeigmbbdaa
open Go.RowKit Go.Lib
namespace Bo
open Rw
set_option linter.unusedVariables false
end Bo
end Go.Proofs.Ythbmnkeigmbbdaa

/-
  TASKS: book.addTask.
-/
namespace Go.Proofs.Ythbmnkeigmbbdaa
open Go.RowKit Go.Lib
namespace Bo
open Rw
set_option linter.unusedVariables false
end Bo
end Go.Proofs.Ythbmnkeigmbbdaa

/-
  A NODE GONE: book.dropNode.
-/
namespace Go.Proofs.Ythbmnkeigmbbdaa
open Go.RowKit Go.Lib
namespace Bo
open Rw
set_option linter.unusedVariables false

end Bo
end Go.Proofs.Ythbmnkeigmbbdaa

/-
  A TASK GONE: book.dropTask.
-/
namespace Go.Proofs.Ythbmnkeigmbbdaa
open Go.RowKit Go.Lib
namespace Bo
open Rw
set_option linter.unusedVariables false

end Bo
end Go.Proofs.Ythbmnkeigmbbdaa

/-
  A BIND GONE: book.free.
-/
namespace Go.Proofs.Ythbmnkeigmbbdaa
open Go.RowKit Go.Lib
namespace Bo
open Rw
set_option linter.unusedVariables false

end Bo
end Go.Proofs.Ythbmnkeigmbbdaa
