/-
  THE DOCUMENT's OWN EXAMPLE: gafferlaw08.lives.
-/
import Derived.Test.YthbmnkeigmbbdaaGreatBoLivD
import Derived.Deep.LoopGhost
namespace Go.Proofs.YthbmnkeigmbbdaaGreat
open Go.RowKit Go.Lib
namespace Bo
open Rw
set_option linter.unusedVariables false
end Bo
end Go.Proofs.YthbmnkeigmbbdaaGreat
