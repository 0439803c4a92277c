/-
  CHECKS, second part: the document's CheckTask.
-/
import Derived.Test.YthbmnkeigmbbdaaGreatRigCheck
namespace Go.Proofs.YthbmnkeigmbbdaaGreat
open Go.RowKit
namespace Rg
end Rg
end Go.Proofs.YthbmnkeigmbbdaaGreat
