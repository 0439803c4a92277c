/-
  WHICH PAIRS ARE RIGHT, second part: the document's pairs.
-/
import Derived.Test.YthbmnkeigmbbdaaRigPairs
namespace Go.Proofs.Ythbmnkeigmbbdaa
open Go.RowKit
namespace Rg
end Rg
end Go.Proofs.Ythbmnkeigmbbdaa
