/-
  WHICH PAIRS ARE RIGHT, second part: the document's pairs.
-/
import Derived.Test.YthbmnkeigmbbdaaGreatRigPairs
namespace Go.Proofs.YthbmnkeigmbbdaaGreat
open Go.RowKit
namespace Rg
end Rg
end Go.Proofs.YthbmnkeigmbbdaaGreat
