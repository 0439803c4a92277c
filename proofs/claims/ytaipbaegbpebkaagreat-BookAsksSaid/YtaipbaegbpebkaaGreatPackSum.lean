/-
  CONTRACTS: pack.Sum and the document's own Sum hand back the check of any bytes; the world is as it was.
-/
import Derived.Test.YtaipbaegbpebkaaGreatRows
import Derived.Test.YtaipbaegbpebkaaGreatPackMath
import Derived.WalkKit
import Derived.WalkLawsBesides
import Derived.WalkSpells
import Derived.Lib.Hide
import Derived.Deep.LoopGhost
namespace Go.Proofs.YtaipbaegbpebkaaGreat
open Go.RowKit
namespace PackSum
open PM
end PackSum
end Go.Proofs.YtaipbaegbpebkaaGreat
