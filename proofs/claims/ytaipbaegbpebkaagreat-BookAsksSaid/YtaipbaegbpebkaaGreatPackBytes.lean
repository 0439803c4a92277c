/-
  CONTRACTS: math/bits.Len64, pack.spread, pack.gather.
-/
import Derived.Test.YtaipbaegbpebkaaGreatRows
import Derived.Test.YtaipbaegbpebkaaGreatPackNum
import Derived.Test.YtaipbaegbpebkaaGreatPackMath
import Derived.WalkKit
import Derived.WalkLawsBesides
import Derived.WalkSpells
import Derived.Lib.Hide
import Derived.Deep.LoopGhost
import Derived.Deep.OwnRows
import Derived.Deep.RegionWith
namespace Go.Proofs.YtaipbaegbpebkaaGreat
open Go.RowKit
namespace PackBytes
open PM
end PackBytes
end Go.Proofs.YtaipbaegbpebkaaGreat
