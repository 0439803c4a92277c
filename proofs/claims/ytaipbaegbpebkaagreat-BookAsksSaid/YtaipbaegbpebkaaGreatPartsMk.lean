/-
  A MAKER OF PARTS: parts.Maker's Number, Text, Bytes.
-/
import Derived.Test.YtaipbaegbpebkaaGreatPackText
import Derived.Laws.Externs
import Derived.Lib.OthersKept
import Derived.Lib.Builder
import Derived.Lib.AppendStr
import Derived.Lib.UnsafeStr
import Derived.Deep.RegionWith
import Derived.Deep.LoopGhost
namespace Go.Proofs.YtaipbaegbpebkaaGreat
open Go.RowKit
namespace Hd
open PM
end Hd
end Go.Proofs.YtaipbaegbpebkaaGreat
