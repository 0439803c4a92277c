/-
  WHAT IS TOLD, as bytes: made and taken by cluster and order.
-/
import Derived.Test.YtaipbaegbpebkaaGreatPartsMk
import Derived.Test.YtaipbaegbpebkaaGreatHardPart
namespace Go.Proofs.YtaipbaegbpebkaaGreat
open Go.RowKit
namespace Hd
open PM
end Hd
end Go.Proofs.YtaipbaegbpebkaaGreat
