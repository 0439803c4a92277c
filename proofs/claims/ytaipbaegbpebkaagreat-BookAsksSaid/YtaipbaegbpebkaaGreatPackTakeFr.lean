/-
  CONTRACTS: pack.TakeFrame and the document's own.
-/
import Derived.Test.YtaipbaegbpebkaaGreatPackFrame
import Derived.Deep.DeepCutAuto
namespace Go.Proofs.YtaipbaegbpebkaaGreat
open Go.RowKit
namespace PackTakeFr
open PM PackBytes PackTakeNum PackTakeRef PackRefNum PackText PackChk PackFrame
end PackTakeFr
end Go.Proofs.YtaipbaegbpebkaaGreat
