/-
  CONTRACTS: pack.Frame and the document's own.
-/
import Derived.Test.YtaipbaegbpebkaaGreatPackChk
namespace Go.Proofs.YtaipbaegbpebkaaGreat
open Go.RowKit
namespace PackFrame
open PM PackBytes PackTakeNum PackTakeRef PackRefNum PackText PackChk
end PackFrame
end Go.Proofs.YtaipbaegbpebkaaGreat
