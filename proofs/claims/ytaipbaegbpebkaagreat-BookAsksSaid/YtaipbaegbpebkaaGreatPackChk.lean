/-
  CONTRACTS: pack.check, the document's own check and four; the makers of frames.
-/
import Derived.Test.YtaipbaegbpebkaaGreatPackText
import Derived.Test.YtaipbaegbpebkaaGreatPackSum
namespace Go.Proofs.YtaipbaegbpebkaaGreat
open Go.RowKit
namespace PackChk
open PM PackBytes PackTakeNum PackTakeRef PackRefNum PackText
end PackChk
end Go.Proofs.YtaipbaegbpebkaaGreat
