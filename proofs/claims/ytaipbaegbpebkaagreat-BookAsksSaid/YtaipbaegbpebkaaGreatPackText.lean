/-
  CONTRACTS: pack.Text, pack.TakeText and the document's own.
-/
import Derived.Test.YtaipbaegbpebkaaGreatPackTakeRef
import Derived.Test.YtaipbaegbpebkaaGreatPackRefNum
namespace Go.Proofs.YtaipbaegbpebkaaGreat
open Go.RowKit
namespace PackText
open PM PackBytes PackTakeNum PackTakeRef PackRefNum
end PackText
end Go.Proofs.YtaipbaegbpebkaaGreat
