/-
  CONTRACTS: the document's own TakeNumber.
-/
import Derived.Test.YtaipbaegbpebkaaGreatPackTakeNum
namespace Go.Proofs.YtaipbaegbpebkaaGreat
open Go.RowKit
namespace PackTakeRef
open PM PackBytes PackTakeNum
end PackTakeRef
end Go.Proofs.YtaipbaegbpebkaaGreat
