/-
  CONTRACTS: pack.TakeNumber and the document's own.
-/
import Derived.Test.YtaipbaegbpebkaaGreatPackBytes
import Derived.Test.YtaipbaegbpebkaaGreatPackTakeMath
import Derived.Deep.QuietTactic
import Derived.BigQuiet
namespace Go.Proofs.YtaipbaegbpebkaaGreat
open Go.RowKit
namespace PackTakeNum
open PM PackBytes
end PackTakeNum
end Go.Proofs.YtaipbaegbpebkaaGreat
