/-
  CONTRACTS: the document's own Number hands back the number's bytes.
-/
import Derived.Test.YtaipbaegbpebkaaGreatPackBytes
import Derived.Test.YtaipbaegbpebkaaGreatMem
namespace Go.Proofs.YtaipbaegbpebkaaGreat
open Go.RowKit
namespace PackRefNum
open PM PackBytes
end PackRefNum
end Go.Proofs.YtaipbaegbpebkaaGreat
