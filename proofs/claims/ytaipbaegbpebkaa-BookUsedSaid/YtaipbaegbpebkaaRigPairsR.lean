/-
  WHICH PAIRS ARE RIGHT, second part: the document's pairs.
-/
import Derived.Test.YtaipbaegbpebkaaRigPairs
namespace Go.Proofs.Ytaipbaegbpebkaa
open Go.RowKit
namespace Rg
end Rg
end Go.Proofs.Ytaipbaegbpebkaa
