/-
  Merged: OrdAmt, OrdPair, OrdPrs, OrdNode, OrdTask, OrdFld, OrdCmk.
-/
import Derived.Test.YtaipbaegbpebkaaGreatOrdTold
import Derived.Test.YtaipbaegbpebkaaGreatRgA
import Derived.Shelf.Abstract
import Derived.Test.YtaipbaegbpebkaaGreatOrA
/-
  AMOUNTS and pairs, as bytes.
-/
namespace Go.Proofs.YtaipbaegbpebkaaGreat
open Go.RowKit
namespace Hd
open PM
end Hd
end Go.Proofs.YtaipbaegbpebkaaGreat
/-
  PAIRS, as bytes.
-/
namespace Go.Proofs.YtaipbaegbpebkaaGreat
open Go.RowKit
namespace Hd
open PM
end Hd
end Go.Proofs.YtaipbaegbpebkaaGreat
/-
  PAIRS made as bytes, whole.
-/
namespace Go.Proofs.YtaipbaegbpebkaaGreat
open Go.RowKit
namespace Hd
open PM
end Hd
end Go.Proofs.YtaipbaegbpebkaaGreat
/-
  A NODE, as bytes.
-/
namespace Go.Proofs.YtaipbaegbpebkaaGreat
open Go.RowKit
namespace Hd
open PM
end Hd
end Go.Proofs.YtaipbaegbpebkaaGreat
/-
  A TASK, as bytes.
-/
namespace Go.Proofs.YtaipbaegbpebkaaGreat
open Go.RowKit
namespace Hd
open PM
end Hd
end Go.Proofs.YtaipbaegbpebkaaGreat
/-
  WHAT AN ORDER's KIND HAS, as bytes.
-/
namespace Go.Proofs.YtaipbaegbpebkaaGreat
open Go.RowKit
namespace Hd
open PM
end Hd
end Go.Proofs.YtaipbaegbpebkaaGreat
/-
  A COMMAND made.
-/
namespace Go.Proofs.YtaipbaegbpebkaaGreat
open Go.RowKit
namespace Hd
open PM Hc
end Hd
end Go.Proofs.YtaipbaegbpebkaaGreat
