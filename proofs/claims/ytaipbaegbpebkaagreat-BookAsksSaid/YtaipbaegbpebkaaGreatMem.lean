/-
  MEMORY: an append of a row that the call owns, nil or not, to a row that it owns; a slice literal of one cell.
-/
import Derived.WalkKit
import Derived.Laws.AppendOwnNone
namespace Go.Proofs.YtaipbaegbpebkaaGreat
open Go.RowKit
namespace Mem
section
variable {P : Program} {w : World}
end
end Mem
end Go.Proofs.YtaipbaegbpebkaaGreat
