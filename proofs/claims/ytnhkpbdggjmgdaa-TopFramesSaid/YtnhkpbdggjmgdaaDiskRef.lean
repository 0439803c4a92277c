/-
  CONTRACT: the document's own Check.
-/
import Derived.Test.YtnhkpbdggjmgdaaDisk
namespace Go.Proofs.Ytnhkpbdggjmgdaa
open Go.RowKit
namespace Dk

end Dk
end Go.Proofs.Ytnhkpbdggjmgdaa
