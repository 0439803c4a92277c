/-
  CONTRACT: the document's own Check.
-/
import Derived.Test.YtjgdmdgiicpemaaDisk
namespace Go.Proofs.Ytjgdmdgiicpemaa
open Go.RowKit
namespace Dk

end Dk
end Go.Proofs.Ytjgdmdgiicpemaa
