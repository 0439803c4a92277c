/-
  CONTRACT: the document's own Check.
-/
import Derived.Test.YtgahilemlnoabaaDisk
namespace Go.Proofs.Ytgahilemlnoabaa
open Go.RowKit
namespace Dk

end Dk
end Go.Proofs.Ytgahilemlnoabaa
