/-
  AMOUNTS, second part: the document's amounts.
-/
import Derived.Test.YtgdnpjmicdiclaaRigUpto
namespace Go.Proofs.Ytgdnpjmicdiclaa
open Go.RowKit
namespace Rg
end Rg
end Go.Proofs.Ytgdnpjmicdiclaa
