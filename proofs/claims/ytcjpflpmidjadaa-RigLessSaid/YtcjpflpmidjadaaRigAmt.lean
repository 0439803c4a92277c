/-
  AMOUNTS, second part: the document's amounts.
-/
import Derived.Test.YtcjpflpmidjadaaRigUpto
namespace Go.Proofs.Ytcjpflpmidjadaa
open Go.RowKit
namespace Rg
end Rg
end Go.Proofs.Ytcjpflpmidjadaa
