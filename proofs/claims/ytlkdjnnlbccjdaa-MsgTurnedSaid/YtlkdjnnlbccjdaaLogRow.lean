/-
  WHICH LOGS ARE RIGHT: log.inRow, fall, Check.
-/
import Derived.Test.YtlkdjnnlbccjdaaLogChk
namespace Go.Proofs.Ytlkdjnnlbccjdaa
open Go.RowKit
namespace Lo
theorem wrap_nx (x : Nat) : IntKind.u64.wrap ((x : Int) + 1) = (nx x : Nat) := by rw [IntKind.wrap_u64]; unfold nx; omega
end Lo
end Go.Proofs.Ytlkdjnnlbccjdaa
