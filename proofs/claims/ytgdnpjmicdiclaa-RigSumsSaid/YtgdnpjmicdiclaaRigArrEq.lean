/-
  Two arrays of three numbers, held against each other.
-/
import Derived.Test.YtgdnpjmicdiclaaRigUpto
import Derived.Laws.StructEq
namespace Go.Proofs.Ytgdnpjmicdiclaa
open Go.RowKit
namespace Rg
def eqA (a0 a1 a2 b0 b1 b2 : Int) : Bool := (a0 == b0) && ((a1 == b1) && (a2 == b2))
set_option maxRecDepth 100000 in
theorem eql_arr (a0 a1 a2 b0 b1 b2 : Int) (w : World) : (binOp .eql 23 (.agg #[.int .i64 a0, .int .i64 a1, .int .i64 a2]) (.agg #[.int .i64 b0, .int .i64 b1, .int .i64 b2])).run Try.prog w = .ok (.bool (eqA a0 a1 a2 b0 b1 b2)) w := by
  have u2 := Try.underlying2
  have a2' := Try.isAgg2
  have z2 := Try.sizeOf2
  have hT := Try.underlying23
  rw [run_eql_struct, show (10000 : Nat) = 9999 + 1 from rfl]
  unfold Op.equalIn
  simp only [Sem.run_bind, run_underlying hT, Result.andThen_ok, z2]
  simp [List.range', go_sem]
  by_cases h0 : a0 = b0 <;> by_cases h1 : a1 = b1 <;> by_cases h2 : a2 = b2 <;> simp [h0, h1, h2, eqA]
theorem guard_arr : Try.prog.eqGuardType Try.prog.depth 23 = false := by kernel_rfl
end Rg
end Go.Proofs.Ytgdnpjmicdiclaa
