/-
  CONTRACTS: pack.TakeNumber and the document's own.
-/
import Derived.Test.YtaipbaegbpebkaaGreatPackBytes
import Derived.Test.YtaipbaegbpebkaaGreatPackTakeMath
import Derived.Deep.QuietTactic
import Derived.BigQuiet
namespace Go.Proofs.YtaipbaegbpebkaaGreat
open Go.RowKit
namespace PackTakeNum
open PM PackBytes

/-- What a call that takes a number leaves. -/
def Took (l : List UInt8) (e : Ending) : Prop := e = .returned (.tuple #[.int .u64 (tnN l : Nat), .string (bs (tnR l)), .int .i64 (tnW l : Nat)])

theorem took_bad (l : List UInt8) (k : Nat) (h : tnW l = k) (h0 : k ≠ 0) : Took l (.returned (.tuple #[.int .u64 0, .string ⟨#[]⟩, .int .i64 k])) := by
  have e1 : tnN l = 0 := by unfold tnN; rw [if_neg (by omega)]
  have e2 : tnR l = [] := by unfold tnR; rw [if_neg (by omega)]
  unfold Took
  rw [e1, e2, h]
  rfl

def valB (s : ByteArray) : Nat := val s.data.toList
theorem took_good (s : ByteArray) (hp : 0 < s.size) (h : tnW s.data.toList = 0) :
    Took s.data.toList (.returned (.tuple #[.int .u64 (valB ((s.extract 1 s.size).extract 0 s[0].toNat) : Nat), .string ((s.extract 1 s.size).extract s[0].toNat (s.size - 1)), .int .i64 0])) := by
  have e1 : tnN s.data.toList = valB ((s.extract 1 s.size).extract 0 s[0].toNat) := by
    unfold tnN valB
    rw [if_pos h, extract_bs, bs_data, extract_end, bs_data, tnK_of s hp]
    rfl
  have e2 : bs (tnR s.data.toList) = (s.extract 1 s.size).extract s[0].toNat (s.size - 1) := by
    unfold tnR
    rw [if_pos h, tnK_of s hp, extract_bs, extract_end, bs_data, List.drop_drop]
    congr 1
    rw [List.take_of_length_le]
    rw [List.length_drop, size_length]; omega
  unfold Took
  rw [e1, e2, h]
  rfl

theorem below_drewN (w : World) (n : Nat) : Below w.heap.size w (w.drewN n) := ⟨rfl, rfl, rfl, Nat.le_refl _, fun _ _ => rfl⟩

end PackTakeNum
end Go.Proofs.YtaipbaegbpebkaaGreat
