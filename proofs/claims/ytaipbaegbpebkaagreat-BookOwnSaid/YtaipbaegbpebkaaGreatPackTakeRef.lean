/-
  CONTRACTS: the document's own TakeNumber.
-/
import Derived.Test.YtaipbaegbpebkaaGreatPackTakeNum
namespace Go.Proofs.YtaipbaegbpebkaaGreat
open Go.RowKit
namespace PackTakeRef
open PM PackBytes PackTakeNum

theorem toList_data (s : ByteArray) : s.toList = s.data.toList := ByteArray.toList_eq s
theorem val_next (s : ByteArray) (j : Nat) (h : j + 1 < s.size) : val ((s.data.toList.drop 1).take (j + 1)) = 256 * val ((s.data.toList.drop 1).take j) + s[j + 1].toNat := by
  have e : (s.data.toList.drop 1).take (j + 1) = (s.data.toList.drop 1).take j ++ [s[j + 1]] := by
    rw [List.take_succ_eq_append_getElem (by rw [rest_length]; omega)]
    congr 2
    rw [List.getElem_drop]
    simp only [Nat.add_comm 1 j]
    rfl
  rw [e, val_snoc]; omega
theorem val_take_lt (l : List UInt8) (j : Nat) : val (l.take j) < 256 ^ j := by
  have h := val_lt (l.take j)
  have h2 : (l.take j).length ≤ j := List.length_take_le _ _
  exact Nat.lt_of_lt_of_le h (Nat.pow_le_pow_right (by omega) h2)

theorem nz_no (s : ByteArray) (h : 1 < s.size) (hz : s[1].toNat = 0) (h3 : ((s[1].toNat : Int) == 0) = false) : False := by simp [hz] at h3
theorem fz_no (s : ByteArray) (hf : Fine s) (hp : 0 < s.size) (h1 : 0 < s[0].toNat) (h : 1 < s.size) (h3 : ((s[1].toNat : Int) == 0) = true) : False :=
  hf hp h1 h (by simpa using h3)
theorem took_ref (s : ByteArray) (hp : 0 < s.size) (h : tnW s.data.toList = 0) (k : Nat) (hk : k = s[0].toNat) :
    Took s.data.toList (.returned (.tuple #[.int .u64 (val ((s.data.toList.drop 1).take k) : Nat), .string (s.extract (k + 1) s.size), .int .i64 0])) := by
  subst hk
  have e1 : tnN s.data.toList = val ((s.data.toList.drop 1).take s[0].toNat) := by
    unfold tnN; rw [if_pos h, tnK_of s hp]
  have e2 : bs (tnR s.data.toList) = s.extract (s[0].toNat + 1) s.size := by
    unfold tnR
    rw [if_pos h, tnK_of s hp, extract_end, Nat.add_comm]
  unfold Took
  rw [e1, e2, h]
  rfl

end PackTakeRef
end Go.Proofs.YtaipbaegbpebkaaGreat
