/-
  CONTRACTS: pack.Sum and the document's own Sum hand back the check of any bytes; the world is as it was.
-/
import Derived.Test.YtaipbaegbpebkaaGreatRows
import Derived.Test.YtaipbaegbpebkaaGreatPackMath
import Derived.WalkKit
import Derived.WalkLawsBesides
import Derived.WalkSpells
import Derived.Lib.Hide
import Derived.Deep.LoopGhost
namespace Go.Proofs.YtaipbaegbpebkaaGreat
open Go.RowKit
namespace PackSum
open PM

theorem ref_in (c b : Nat) (hc : c < 65536) (hb : b < 256) : bits .xor .u32 (c : Int) ((b : Int) * 256) = ((c ^^^ b * 256 : Nat) : Int) := by
  have e : ((b : Int) * 256) = ((b * 256 : Nat) : Int) := by omega
  rw [e]; exact u32_xor_nat c (b * 256) (by omega) (by omega)
theorem ref_hi (d : Nat) (h : 32768 ≤ d) : crcBit d = (2 * d - 65536) ^^^ 4129 := by unfold crcBit; rw [if_pos h]
theorem ref_lo (d : Nat) (h : ¬ 32768 ≤ d) : crcBit d = 2 * d := by unfold crcBit; rw [if_neg h]

theorem own_in (c b : Nat) (hc : c < 65536) (hb : b < 256) : bits .xor .u16 (c : Int) ((b : Int) * 256) = ((c ^^^ b * 256 : Nat) : Int) := by
  have e : ((b : Int) * 256) = ((b * 256 : Nat) : Int) := by omega
  rw [e]; exact u16_xor_nat c (b * 256) (by omega) (by omega)
theorem and_top (c : Nat) (h : c < 65536) : c &&& 32768 = if 32768 ≤ c then 32768 else 0 := by
  have e : (32768 : Nat) = 2 ^ 15 := rfl
  apply Nat.eq_of_testBit_eq
  intro i
  rw [Nat.testBit_and, e, Nat.testBit_two_pow]
  by_cases g : 15 = i
  · subst g
    rw [Nat.testBit_eq_decide_div_mod_eq]
    by_cases g2 : 2 ^ 15 ≤ c
    · have : c / 2 ^ 15 % 2 = 1 := by omega
      rw [if_pos g2, Nat.testBit_two_pow]; simp [this]
    · have : c / 2 ^ 15 % 2 = 0 := by omega
      rw [if_neg g2]; simp [this]
  · split
    · rw [Nat.testBit_two_pow]; simp [g]
    · simp [g]
theorem own_top (c : Nat) (h : c < 65536) : bits .and .u16 (c : Int) 32768 = if 32768 ≤ c then 32768 else 0 := by
  have h1 := u16_and_nat c 32768 h (by omega)
  rw [show ((32768 : Nat) : Int) = 32768 from rfl] at h1
  rw [h1]
  have h2 : c &&& 32768 = if 32768 ≤ c then 32768 else 0 := and_top c h
  rw [h2]; split <;> rfl

end PackSum
end Go.Proofs.YtaipbaegbpebkaaGreat
