/-
  CONTRACTS: pack.Sum and the document's own Sum hand back the check of any bytes; the world is as it was.
-/
import Derived.Test.YtjgdmdgiicpemaaRows
import Derived.Test.YtjgdmdgiicpemaaPackMath
import Derived.WalkKit
import Derived.WalkLawsBesides
import Derived.WalkSpells
import Derived.Lib.Hide
import Derived.Deep.LoopGhost
namespace Go.Proofs.Ytjgdmdgiicpemaa
open Go.RowKit
namespace PackSum
open PM

theorem ref_in (c b : Nat) (hc : c < 65536) (hb : b < 256) : bits .xor .u32 (c : Int) ((b : Int) * 256) = ((c ^^^ b * 256 : Nat) : Int) := by
  have e : ((b : Int) * 256) = ((b * 256 : Nat) : Int) := by omega
  rw [e]; exact u32_xor_nat c (b * 256) (by omega) (by omega)
theorem ref_hi (d : Nat) (h : 32768 ≤ d) : crcBit d = (2 * d - 65536) ^^^ 4129 := by unfold crcBit; rw [if_pos h]
theorem ref_lo (d : Nat) (h : ¬ 32768 ≤ d) : crcBit d = 2 * d := by unfold crcBit; rw [if_neg h]

theorem own_in (c b : Nat) (hc : c < 65536) (hb : b < 256) : bits .xor .u16 (c : Int) ((b : Int) * 256) = ((c ^^^ b * 256 : Nat) : Int) := by
  have e : ((b : Int) * 256) = ((b * 256 : Nat) : Int) := by omega
  rw [e]; exact u16_xor_nat c (b * 256) (by omega) (by omega)
theorem and_top (c : Nat) (h : c < 65536) : c &&& 32768 = if 32768 ≤ c then 32768 else 0 := by
  have e : (32768 : Nat) = 2 ^ 15 := rfl
  apply Nat.eq_of_testBit_eq
  intro i
  rw [Nat.testBit_and, e, Nat.testBit_two_pow]
  by_cases g : 15 = i
  · subst g
    rw [Nat.testBit_eq_decide_div_mod_eq]
    by_cases g2 : 2 ^ 15 ≤ c
    · have : c / 2 ^ 15 % 2 = 1 := by omega
      rw [if_pos g2, Nat.testBit_two_pow]; simp [this]
    · have : c / 2 ^ 15 % 2 = 0 := by omega
      rw [if_neg g2]; simp [this]
  · split
    · rw [Nat.testBit_two_pow]; simp [g]
    · simp [g]
theorem own_top (c : Nat) (h : c < 65536) : bits .and .u16 (c : Int) 32768 = if 32768 ≤ c then 32768 else 0 := by
  have h1 := u16_and_nat c 32768 h (by omega)
  rw [show ((32768 : Nat) : Int) = 32768 from rfl] at h1
  rw [h1]
  have h2 : c &&& 32768 = if 32768 ≤ c then 32768 else 0 := and_top c h
  rw [h2]; split <;> rfl

set_option maxRecDepth 100000 in
set_option maxHeartbeats 400000 in
theorem sum_own (s : ByteArray) (w : World) (hs : s.size ≤ maxLen) :
    Calls Try.prog 11 #[.string s] w fun e w' => e = .returned (.int .u16 (crc s.data.toList : Nat)) ∧ w = w' := by
  unfold maxLen at hs
  go_enter Try.func11, Try.ntmps11
  go_wp2
  go_step3
  go_wp2
  go_step3
  go_wp2
  go_loopg [3, 8] s.size (fun g c i wx => wx = w ∧ ∃ (k d : Nat), k + g = s.size ∧ i = .int .i64 k ∧ c = .int .u16 (d : Nat) ∧ d < 65536 ∧ Aside (d = crc (s.data.toList.take k)))
  case atStart => exact ⟨rfl, 0, 65535, by omega, rfl, rfl, by omega, rfl⟩
  case round =>
    obtain ⟨rfl, k, d, hkg, rfl, rfl, hd, HA⟩ := hrel
    cases gk with
    | zero =>
      have hlk : s.size ≤ k := by omega
      have hlk2 : k ≤ s.size := by omega
      clear hkg
      go_wp2
      rw [Exit.noGoto_ret]
      go_ret
      have e := HA.out
      rw [take_all s k hlk] at e
      subst e
      exact ⟨rfl, rfl⟩
    | succ g =>
      have hlk : k < s.size := by omega
      have HG := Lib.hid hkg
      clear hkg
      have hb := s[k].toNat_lt
      have HS := HA.out
      have HT : Aside (crcBits 8 (d ^^^ s[k].toNat * 256) = crc (s.data.toList.take (k + 1))) := by
        show _ = _
        rw [take_snoc s k hlk, crc_snoc, ← HS]; rfl
      clear HS
      have HI := Lib.hid (own_in d s[k].toNat hd hb)
      have hx := xor_lt d (s[k].toNat * 256) hd (by omega)
      go_wp2
      rw [HI.out]
      clear HI hb
      generalize d ^^^ (s[k].toNat * 256) = c0 at *
      go_loopg [3, 18] 8 (fun g2 c i wy => wy = wr ∧ ∃ j c1 : Nat, j + g2 = 8 ∧ i = .int .i64 j ∧ c = .int .u16 (c1 : Nat) ∧ c1 < 65536 ∧ Aside (c1 = crcBits j c0))
      case atStart => exact ⟨rfl, 0, c0, by omega, rfl, rfl, hx, rfl⟩
      case round =>
        obtain ⟨rfl, j, c1, hjg, rfl, rfl, h1, HJ⟩ := hrel
        cases gk with
        | zero =>
          have t1 : (8 : Int) ≤ j := by omega
          obtain rfl : j = 8 := by omega
          clear hjg
          go_wp2
          go_roundg g
          case measure => omega
          case rel => exact ⟨rfl, k + 1, c1, by have := HG.out; omega, by go_num, rfl, h1, by show _ = _; rw [← HT.out]; exact HJ.out⟩
        | succ g2 =>
          have t1 : (j : Int) < 8 := by omega
          have HG2 := Lib.hid hjg
          have HJ8 := Lib.hid (show j ≤ 8 from by omega)
          clear hjg
          by_cases h0 : c1 = 0
          · subst h0
            go_wp2
            go_roundg g
            case measure => omega
            case rel => exact ⟨rfl, k + 1, 0, by have := HG.out; omega, by go_num, rfl, by omega, by show _ = _; rw [← HT.out]; exact (crcBits_zero_from j 8 c0 HJ.out.symm HJ8.out).symm⟩
          · have t0 : ((c1 : Int) == 0) = false := by simp; omega
            clear h0
            by_cases h3 : 32768 ≤ c1
            · have t2 : bits BinOp.and IntKind.u16 (c1 : Int) 32768 = 32768 := by rw [own_top c1 h1, if_pos h3]
              have HX := Lib.hid (u16_xor_nat (2 * c1 - 65536) 4129 (by omega) (by omega))
              go_wp2
              go_roundg g2
              case measure => omega
              case rel =>
                refine ⟨rfl, j + 1, (2 * c1 - 65536) ^^^ 4129, by have := HG2.out; omega, by go_num, ?_, xor_lt _ _ (by omega) (by omega), by show _ = crcBit _; rw [← HJ.out, ref_hi _ h3]⟩
                rw [← HX.out, show ((2 * c1 - 65536 : Nat) : Int) = (c1 : Int) * 2 % 65536 from by omega]
                rfl
            · have t2 : bits BinOp.and IntKind.u16 (c1 : Int) 32768 = 0 := by rw [own_top c1 h1, if_neg h3]
              go_wp2
              go_roundg g2
              case measure => omega
              case rel => exact ⟨rfl, j + 1, c1 * 2, by have := HG2.out; omega, by go_num, by go_num, by omega, by show _ = crcBit _; rw [← HJ.out, ref_lo _ h3]; omega⟩
end PackSum
end Go.Proofs.Ytjgdmdgiicpemaa
