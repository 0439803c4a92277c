/-
  CONTRACTS: the document's own TakeNumber.
-/
import Derived.Test.YtlkdjnnlbccjdaaPackTakeNum
namespace Go.Proofs.Ytlkdjnnlbccjdaa
open Go.RowKit
namespace PackTakeRef
open PM PackBytes PackTakeNum

theorem toList_data (s : ByteArray) : s.toList = s.data.toList := ByteArray.toList_eq s
theorem val_next (s : ByteArray) (j : Nat) (h : j + 1 < s.size) : val ((s.data.toList.drop 1).take (j + 1)) = 256 * val ((s.data.toList.drop 1).take j) + s[j + 1].toNat := by
  have e : (s.data.toList.drop 1).take (j + 1) = (s.data.toList.drop 1).take j ++ [s[j + 1]] := by
    rw [List.take_succ_eq_append_getElem (by rw [rest_length]; omega)]
    congr 2
    rw [List.getElem_drop]
    simp only [Nat.add_comm 1 j]
    rfl
  rw [e, val_snoc]; omega
theorem val_take_lt (l : List UInt8) (j : Nat) : val (l.take j) < 256 ^ j := by
  have h := val_lt (l.take j)
  have h2 : (l.take j).length ≤ j := List.length_take_le _ _
  exact Nat.lt_of_lt_of_le h (Nat.pow_le_pow_right (by omega) h2)

theorem nz_no (s : ByteArray) (h : 1 < s.size) (hz : s[1].toNat = 0) (h3 : ((s[1].toNat : Int) == 0) = false) : False := by simp [hz] at h3
theorem fz_no (s : ByteArray) (hf : Fine s) (hp : 0 < s.size) (h1 : 0 < s[0].toNat) (h : 1 < s.size) (h3 : ((s[1].toNat : Int) == 0) = true) : False :=
  hf hp h1 h (by simpa using h3)
theorem took_ref (s : ByteArray) (hp : 0 < s.size) (h : tnW s.data.toList = 0) (k : Nat) (hk : k = s[0].toNat) :
    Took s.data.toList (.returned (.tuple #[.int .u64 (val ((s.data.toList.drop 1).take k) : Nat), .string (s.extract (k + 1) s.size), .int .i64 0])) := by
  subst hk
  have e1 : tnN s.data.toList = val ((s.data.toList.drop 1).take s[0].toNat) := by
    unfold tnN; rw [if_pos h, tnK_of s hp]
  have e2 : bs (tnR s.data.toList) = s.extract (s[0].toNat + 1) s.size := by
    unfold tnR
    rw [if_pos h, tnK_of s hp, extract_end, Nat.add_comm]
  unfold Took
  rw [e1, e2, h]
  rfl

set_option maxRecDepth 100000 in
set_option maxHeartbeats 1000000 in
theorem take_ref (s : ByteArray) (w : World) (hs : s.size ≤ maxLen) :
    Calls Try.prog 60 #[.string s] w fun e w' => Took s.data.toList e ∧ Below w.heap.size w w' := by
  unfold maxLen at hs
  by_cases h0 : s.size = 0
  · have HW : Hid (tnW s.data.toList = 3) := by
      have e : s.data.toList = [] := List.eq_nil_of_length_eq_zero h0
      show _ = _
      rw [e]; rfl
    have t0 : s.toList.isEmpty = true := by
      have e : s.data.toList = [] := List.eq_nil_of_length_eq_zero h0
      rw [toList_data, e]; rfl
    go_enter Try.func60, Try.ntmps60
    go_wp2
    go_ret3
    exact ⟨took_bad _ 3 HW.out (by omega), Below.refl _ _⟩
  · have t0 : s.toList.isEmpty = false := by
      rw [toList_data]
      cases h : s.data.toList with
      | nil => have : s.data.toList.length = 0 := by rw [h]; rfl
               exact absurd this h0
      | cons a b => rfl
    have hp : 0 < s.size := by omega
    have hb := s[0].toNat_lt
    clear h0
    by_cases h8 : 8 < s[0].toNat
    · have HW := Lib.hid (tn_a s hp h8)
      have t1 : (8 : Int) < (s[0].toNat : Int) := by omega
      go_enter Try.func60, Try.ntmps60
      go_wp2
      go_ret3
      exact ⟨took_bad _ 4 HW.out (by omega), Below.refl _ _⟩
    · have t1 : decide ((8 : Int) < (s[0].toNat : Int)) = false := by simp; omega
      by_cases hf : Fine s
      · by_cases h2 : s.size - 1 < s[0].toNat
        · have HW := Lib.hid (tn_c s hp (by omega) hf h2)
          have HF := Lib.hid hf
          clear hf
          go_enter Try.func60, Try.ntmps60
          go_wp2
          all_goals first
            | (go_ret3; exact ⟨took_bad _ 3 HW.out (by omega), Below.refl _ _⟩)
            | (exfalso; refine fz_no s HF.out hp ?_ ?_ ?_ <;> first | assumption | omega)
        · have HW := Lib.hid (tn_d s hp (by omega) hf h2)
          have HF := Lib.hid hf
          have h7 : s[0].toNat ≤ 8 := by omega
          have t4 : decide ((s.size : Int) < (s[0].toNat : Int) + 1) = false := by simp; omega
          have hN : s[0].toNat = 0 ∨ (0 < s[0].toNat ∧ ∃ h : 1 < s.size, ((s[1].toNat : Int) == 0) = false) := by
            rcases Nat.eq_zero_or_pos s[0].toNat with e | e
            · exact .inl e
            · exact .inr ⟨e, by omega, by have := hf hp e (by omega); simp; omega⟩
          clear hf h8
          obtain ⟨k, hk⟩ : ∃ k, k = s[0].toNat := ⟨_, rfl⟩
          have HK := Lib.hid hk
          have hkk : (s[0].toNat : Int) ≤ 8 := by omega
          rcases hN with hN | ⟨hN, hN2, hN3⟩
          · have HN := Lib.hid hN
            have t3 : decide ((0 : Int) < (s[0].toNat : Int)) = false := by simp; omega
            have t5 : decide (0 < s[0].toNat) = false := by simp; omega
            clear hN hk
            go_enter Try.func60, Try.ntmps60
            go_wp2
            go_loopg [6, 7] k (fun g n i wx => wx = w ∧ ∃ (j v : Nat), j + g = k ∧ i = .int .i64 ((j : Int) + 1) ∧ n = .int .u64 (v : Nat) ∧ v < 256 ^ j ∧ Aside (v = val ((s.data.toList.drop 1).take j)))
            case atStart => exact ⟨rfl, 0, 0, by omega, rfl, rfl, by omega, rfl⟩
            case round =>
              obtain ⟨rfl, j, v, hjg, rfl, rfl, hv, HV⟩ := hrel
              have hkn := HK.out
              cases gk with
              | zero =>
                have u1 : (s[0].toNat : Int) ≤ (j : Int) := by omega
                have u3 : (j : Int) ≤ (s[0].toNat : Int) := by omega
                have HJ := Lib.hid (show j = k by omega)
                have u2 : (s[0].toNat : Int) + 1 ≤ (s.size : Int) := by omega
                clear hjg hv hkn
                go_wp2
                go_quiet (fail)
                go_wp2
                go_ret3
                refine ⟨?_, PackTakeNum.below_drewN _ _⟩
                have e := took_ref s hp HW.out k HK.out
                rw [show val (List.take k (List.drop 1 s.data.toList)) = v from by rw [HV.out, HJ.out], HK.out] at e
                exact e
              | succ g =>
                have u1 : (j : Int) + 1 ≤ (s[0].toNat : Int) := by omega
                have HG := Lib.hid hjg
                have hj7 : j ≤ 7 := by omega
                have hjs : j + 1 < s.size := by omega
                have hb2 := s[j + 1].toNat_lt
                have hv7 : v < 72057594037927936 := by
                  have : 256 ^ j ≤ 256 ^ 7 := Nat.pow_le_pow_right (by omega) (by omega)
                  omega
                have HV2 := Lib.hid hv
                clear hjg hkn hv
                go_wp2
                go_roundg g
                case measure => omega
                case rel =>
                  refine ⟨rfl, j + 1, 256 * v + s[j + 1].toNat, by have := HG.out; omega, by go_num, by go_num, ?_, ?_⟩
                  · have := HV2.out
                    rw [Nat.pow_succ]; omega
                  · show _ = _
                    rw [val_next s j hjs, ← HV.out]
          · have t3 : (0 : Int) < (s[0].toNat : Int) := by omega
            clear hk
            go_enter Try.func60, Try.ntmps60
            go_wp2
            go_loopg [6, 7] k (fun g n i wx => wx = w ∧ ∃ (j v : Nat), j + g = k ∧ i = .int .i64 ((j : Int) + 1) ∧ n = .int .u64 (v : Nat) ∧ v < 256 ^ j ∧ Aside (v = val ((s.data.toList.drop 1).take j)))
            case atStart => exact ⟨rfl, 0, 0, by omega, rfl, rfl, by omega, rfl⟩
            case round =>
              obtain ⟨rfl, j, v, hjg, rfl, rfl, hv, HV⟩ := hrel
              have hkn := HK.out
              cases gk with
              | zero =>
                have u1 : (s[0].toNat : Int) ≤ (j : Int) := by omega
                have u3 : (j : Int) ≤ (s[0].toNat : Int) := by omega
                have HJ := Lib.hid (show j = k by omega)
                have u2 : (s[0].toNat : Int) + 1 ≤ (s.size : Int) := by omega
                clear hjg hv hkn
                go_wp2
                go_quiet (fail)
                go_wp2
                go_ret3
                refine ⟨?_, PackTakeNum.below_drewN _ _⟩
                have e := took_ref s hp HW.out k HK.out
                rw [show val (List.take k (List.drop 1 s.data.toList)) = v from by rw [HV.out, HJ.out], HK.out] at e
                exact e
              | succ g =>
                have u1 : (j : Int) + 1 ≤ (s[0].toNat : Int) := by omega
                have HG := Lib.hid hjg
                have hj7 : j ≤ 7 := by omega
                have hjs : j + 1 < s.size := by omega
                have hb2 := s[j + 1].toNat_lt
                have hv7 : v < 72057594037927936 := by
                  have : 256 ^ j ≤ 256 ^ 7 := Nat.pow_le_pow_right (by omega) (by omega)
                  omega
                have HV2 := Lib.hid hv
                clear hjg hkn hv
                go_wp2
                go_roundg g
                case measure => omega
                case rel =>
                  refine ⟨rfl, j + 1, 256 * v + s[j + 1].toNat, by have := HG.out; omega, by go_num, by go_num, ?_, ?_⟩
                  · have := HV2.out
                    rw [Nat.pow_succ]; omega
                  · show _ = _
                    rw [val_next s j hjs, ← HV.out]
      · obtain ⟨_, h1, h2, hz⟩ := not_fine s hf
        have HW := Lib.hid (tn_b s hp (by omega) h1 h2 hz)
        have HZ := Lib.hid hz
        clear hz hf
        go_enter Try.func60, Try.ntmps60
        go_wp2
        all_goals first
          | (go_ret3; exact ⟨took_bad _ 4 HW.out (by omega), Below.refl _ _⟩)
          | (exfalso; refine nz_no s h2 HZ.out ?_; assumption)
end PackTakeRef
end Go.Proofs.Ytlkdjnnlbccjdaa
