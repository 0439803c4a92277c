/-
  CONTRACTS: pack.TakeNumber and the document's own.
-/
import Derived.Test.YtjgdmdgiicpemaaPackBytes
import Derived.Test.YtjgdmdgiicpemaaPackTakeMath
import Derived.Deep.QuietTactic
import Derived.BigQuiet
namespace Go.Proofs.Ytjgdmdgiicpemaa
open Go.RowKit
namespace PackTakeNum
open PM PackBytes

/-- What a call that takes a number leaves. -/
def Took (l : List UInt8) (e : Ending) : Prop := e = .returned (.tuple #[.int .u64 (tnN l : Nat), .string (bs (tnR l)), .int .i64 (tnW l : Nat)])

theorem took_bad (l : List UInt8) (k : Nat) (h : tnW l = k) (h0 : k ≠ 0) : Took l (.returned (.tuple #[.int .u64 0, .string ⟨#[]⟩, .int .i64 k])) := by
  have e1 : tnN l = 0 := by unfold tnN; rw [if_neg (by omega)]
  have e2 : tnR l = [] := by unfold tnR; rw [if_neg (by omega)]
  unfold Took
  rw [e1, e2, h]
  rfl

def valB (s : ByteArray) : Nat := val s.data.toList
theorem gatherB (s : ByteArray) (w : World) (hs : s.size ≤ 8) : Calls Try.prog 56 #[.string s] w fun e w' => e = .returned (.int .u64 (valB s : Nat)) ∧ w = w' := gather s w hs
theorem took_good (s : ByteArray) (hp : 0 < s.size) (h : tnW s.data.toList = 0) :
    Took s.data.toList (.returned (.tuple #[.int .u64 (valB ((s.extract 1 s.size).extract 0 s[0].toNat) : Nat), .string ((s.extract 1 s.size).extract s[0].toNat (s.size - 1)), .int .i64 0])) := by
  have e1 : tnN s.data.toList = valB ((s.extract 1 s.size).extract 0 s[0].toNat) := by
    unfold tnN valB
    rw [if_pos h, extract_bs, bs_data, extract_end, bs_data, tnK_of s hp]
    rfl
  have e2 : bs (tnR s.data.toList) = (s.extract 1 s.size).extract s[0].toNat (s.size - 1) := by
    unfold tnR
    rw [if_pos h, tnK_of s hp, extract_bs, extract_end, bs_data, List.drop_drop]
    congr 1
    rw [List.take_of_length_le]
    rw [List.length_drop, size_length]; omega
  unfold Took
  rw [e1, e2, h]
  rfl

theorem below_drewN (w : World) (n : Nat) : Below w.heap.size w (w.drewN n) := ⟨rfl, rfl, rfl, Nat.le_refl _, fun _ _ => rfl⟩

set_option maxRecDepth 100000 in
set_option maxHeartbeats 1000000 in
theorem take_own (s : ByteArray) (w : World) (hs : s.size ≤ maxLen) :
    Calls Try.prog 57 #[.string s] w fun e w' => Took s.data.toList e ∧ Below w.heap.size w w' := by
  unfold maxLen at hs
  by_cases h0 : s.size = 0
  · have HW : Hid (tnW s.data.toList = 3) := by
      have e : s.data.toList = [] := List.eq_nil_of_length_eq_zero h0
      rw [e]; rfl
    have t0 : ((s.size : Int) == 0) = true := by simp [h0]
    go_enter Try.func57, Try.ntmps57
    go_wp2
    go_ret3
    exact ⟨took_bad _ 3 HW.out (by omega), Below.refl _ _⟩
  · have t0 : ((s.size : Int) == 0) = false := by simp [h0]
    have hp : 0 < s.size := by omega
    have hb := s[0].toNat_lt
    clear h0
    by_cases h8 : 8 < s[0].toNat
    · have HW := Lib.hid (tn_a s hp h8)
      have t1 : (8 : Int) < (s[0].toNat : Int) := by omega
      go_enter Try.func57, Try.ntmps57
      go_wp2
      go_quiet (fail)
      go_wp2
      go_ret3
      exact ⟨took_bad _ 4 HW.out (by omega), below_drewN _ _⟩
    · have t1 : decide ((8 : Int) < (s[0].toNat : Int)) = false := by simp; omega
      by_cases hf : Fine s
      · by_cases h2 : s.size - 1 < s[0].toNat
        · have HW := Lib.hid (tn_c s hp (by omega) hf h2)
          have HF := Lib.hid hf
          clear hf
          go_enter Try.func57, Try.ntmps57
          go_wp2
          go_quiet (fail)
          go_wp2
          all_goals first
            | (go_ret3; exact ⟨took_bad _ 3 HW.out (by omega), below_drewN _ _⟩)
            | (exfalso; refine fine_no s HF.out hp ?_ ?_ (by rw [extract_end, bs_size, rest_length]; omega) ?_ <;> assumption)
        · have HW := Lib.hid (tn_d s hp (by omega) hf h2)
          have HF := Lib.hid hf
          have HG : Hid (((s.extract 1 s.size).extract 0 s[0].toNat).size ≤ 8) := by
            show _ ≤ 8
            rw [extract_bs, bs_size, List.length_take]; omega
          clear hf
          go_enter Try.func57, Try.ntmps57
          go_wp2
          go_quiet (fail)
          go_wp2_with fail
          all_goals first
            | (exfalso; refine fine_no s HF.out hp ?_ ?_ (by rw [extract_end, bs_size, rest_length]; omega) ?_ <;> assumption)
            | (go_region_with ((go_at_call 56; refine (gatherB _ _ HG.out).mono ?_; rintro e w' ⟨rfl, rfl⟩)))
          all_goals go_wp2
          all_goals go_ret3
          all_goals exact ⟨took_good s hp HW.out, below_drewN _ _⟩
      · obtain ⟨_, h1, h2, hz⟩ := not_fine s hf
        have HW := Lib.hid (tn_b s hp (by omega) h1 h2 hz)
        have HZ := Lib.hid hz
        clear hz hf
        go_enter Try.func57, Try.ntmps57
        go_wp2
        go_quiet (fail)
        go_wp2
        all_goals first
          | (go_ret3; exact ⟨took_bad _ 4 HW.out (by omega), below_drewN _ _⟩)
          | (exfalso; refine fine_yes s h2 HZ.out (by rw [extract_end, bs_size, rest_length]; omega) ?_ <;> assumption)
end PackTakeNum
end Go.Proofs.Ytjgdmdgiicpemaa
