/-
  NAMES: which texts are names, of the program and of the document.
-/
import Derived.Test.YtjgdmdgiicpemaaRows
import Derived.WalkKit
import Derived.WalkLawsBesides
import Derived.WalkSpells
import Derived.Lib.Hide
import Derived.Deep.LoopGhost
import Derived.Deep.QuietTactic
import Derived.BigQuiet
namespace Go.Proofs.Ytjgdmdgiicpemaa
open Go.RowKit
namespace Rg

theorem bdN {B : Nat} {a w : World} (h : Below B a w) (n : Nat) : Below B a (w.drewN n) := ⟨h.os, h.tape, h.output, h.size, h.block⟩
/-- A byte that may stand in a name. -/
def nmC (c : UInt8) : Bool := decide ((97 ≤ c.toNat ∧ c.toNat ≤ 122) ∨ (48 ≤ c.toNat ∧ c.toNat ≤ 57) ∨ c.toNat = 45)
def nmTo (s : ByteArray) (k : Nat) : Bool := (s.data.toList.take k).all nmC
def nameB (s : ByteArray) : Bool := decide (0 < s.size) && decide (s.size ≤ 32) && s.data.toList.all nmC
theorem nm_snoc (s : ByteArray) (k : Nat) (h : k < s.size) : nmTo s (k + 1) = (nmTo s k && nmC s[k]) := by
  unfold nmTo
  rw [List.take_succ_eq_append_getElem (by simpa using h), List.all_append]
  simp; rfl
theorem nm_all (s : ByteArray) (k : Nat) (h : s.size ≤ k) : nmTo s k = s.data.toList.all nmC := by
  unfold nmTo
  rw [List.take_of_length_le (by simpa using h)]
theorem nm_bad (s : ByteArray) (k : Nat) (h : k < s.size) (hc : nmC s[k] = false) : s.data.toList.all nmC = false := by
  rw [← Bool.not_eq_true, List.all_eq_true]
  intro ha
  have := ha s[k] (by rw [show s[k] = s.data.toList[k]'(by simpa using h) from rfl]; exact List.getElem_mem _)
  rw [hc] at this; cases this
theorem nmC_eq (c : UInt8) : nmC c = decide ((97 ≤ (c.toNat : Int) ∧ (c.toNat : Int) ≤ 122) ∨ (48 ≤ (c.toNat : Int) ∧ (c.toNat : Int) ≤ 57) ∨ (c.toNat : Int) = 45) := by
  unfold nmC
  rw [Bool.eq_iff_iff]; simp; omega

set_option maxHeartbeats 400000 in
theorem may_any (c : UInt8) (w : World) :
    Calls Try.prog 12 #[.int .u8 (c.toNat : Int)] w fun e w' => e = .returned (.bool (nmC c)) ∧ w = w' := by
  have H := Lib.hid (nmC_eq c)
  generalize nmC c = r at *
  generalize (c.toNat : Int) = n at *
  by_cases h1 : (97 : Int) ≤ n
  · by_cases h2 : n ≤ 122
    · have HR := Lib.hid (show r = true by rw [H.out]; simp; omega)
      go_enter Try.func12, Try.ntmps12
      go_wp2
      go_ret
      exact ⟨by rw [HR.out]; rfl, rfl⟩
    · have HR := Lib.hid (show r = false by rw [H.out]; simp; omega)
      have h3 : ¬ n ≤ 57 := by omega
      have h4 : (48 : Int) ≤ n := by omega
      have h5 : ¬ n = 45 := by omega
      go_enter Try.func12, Try.ntmps12
      go_wp2
      go_ret
      exact ⟨by rw [HR.out]; simp; omega, rfl⟩
  · by_cases h3 : (48 : Int) ≤ n
    · by_cases h4 : n ≤ 57
      · have HR := Lib.hid (show r = true by rw [H.out]; simp; omega)
        go_enter Try.func12, Try.ntmps12
        go_wp2
        go_ret
        exact ⟨by rw [HR.out]; rfl, rfl⟩
      · have HR := Lib.hid (show r = false by rw [H.out]; simp; omega)
        have h5 : ¬ n = 45 := by omega
        go_enter Try.func12, Try.ntmps12
        go_wp2
        go_ret
        exact ⟨by rw [HR.out]; simp; omega, rfl⟩
    · have HR := Lib.hid (show r = decide (n = 45) by rw [H.out]; rw [decide_eq_decide]; omega)
      go_enter Try.func12, Try.ntmps12
      go_wp2
      go_ret
      exact ⟨by rw [HR.out]; simp; rfl, rfl⟩

set_option maxHeartbeats 400000 in
theorem name_any (s : ByteArray) (w : World) (hs : s.size ≤ maxLen) :
    Calls Try.prog 5 #[.string s] w fun e w' => e = .returned (.bool (nameB s)) ∧ w = w' := by
  unfold maxLen at hs
  by_cases h0 : s.size = 0
  · have HN := Lib.hid (show nameB s = false by unfold nameB; simp [h0])
    have hz : s.toList = [] := by
      rw [ByteArray.toList_eq]
      exact List.eq_nil_of_length_eq_zero (by simpa using h0)
    go_enter Try.func5, Try.ntmps5
    go_wp2
    go_ret
    exact ⟨by rw [HN.out]; rfl, rfl⟩
  · have hz : s.toList.isEmpty = false := by
      rw [ByteArray.toList_eq, ← Bool.not_eq_true, List.isEmpty_iff]
      intro he
      exact h0 (by have := congrArg List.length he; simpa using this)
    have hz2 : ¬ s.toList = [] := by simpa using hz
    by_cases h32 : (32 : Int) < (s.size : Int)
    · have HN := Lib.hid (show nameB s = false by unfold nameB; simp; omega)
      clear h0
      go_enter Try.func5, Try.ntmps5
      go_wp2
      go_ret
      exact ⟨by rw [HN.out]; rfl, rfl⟩
    · have HN := Lib.hid (show nameB s = s.data.toList.all nmC by unfold nameB; simp; omega)
      clear h0
      go_enter Try.func5, Try.ntmps5
      go_wp2
      go_loopg [13] s.size (fun g i wx => wx = w ∧ ∃ k : Nat, k + g = s.size ∧ i = .int .i64 k ∧ Aside (nmTo s k = true))
      case atStart => exact ⟨rfl, 0, by omega, rfl, by show _ = _; rfl⟩
      case round =>
        obtain ⟨rfl, k, hkg, rfl, HA⟩ := hrel
        cases gk with
        | zero =>
          have hlk : s.size ≤ k := by omega
          have HR := Lib.hid (nm_all s k hlk)
          obtain rfl : k = s.size := by omega
          clear hkg
          go_wp2
          go_ret
          exact ⟨by rw [HN.out, ← HR.out, HA.out]; rfl, rfl⟩
        | succ g =>
          have hlk : k < s.size := by omega
          have HG := Lib.hid hkg
          have HS := Lib.hid (nm_snoc s k hlk)
          have HB := Lib.hid (nm_bad s k hlk)
          have hm := fun w => may_any s[k] w
          clear hkg
          cases hc : nmC s[k]
          · rw [hc] at hm
            have HC := Lib.hid hc
            have HM := Lib.hid hm
            clear hc hm
            go_wp2_with (go_at_call 12; refine (HM.out _).mono ?_; rintro e w' ⟨rfl, rfl⟩)
            go_ret
            exact ⟨by rw [HN.out, HB.out HC.out]; rfl, rfl⟩
          · rw [hc] at hm
            have HC := Lib.hid hc
            have HM := Lib.hid hm
            clear hc hm
            go_wp2_with (go_at_call 12; refine (HM.out _).mono ?_; rintro e w' ⟨rfl, rfl⟩)
            go_roundg g
            case measure => omega
            case rel => exact ⟨rfl, k + 1, by have := HG.out; omega, by go_num, by show _ = _; rw [HS.out, HA.out, HC.out]; rfl⟩

theorem name_a1 : nameB ⟨#[97, 45, 49]⟩ = true := by decide +kernel
theorem name_A : nameB ⟨#[65]⟩ = false := by decide +kernel
end Rg
end Go.Proofs.Ytjgdmdgiicpemaa
