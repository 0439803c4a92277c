/-
  AMOUNTS, second part: the document's amounts.
-/
import Derived.Test.YthnajkpnchaciaaRigUpto
namespace Go.Proofs.Ythnajkpnchaciaa
open Go.RowKit
namespace Rg
set_option maxHeartbeats 2000000 in
theorem amounts_1 (z0 z1 z2 : Int) (w : World) :
    Calls Try.prog 32 #[.agg #[.int .i64 z0, .int .i64 z1, .int .i64 z2], .int .i64 1] w fun e w' => e = .returned (.bool (uptoB z0 z1 z2 1099511627776)) ∧ Below w.heap.size w w' := by
  have A0 := arr0 z0 z1 z2
  have A1 := arr1 z0 z1 z2
  have A2 := arr2 z0 z1 z2
  have HB := Lib.hid (one_ w (.cells #[.int .i64 z0, .int .i64 z1, .int .i64 z2] 22))
  go_enter Try.func32, Try.ntmps32
  go_wp2
  go_loopg [8] 3 (fun g i wx => wx = w.alloc (.cells #[.int .i64 z0, .int .i64 z1, .int .i64 z2] 22) ∧ ∃ k : Nat, k + g = 3 ∧ i = .int .i64 k ∧ Aside (prefB z0 z1 z2 1099511627776 k = true))
  case atStart => exact ⟨rfl, 0, by omega, rfl, by show _ = _; rfl⟩
  case round =>
    obtain ⟨rfl, k, hkg, rfl, HA⟩ := hrel
    cases gk with
    | zero =>
      obtain rfl : k = 3 := by omega
      clear hkg
      go_wp2
      go_ret
      exact ⟨by rw [show uptoB z0 z1 z2 1099511627776 = true from HA.out]; rfl, HB.out⟩
    | succ g =>
      have HG := Lib.hid hkg
      have h3 : k = 0 ∨ k = 1 ∨ k = 2 := by omega
      clear hkg
      rcases h3 with rfl | rfl | rfl
      · by_cases hn : z0 < 0
        · have HN := Lib.hid (upto_no0 z0 z1 z2 1099511627776 (.inl hn))
          go_wp2
          go_ret
          exact ⟨by rw [HN.out]; rfl, HB.out⟩
        · by_cases hm : 1099511627776 < z0
          · have HN := Lib.hid (upto_no0 z0 z1 z2 1099511627776 (.inr hm))
            have hn' : decide (z0 < 0) = false := by simpa using hn
            go_wp2
            go_ret
            exact ⟨by rw [HN.out]; rfl, HB.out⟩
          · have HY := Lib.hid (inB_yes _ _ hn hm)
            have hn' : decide (z0 < 0) = false := by simpa using hn
            have hm' : decide (1099511627776 < z0) = false := by simpa using hm
            go_wp2
            go_roundg g
            case measure => omega
            case rel => exact ⟨rfl, 1, by have := HG.out; omega, rfl, HY.out⟩
      · by_cases hn : z1 < 0
        · have HN := Lib.hid (upto_no1 z0 z1 z2 1099511627776 (.inl hn))
          go_wp2
          go_ret
          exact ⟨by rw [HN.out]; rfl, HB.out⟩
        · by_cases hm : 1099511627776 < z1
          · have HN := Lib.hid (upto_no1 z0 z1 z2 1099511627776 (.inr hm))
            have hn' : decide (z1 < 0) = false := by simpa using hn
            go_wp2
            go_ret
            exact ⟨by rw [HN.out]; rfl, HB.out⟩
          · have HY := Lib.hid (inB_yes _ _ hn hm)
            have hn' : decide (z1 < 0) = false := by simpa using hn
            have hm' : decide (1099511627776 < z1) = false := by simpa using hm
            go_wp2
            go_roundg g
            case measure => omega
            case rel => exact ⟨rfl, 2, by have := HG.out; omega, rfl, by show (inB z0 1099511627776 && inB z1 1099511627776) = true; rw [show inB z0 1099511627776 = true from HA.out, HY.out]; rfl⟩
      · by_cases hn : z2 < 0
        · have HN := Lib.hid (upto_no2 z0 z1 z2 1099511627776 (.inl hn))
          go_wp2
          go_ret
          exact ⟨by rw [HN.out]; rfl, HB.out⟩
        · by_cases hm : 1099511627776 < z2
          · have HN := Lib.hid (upto_no2 z0 z1 z2 1099511627776 (.inr hm))
            have hn' : decide (z2 < 0) = false := by simpa using hn
            go_wp2
            go_ret
            exact ⟨by rw [HN.out]; rfl, HB.out⟩
          · have HY := Lib.hid (inB_yes _ _ hn hm)
            have hn' : decide (z2 < 0) = false := by simpa using hn
            have hm' : decide (1099511627776 < z2) = false := by simpa using hm
            go_wp2
            go_roundg g
            case measure => omega
            case rel => exact ⟨rfl, 3, by have := HG.out; omega, rfl, by
              have h : (inB z0 1099511627776 && inB z1 1099511627776) = true := HA.out
              show (inB z0 1099511627776 && (inB z1 1099511627776 && inB z2 1099511627776)) = true
              rw [← Bool.and_assoc, h, HY.out]; rfl⟩
set_option maxHeartbeats 2000000 in
theorem amounts_32 (z0 z1 z2 : Int) (w : World) :
    Calls Try.prog 32 #[.agg #[.int .i64 z0, .int .i64 z1, .int .i64 z2], .int .i64 32] w fun e w' => e = .returned (.bool (uptoB z0 z1 z2 35184372088832)) ∧ Below w.heap.size w w' := by
  have A0 := arr0 z0 z1 z2
  have A1 := arr1 z0 z1 z2
  have A2 := arr2 z0 z1 z2
  have HB := Lib.hid (one_ w (.cells #[.int .i64 z0, .int .i64 z1, .int .i64 z2] 22))
  go_enter Try.func32, Try.ntmps32
  go_wp2
  go_loopg [8] 3 (fun g i wx => wx = w.alloc (.cells #[.int .i64 z0, .int .i64 z1, .int .i64 z2] 22) ∧ ∃ k : Nat, k + g = 3 ∧ i = .int .i64 k ∧ Aside (prefB z0 z1 z2 35184372088832 k = true))
  case atStart => exact ⟨rfl, 0, by omega, rfl, by show _ = _; rfl⟩
  case round =>
    obtain ⟨rfl, k, hkg, rfl, HA⟩ := hrel
    cases gk with
    | zero =>
      obtain rfl : k = 3 := by omega
      clear hkg
      go_wp2
      go_ret
      exact ⟨by rw [show uptoB z0 z1 z2 35184372088832 = true from HA.out]; rfl, HB.out⟩
    | succ g =>
      have HG := Lib.hid hkg
      have h3 : k = 0 ∨ k = 1 ∨ k = 2 := by omega
      clear hkg
      rcases h3 with rfl | rfl | rfl
      · by_cases hn : z0 < 0
        · have HN := Lib.hid (upto_no0 z0 z1 z2 35184372088832 (.inl hn))
          go_wp2
          go_ret
          exact ⟨by rw [HN.out]; rfl, HB.out⟩
        · by_cases hm : 35184372088832 < z0
          · have HN := Lib.hid (upto_no0 z0 z1 z2 35184372088832 (.inr hm))
            have hn' : decide (z0 < 0) = false := by simpa using hn
            go_wp2
            go_ret
            exact ⟨by rw [HN.out]; rfl, HB.out⟩
          · have HY := Lib.hid (inB_yes _ _ hn hm)
            have hn' : decide (z0 < 0) = false := by simpa using hn
            have hm' : decide (35184372088832 < z0) = false := by simpa using hm
            go_wp2
            go_roundg g
            case measure => omega
            case rel => exact ⟨rfl, 1, by have := HG.out; omega, rfl, HY.out⟩
      · by_cases hn : z1 < 0
        · have HN := Lib.hid (upto_no1 z0 z1 z2 35184372088832 (.inl hn))
          go_wp2
          go_ret
          exact ⟨by rw [HN.out]; rfl, HB.out⟩
        · by_cases hm : 35184372088832 < z1
          · have HN := Lib.hid (upto_no1 z0 z1 z2 35184372088832 (.inr hm))
            have hn' : decide (z1 < 0) = false := by simpa using hn
            go_wp2
            go_ret
            exact ⟨by rw [HN.out]; rfl, HB.out⟩
          · have HY := Lib.hid (inB_yes _ _ hn hm)
            have hn' : decide (z1 < 0) = false := by simpa using hn
            have hm' : decide (35184372088832 < z1) = false := by simpa using hm
            go_wp2
            go_roundg g
            case measure => omega
            case rel => exact ⟨rfl, 2, by have := HG.out; omega, rfl, by show (inB z0 35184372088832 && inB z1 35184372088832) = true; rw [show inB z0 35184372088832 = true from HA.out, HY.out]; rfl⟩
      · by_cases hn : z2 < 0
        · have HN := Lib.hid (upto_no2 z0 z1 z2 35184372088832 (.inl hn))
          go_wp2
          go_ret
          exact ⟨by rw [HN.out]; rfl, HB.out⟩
        · by_cases hm : 35184372088832 < z2
          · have HN := Lib.hid (upto_no2 z0 z1 z2 35184372088832 (.inr hm))
            have hn' : decide (z2 < 0) = false := by simpa using hn
            go_wp2
            go_ret
            exact ⟨by rw [HN.out]; rfl, HB.out⟩
          · have HY := Lib.hid (inB_yes _ _ hn hm)
            have hn' : decide (z2 < 0) = false := by simpa using hn
            have hm' : decide (35184372088832 < z2) = false := by simpa using hm
            go_wp2
            go_roundg g
            case measure => omega
            case rel => exact ⟨rfl, 3, by have := HG.out; omega, rfl, by
              have h : (inB z0 35184372088832 && inB z1 35184372088832) = true := HA.out
              show (inB z0 35184372088832 && (inB z1 35184372088832 && inB z2 35184372088832)) = true
              rw [← Bool.and_assoc, h, HY.out]; rfl⟩
end Rg
end Go.Proofs.Ythnajkpnchaciaa
