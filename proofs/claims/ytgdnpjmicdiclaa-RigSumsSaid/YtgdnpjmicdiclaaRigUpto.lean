/-
  AMOUNTS: rig.upto, the document's amounts.
-/
import Derived.Test.YtgdnpjmicdiclaaRigBear
import Derived.IntWalk
namespace Go.Proofs.Ytgdnpjmicdiclaa
open Go.RowKit
namespace Rg
def inB (z m : Int) : Bool := decide (0 ≤ z) && decide (z ≤ m)
def uptoB (z0 z1 z2 m : Int) : Bool := inB z0 m && (inB z1 m && inB z2 m)
def prefB (z0 z1 z2 m : Int) : Nat → Bool
  | 0 => true
  | 1 => inB z0 m
  | 2 => inB z0 m && inB z1 m
  | _ => uptoB z0 z1 z2 m
theorem inB_yes (z m : Int) (h : ¬ z < 0) (h2 : ¬ m < z) : inB z m = true := by unfold inB; simp; omega
theorem inB_no (z m : Int) (h : z < 0 ∨ m < z) : inB z m = false := by unfold inB; simp; omega
theorem arr0 (z0 z1 z2 : Int) (w : World) : (Instr.index 23 (.agg #[.int .i64 z0, .int .i64 z1, .int .i64 z2]) (.int .i64 0)).run Try.prog w = .ok (.int .i64 z0) w := by kernel_rfl
theorem arr1 (z0 z1 z2 : Int) (w : World) : (Instr.index 23 (.agg #[.int .i64 z0, .int .i64 z1, .int .i64 z2]) (.int .i64 1)).run Try.prog w = .ok (.int .i64 z1) w := by kernel_rfl
theorem arr2 (z0 z1 z2 : Int) (w : World) : (Instr.index 23 (.agg #[.int .i64 z0, .int .i64 z1, .int .i64 z2]) (.int .i64 2)).run Try.prog w = .ok (.int .i64 z2) w := by kernel_rfl
theorem upto_no0 (z0 z1 z2 m : Int) (h : z0 < 0 ∨ m < z0) : uptoB z0 z1 z2 m = false := by unfold uptoB; rw [inB_no _ _ h]; rfl
theorem upto_no1 (z0 z1 z2 m : Int) (h : z1 < 0 ∨ m < z1) : uptoB z0 z1 z2 m = false := by unfold uptoB; rw [inB_no z1 _ h]; simp
theorem upto_no2 (z0 z1 z2 m : Int) (h : z2 < 0 ∨ m < z2) : uptoB z0 z1 z2 m = false := by unfold uptoB; rw [inB_no z2 _ h]; simp
theorem one_ (w : World) (o : Obj) : Below w.heap.size w (w.alloc o) := (Below.refl _ _).alloc (Nat.le_refl _) _

set_option maxHeartbeats 2000000 in
theorem upto_any (z0 z1 z2 m : Int) (w : World) :
    Calls Try.prog 7 #[.agg #[.int .i64 z0, .int .i64 z1, .int .i64 z2], .int .i64 m] w fun e w' => e = .returned (.bool (uptoB z0 z1 z2 m)) ∧ Below w.heap.size w w' := by
  have A0 := arr0 z0 z1 z2
  have A1 := arr1 z0 z1 z2
  have A2 := arr2 z0 z1 z2
  have HB := Lib.hid (one_ w (.cells #[.int .i64 z0, .int .i64 z1, .int .i64 z2] 23))
  go_enter Try.func7, Try.ntmps7
  go_wp2
  go_loopg [8] 3 (fun g i wx => wx = w.alloc (.cells #[.int .i64 z0, .int .i64 z1, .int .i64 z2] 23) ∧ ∃ k : Nat, k + g = 3 ∧ i = .int .i64 k ∧ Aside (prefB z0 z1 z2 m k = true))
  case atStart => exact ⟨rfl, 0, by omega, rfl, by show _ = _; rfl⟩
  case round =>
    obtain ⟨rfl, k, hkg, rfl, HA⟩ := hrel
    cases gk with
    | zero =>
      obtain rfl : k = 3 := by omega
      clear hkg
      go_wp2
      go_ret
      exact ⟨by rw [show uptoB z0 z1 z2 m = true from HA.out]; rfl, HB.out⟩
    | succ g =>
      have HG := Lib.hid hkg
      have h3 : k = 0 ∨ k = 1 ∨ k = 2 := by omega
      clear hkg
      rcases h3 with rfl | rfl | rfl
      · by_cases hn : z0 < 0
        · have HN := Lib.hid (upto_no0 z0 z1 z2 m (.inl hn))
          go_wp2
          go_ret
          exact ⟨by rw [HN.out]; rfl, HB.out⟩
        · by_cases hm : m < z0
          · have HN := Lib.hid (upto_no0 z0 z1 z2 m (.inr hm))
            have hn' : decide (z0 < 0) = false := by simpa using hn
            go_wp2
            go_ret
            exact ⟨by rw [HN.out]; rfl, HB.out⟩
          · have HY := Lib.hid (inB_yes _ _ hn hm)
            have hn' : decide (z0 < 0) = false := by simpa using hn
            have hm' : decide (m < z0) = false := by simpa using hm
            go_wp2
            go_roundg g
            case measure => omega
            case rel => exact ⟨rfl, 1, by have := HG.out; omega, rfl, HY.out⟩
      · by_cases hn : z1 < 0
        · have HN := Lib.hid (upto_no1 z0 z1 z2 m (.inl hn))
          go_wp2
          go_ret
          exact ⟨by rw [HN.out]; rfl, HB.out⟩
        · by_cases hm : m < z1
          · have HN := Lib.hid (upto_no1 z0 z1 z2 m (.inr hm))
            have hn' : decide (z1 < 0) = false := by simpa using hn
            go_wp2
            go_ret
            exact ⟨by rw [HN.out]; rfl, HB.out⟩
          · have HY := Lib.hid (inB_yes _ _ hn hm)
            have hn' : decide (z1 < 0) = false := by simpa using hn
            have hm' : decide (m < z1) = false := by simpa using hm
            go_wp2
            go_roundg g
            case measure => omega
            case rel => exact ⟨rfl, 2, by have := HG.out; omega, rfl, by show (inB z0 m && inB z1 m) = true; rw [show inB z0 m = true from HA.out, HY.out]; rfl⟩
      · by_cases hn : z2 < 0
        · have HN := Lib.hid (upto_no2 z0 z1 z2 m (.inl hn))
          go_wp2
          go_ret
          exact ⟨by rw [HN.out]; rfl, HB.out⟩
        · by_cases hm : m < z2
          · have HN := Lib.hid (upto_no2 z0 z1 z2 m (.inr hm))
            have hn' : decide (z2 < 0) = false := by simpa using hn
            go_wp2
            go_ret
            exact ⟨by rw [HN.out]; rfl, HB.out⟩
          · have HY := Lib.hid (inB_yes _ _ hn hm)
            have hn' : decide (z2 < 0) = false := by simpa using hn
            have hm' : decide (m < z2) = false := by simpa using hm
            go_wp2
            go_roundg g
            case measure => omega
            case rel => exact ⟨rfl, 3, by have := HG.out; omega, rfl, by
              have h : (inB z0 m && inB z1 m) = true := HA.out
              show (inB z0 m && (inB z1 m && inB z2 m)) = true
              rw [← Bool.and_assoc, h, HY.out]; rfl⟩
end Rg
end Go.Proofs.Ytgdnpjmicdiclaa
