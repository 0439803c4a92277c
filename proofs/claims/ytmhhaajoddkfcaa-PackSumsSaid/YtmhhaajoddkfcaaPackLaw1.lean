/-
  WALKS of the laws on checks: PackSums answers true, whatever the bytes.
-/
import Derived.Test.YtmhhaajoddkfcaaPackSum
namespace Go.Proofs.Ytmhhaajoddkfcaa
open Go.RowKit
namespace PackLaw1
open PM

theorem crc_known : crc [49, 50, 51, 52, 53, 54, 55, 56, 57] = 10673 := by decide +kernel

set_option maxRecDepth 100000 in
set_option maxHeartbeats 400000 in
theorem sums_true (w : World) : Calls Try.prog 13 #[] w fun e w' => e = .returned (.bool true) ∧ w = w' := by
  have K := Lib.hid crc_known
  go_enter Try.func13, Try.ntmps13
  go_wp2_with fail
  refine (PackSum.sum_own _ _ (by decide)).mono ?_
  rintro e w' ⟨rfl, rfl⟩
  rw [show crc _ = 10673 from K.out]
  go_wp2
  go_ret
  exact ⟨rfl, rfl⟩

set_option maxRecDepth 100000 in
set_option maxHeartbeats 400000 in
theorem packSums (s : ByteArray) (hs : s.size ≤ maxLen) (w : World) :
    Calls Try.prog 3 #[.string s] w fun e w' => e = .returned (.bool true) ∧ Grown w w' := by
  go_enter Try.func3, Try.ntmps3
  go_wp2_with fail
  refine (sums_true _).mono ?_
  rintro e w' ⟨rfl, rfl⟩
  go_wp2_with fail
  refine (PackSum.sum_own s _ hs).mono ?_
  rintro e w' ⟨rfl, rfl⟩
  go_wp2_with fail
  refine (PackSum.sum_ref s _ hs).mono ?_
  rintro e w' ⟨rfl, rfl⟩
  go_wp2
  go_ret
  exact ⟨rfl, Grown.refl _⟩
end PackLaw1
end Go.Proofs.Ytmhhaajoddkfcaa
