/-
  begins is true.
-/
import Derived.Test.YtjgdmdgiicpemaaDiskLives2
import Derived.Test.YtjgdmdgiicpemaaPackSum
namespace Go.Proofs.Ytjgdmdgiicpemaa
open Go.RowKit Go.Lib Go.Sort
namespace Dk
theorem crc_digits : PM.crc [49, 50, 51, 52, 53, 54, 55, 56, 57] = 10673 := by decide +kernel
def G1 : List Fl := [⟨⟨#[97]⟩, ⟨#[120]⟩, 0⟩]
theorem g1_fine : Fine G1 := fine_one _ (by decide)
theorem b1 (w : World) : Calls Try.prog 9 #[.agg #[.slice none 0 0, .bool false, .int .i64 (-1)], .string ⟨#[97]⟩, .string ⟨#[120]⟩] w (DoIs w G1 false (-1) 0) :=
  add_first (.slice none 0 0) (-1) ⟨#[97]⟩ ⟨#[120]⟩ (by omega) (by omega) (by omega) ok_a (by decide) w (nil_files w)
theorem b2 (v : Value) (w : World) (hv : Files w w.heap.size v G1) : Calls Try.prog 10 #[.agg #[v, .bool false, .int .i64 (-1)], .string ⟨#[97]⟩] w fun e w' => e = .returned (.tuple #[.string ⟨#[120]⟩, .int .i64 0]) ∧ Below w.heap.size w w' := by
  have h := read_own v false (-1) G1 ⟨#[97]⟩ w hv
  have hi : idxN G1 ⟨#[97]⟩ = 0 := idx_one _ _ rfl
  have hc : chkN G1 = 0 := chk_one _ (by decide)
  unfold ReadIs rdS rdE rdN at h
  rw [hc, hi] at h
  exact h

set_option maxRecDepth 100000 in
set_option maxHeartbeats 4000000 in
theorem begins_true (w : World) : Calls Try.prog 4 #[] w fun e w' => e = .returned (.bool true) ∧ Below w.heap.size w w' := by
  have h1 := b1 w
  have K := Lib.hid crc_digits
  go_enter Try.func4, Try.ntmps4
  go_wp2_with (go_at_call 9; go_loud (refine h1.mono ?_; rintro e w1 ⟨v1, rfl, hown, hb⟩; obtain ⟨a1, c1, rfl⟩ : ∃ a c, v1 = .slice a 1 c := hown.slice; have HS1 := Lib.hid (show St w w1.heap.size (w1.alloc (.cells #[.slice a1 1 c1, .bool false, .int .i64 (-1)] 27)) (.slice a1 1 c1) false (-1) G1 from ⟨hb.size, by simp, hb.alloc hb.size _, Dx.made _ _ _ _, (hown.files g1_fine (by decide)).al _⟩); clear hb hown))
  go_wp2_with (go_at_call 10; go_loud (refine (b2 _ _ HS1.out.files).mono ?_; rintro e w2 ⟨rfl, hb⟩; have HB2 := Lib.hid (HS1.out.keep hb).below; clear hb))
  go_wp2_with fail
  refine (PackSum.sum_own _ _ (by decide)).mono ?_
  rintro e w3 ⟨rfl, rfl⟩
  rw [show PM.crc _ = 10673 from K.out]
  go_wp2
  go_ret
  exact ⟨by rfl, HB2.out⟩
end Dk
end Go.Proofs.Ytjgdmdgiicpemaa
