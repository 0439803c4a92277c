/-
  WALKS of the laws on numbers, texts and frames.
-/
import Derived.Test.YtmhhaajoddkfcaaPackTakeFrRef
import Derived.Test.YtmhhaajoddkfcaaPackBackMath
namespace Go.Proofs.Ytmhhaajoddkfcaa
open Go.RowKit
namespace PackLaw2
open PM PackBytes PackTakeNum PackTakeRef PackRefNum PackText PackChk PackFrame PackTakeFr PackTakeFrRef

theorem bs_toList (l : List UInt8) : (bs l).toList = l := by rw [toList_data, bs_data]
theorem num_known : num 258 = [2, 1, 2] := by decide +kernel

set_option maxRecDepth 100000 in
set_option maxHeartbeats 400000 in
theorem numbers_true (w : World) : Calls Try.prog 16 #[] w fun e w' => e = .returned (.bool true) ∧ Below w.heap.size w w' := by
  have K := Lib.hid num_known
  have h0 := fun w => number_own 258 w (by omega)
  rw [K.out] at h0
  have h1 := Lib.hid h0
  clear h0
  have hbl := bs_toList
  go_enter Try.func16, Try.ntmps16
  go_wp2_with fail
  refine (h1.out _).mono ?_
  rintro e w' ⟨rfl, hb⟩
  go_wp2
  go_ret
  exact ⟨rfl, hb⟩

set_option maxRecDepth 100000 in
set_option maxHeartbeats 400000 in
theorem packNumbers (x : Int) (s : ByteArray) (hx : (Lit.int .u64 x).wf = true) (hs : s.data.toList.length ≤ reachBytes) (w : World) :
    Calls Try.prog 4 #[.int .u64 x, .string s] w fun e w' => e = .returned (.bool true) ∧ Below w.heap.size w w' := by
  have hx2 : 0 ≤ x ∧ x ≤ 18446744073709551615 := by simpa [Lit.wf, IntKind.min, IntKind.max, IntKind.signed, IntKind.bits] using hx
  obtain ⟨n, rfl⟩ := Int.eq_ofNat_of_zero_le hx2.1
  have hn : n < 2 ^ 64 := by omega
  clear hx hx2
  go_enter Try.func4, Try.ntmps4
  go_wp2_with fail
  refine (numbers_true _).mono ?_
  rintro e w1 ⟨rfl, hb1⟩
  go_wp2_with fail
  refine (number_own n _ hn).mono ?_
  rintro e w2 ⟨rfl, hb2⟩
  go_wp2_with fail
  refine (number_ref n _ hn).mono ?_
  rintro e w3 ⟨rfl, hb3⟩
  go_wp2_with fail
  refine (text_own s _ hs).mono ?_
  rintro e w4 ⟨rfl, hb4⟩
  go_wp2_with fail
  refine (text_ref s _ hs).mono ?_
  rintro e w5 ⟨rfl, hb5⟩
  go_wp2
  go_ret
  have s1 := hb1.size
  have s2 := hb2.size
  have s3 := hb3.size
  have s4 := hb4.size
  exact ⟨rfl, (((hb1.trans (hb2.mono s1)).trans (hb3.mono (by omega))).trans (hb4.mono (by omega))).trans (hb5.mono (by omega))⟩

set_option maxRecDepth 100000 in
set_option maxHeartbeats 400000 in
theorem packTakes (s : ByteArray) (hs : s.size ≤ maxLen) (w : World) :
    Calls Try.prog 5 #[.string s] w fun e w' => e = .returned (.bool true) ∧ Below w.heap.size w w' := by
  have HS := Lib.hid hs
  clear hs
  go_enter Try.func5, Try.ntmps5
  go_wp2_with fail
  refine (take_own s _ HS.out).mono ?_
  rintro e w1 ⟨he, hb1⟩
  unfold Took at he
  subst he
  go_wp2_with fail
  refine (take_ref s _ HS.out).mono ?_
  rintro e w2 ⟨he, hb2⟩
  unfold Took at he
  subst he
  go_wp2_with fail
  refine (numbers_true _).mono ?_
  rintro e w3 ⟨rfl, hb3⟩
  go_wp2
  go_ret
  have s1 := hb1.size
  have s2 := hb2.size
  exact ⟨rfl, (hb1.trans (hb2.mono s1)).trans (hb3.mono (by omega))⟩

set_option maxRecDepth 100000 in
set_option maxHeartbeats 400000 in
theorem packTexts (s : ByteArray) (hs : s.size ≤ maxLen) (w : World) :
    Calls Try.prog 6 #[.string s] w fun e w' => e = .returned (.bool true) ∧ Below w.heap.size w w' := by
  have HS := Lib.hid hs
  clear hs
  have k : ttT [1, 1, 120, 121] = [120] ∧ ttR [1, 1, 120, 121] = [121] ∧ ttW [1, 1, 120, 121] = 0 := by decide +kernel
  have h0 := fun w => takeText_own ⟨#[1, 1, 120, 121]⟩ w (by decide)
  unfold TookT at h0
  rw [show (ByteArray.mk #[1, 1, 120, 121]).data.toList = [1, 1, 120, 121] from rfl, k.1, k.2.1, k.2.2] at h0
  have h1 := Lib.hid h0
  clear h0 k
  have hbl := bs_toList
  go_enter Try.func6, Try.ntmps6
  go_wp2_with fail
  refine (takeText_own s _ HS.out).mono ?_
  rintro e w1 ⟨he, hb1⟩
  unfold TookT at he
  subst he
  go_wp2_with fail
  refine (takeText_ref s _ HS.out).mono ?_
  rintro e w2 ⟨he, hb2⟩
  unfold TookT at he
  subst he
  go_wp2_with fail
  refine (h1.out _).mono ?_
  rintro e w3 ⟨rfl, hb3⟩
  go_wp2
  go_ret
  have s1 := hb1.size
  have s2 := hb2.size
  exact ⟨rfl, (hb1.trans (hb2.mono s1)).trans (hb3.mono (by omega))⟩

set_option maxRecDepth 100000 in
set_option maxHeartbeats 1000000 in
theorem frames_true (w : World) : Calls Try.prog 29 #[] w fun e w' => e = .returned (.bool true) ∧ Below w.heap.size w w' := by
  have h0 := fun w => frame_own ⟨#[97]⟩ w (by decide)
  have e1 : frS ⟨#[97]⟩ = bs (frm [97]) := rfl
  have e2 : frW ⟨#[97]⟩ = 0 := rfl
  unfold Framed at h0
  rw [e1, e2] at h0
  have k := tf_back [97] [98] (by decide)
  have h1 := fun w => takeFrame_own (bs (frm [97]) ++ ⟨#[98]⟩) w (by rw [ByteArray.size_append, bs_size, frm_length]; decide)
  unfold TookF at h1
  rw [show (bs (frm [97]) ++ ⟨#[98]⟩).data.toList = frm [97] ++ [98] from by rw [show (⟨#[98]⟩ : ByteArray) = bs [98] from rfl, bs_append, bs_data], k.1, k.2.1, k.2.2] at h1
  have H0 := Lib.hid h0
  have H1 := Lib.hid h1
  clear h0 h1 k e1 e2
  have hl := frm_length [97]
  have hbs := bs_size (frm [97])
  have hbl := bs_toList
  go_enter Try.func29, Try.ntmps29
  go_wp2_with fail
  refine (H0.out _).mono ?_
  rintro e w1 ⟨rfl, hb1⟩
  go_wp2_with fail
  refine (H1.out _).mono ?_
  rintro e w2 ⟨rfl, hb2⟩
  go_wp2
  go_ret
  exact ⟨rfl, hb1.trans (hb2.mono hb1.size)⟩

set_option maxRecDepth 100000 in
set_option maxHeartbeats 1000000 in
theorem packFrames (p s : ByteArray) (hp : p.size ≤ maxLen) (hs : s.size ≤ maxLen) (w : World) :
    Calls Try.prog 7 #[.string p, .string s] w fun e w' => e = .returned (.bool true) ∧ Below w.heap.size w w' := by
  have HS := Lib.hid hs
  have HP := Lib.hid hp
  clear hs hp
  go_enter Try.func7, Try.ntmps7
  go_wp2_with fail
  refine (frame_own p _ HP.out).mono ?_
  rintro e w1 ⟨he, hb1⟩
  unfold Framed at he
  subst he
  go_wp2_with fail
  refine (frame_ref p _ HP.out).mono ?_
  rintro e w2 ⟨he, hb2⟩
  unfold Framed at he
  subst he
  go_wp2_with fail
  refine (takeFrame_own s _ HS.out).mono ?_
  rintro e w3 ⟨he, hb3⟩
  unfold TookF at he
  subst he
  go_wp2_with fail
  refine (takeFrame_ref s _ HS.out).mono ?_
  rintro e w4 ⟨he, hb4⟩
  unfold TookF at he
  subst he
  go_wp2_with fail
  refine (frames_true _).mono ?_
  rintro e w5 ⟨rfl, hb5⟩
  go_wp2
  go_ret
  have s1 := hb1.size
  have s2 := hb2.size
  have s3 := hb3.size
  have s4 := hb4.size
  exact ⟨rfl, (((hb1.trans (hb2.mono s1)).trans (hb3.mono (by omega))).trans (hb4.mono (by omega))).trans (hb5.mono (by omega))⟩
end PackLaw2
end Go.Proofs.Ytmhhaajoddkfcaa
