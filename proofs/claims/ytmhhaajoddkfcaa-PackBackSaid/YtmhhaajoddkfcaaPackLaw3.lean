/-
  WALKS of the laws 'there and back' and 'cut short'.
-/
import Derived.Test.YtmhhaajoddkfcaaPackLaw2
namespace Go.Proofs.Ytmhhaajoddkfcaa
open Go.RowKit
namespace PackLaw3
open PM PackBytes PackTakeNum PackTakeRef PackRefNum PackText PackChk PackFrame PackTakeFr PackTakeFrRef PackLaw2

theorem data_app (l : List UInt8) (r : ByteArray) : (bs l ++ r).data.toList = l ++ r.data.toList := by rw [bs_append_ba, bs_data]
theorem size_app (l : List UInt8) (r : ByteArray) : (bs l ++ r).size = l.length + r.size := by rw [ByteArray.size_append, bs_size]

theorem back_number (n : Nat) (hn : n < 2 ^ 64) (r : ByteArray) (hr : r.size ≤ 140737488351232) (w : World) :
    Calls Try.prog 21 #[.string (bs (num n) ++ r)] w fun e w' => e = .returned (.tuple #[.int .u64 n, .string r, .int .i64 0]) ∧ Below w.heap.size w w' := by
  have h := take_own (bs (num n) ++ r) w (by have := (nsz_spec n hn).1; rw [size_app, num_length]; unfold maxLen; omega)
  unfold Took at h
  have k := tn_back n hn r.data.toList
  rw [data_app, k.1, k.2.1, k.2.2, bs_of] at h
  exact h
theorem back_text (t r : ByteArray) (ht : t.size ≤ 140737488351232) (hr : r.size ≤ 140737488351232) (h : ¬ 65536 < t.size) (w : World) :
    Calls Try.prog 23 #[.string (txtB t ++ r)] w fun e w' => e = .returned (.tuple #[.string t, .string r, .int .i64 0]) ∧ Below w.heap.size w w' := by
  have hz := (nsz_spec t.size (by omega)).1
  have hc := takeText_own (txtB t ++ r) w (by unfold txtB; rw [size_app]; unfold txt; rw [List.length_append, num_length, size_length]; unfold maxLen; omega)
  unfold TookT at hc
  have k := tt_back t.data.toList r.data.toList h
  unfold txtB at hc
  rw [data_app, k.1, k.2.1, k.2.2, bs_of, bs_of] at hc
  exact hc
theorem back_text_long (t r : ByteArray) (ht : t.size ≤ 140737488351232) (hr : r.size ≤ 140737488351232) (h : 65536 < t.size) (w : World) :
    Calls Try.prog 23 #[.string (txtB t ++ r)] w fun e w' => ∃ a b, e = .returned (.tuple #[.string a, .string b, .int .i64 2]) ∧ Below w.heap.size w w' := by
  have hz := (nsz_spec t.size (by omega)).1
  have hc := takeText_own (txtB t ++ r) w (by unfold txtB; rw [size_app]; unfold txt; rw [List.length_append, num_length, size_length]; unfold maxLen; omega)
  unfold TookT at hc
  have k := tt_back_long t.data.toList r.data.toList (by rw [size_length]; omega) h
  unfold txtB at hc
  rw [data_app, k] at hc
  exact hc.mono fun e w' ⟨he, hb⟩ => ⟨_, _, he, hb⟩
theorem back_frame (t r : ByteArray) (hr : r.size ≤ 140737488351232) (h : ¬ 65536 < t.size) (w : World) :
    Calls Try.prog 27 #[.string (bs (frm t.data.toList) ++ r)] w fun e w' => e = .returned (.tuple #[.string t, .string r, .int .i64 0]) ∧ Below w.heap.size w w' := by
  have hc := takeFrame_own (bs (frm t.data.toList) ++ r) w (by rw [size_app, frm_length, size_length]; unfold maxLen; omega)
  unfold TookF at hc
  have k := tf_back t.data.toList r.data.toList h
  rw [data_app, k.1, k.2.1, k.2.2, bs_of, bs_of] at hc
  exact hc

set_option maxRecDepth 100000 in
set_option maxHeartbeats 1000000 in
theorem packBack (x : Int) (t r : ByteArray) (hx : (Lit.int .u64 x).wf = true) (ht : t.data.toList.length ≤ reachBytes) (hr : r.data.toList.length ≤ reachBytes) (w : World) :
    Calls Try.prog 8 #[.int .u64 x, .string t, .string r] w fun e w' => e = .returned (.bool true) ∧ Below w.heap.size w w' := by
  have hx2 : 0 ≤ x ∧ x ≤ 18446744073709551615 := by simpa [Lit.wf, IntKind.min, IntKind.max, IntKind.signed, IntKind.bits] using hx
  obtain ⟨n, rfl⟩ := Int.eq_ofNat_of_zero_le hx2.1
  have hn : n < 2 ^ 64 := by omega
  have HT := Lib.hid ht
  have ht2 : t.size ≤ 140737488351232 := ht
  have hr2 : r.size ≤ 140737488351232 := hr
  clear hx hx2 ht hr
  have hz := (nsz_spec n hn).1
  have hz2 := (nsz_spec t.size (by omega)).1
  have hbs := bs_size (num n)
  have hnl := num_length n
  have htx : (txtB t).size = 1 + nsz t.size + t.size := by unfold txtB txt; rw [bs_size, List.length_append, num_length, size_length]
  by_cases h : 65536 < t.size
  · have t1 : (65536 : Int) < (t.size : Int) := by omega
    have e1 : frS t = bs [] := by unfold frS; rw [if_pos h]; rfl
    have e2 : frW t = 2 := by unfold frW; rw [if_pos h]
    have H := Lib.hid h
    have hf := fun w => frame_own t w (by unfold maxLen; omega)
    unfold Framed at hf
    rw [e1, e2] at hf
    have HF := Lib.hid hf
    have HR : Hid ((bs [] ++ r).size ≤ maxLen) := by show _ ≤ _; rw [size_app]; unfold maxLen; simp; omega
    have hb0 := bs_size []
    clear h hf e1 e2
    go_enter Try.func8, Try.ntmps8
    go_wp2_with fail
    refine (number_own n _ hn).mono ?_
    rintro e w1 ⟨rfl, hb1⟩
    go_wp2_with fail
    refine (back_number n hn r hr2 _).mono ?_
    rintro e w2 ⟨rfl, hb2⟩
    go_wp2_with fail
    refine (text_own t _ HT.out).mono ?_
    rintro e w3 ⟨rfl, hb3⟩
    go_wp2_with fail
    refine (back_text_long t r ht2 hr2 H.out _).mono ?_
    rintro e w4 ⟨a4, b4, rfl, hb4⟩
    go_wp2_with fail
    refine (HF.out _).mono ?_
    rintro e w5 ⟨rfl, hb5⟩
    go_wp2_with fail
    refine (takeFrame_own _ _ HR.out).mono ?_
    rintro e w6 ⟨he, hb6⟩
    unfold TookF at he
    subst he
    go_wp2_with fail
    refine (numbers_true _).mono ?_
    rintro e w7 ⟨rfl, hb7⟩
    go_wp2_with fail
    refine (frames_true _).mono ?_
    rintro e w8 ⟨rfl, hb8⟩
    go_wp2
    go_ret
    have s1 := hb1.size
    have s2 := hb2.size
    have s3 := hb3.size
    have s4 := hb4.size
    have s5 := hb5.size
    have s6 := hb6.size
    have s7 := hb7.size
    exact ⟨rfl, ((((((hb1.trans (hb2.mono s1)).trans (hb3.mono (by omega))).trans (hb4.mono (by omega))).trans (hb5.mono (by omega))).trans (hb6.mono (by omega))).trans (hb7.mono (by omega))).trans (hb8.mono (by omega))⟩
  · have t1 : decide ((65536 : Int) < (t.size : Int)) = false := by simp; omega
    have e1 : frS t = bs (frm t.data.toList) := by unfold frS; rw [if_neg h]
    have e2 : frW t = 0 := by unfold frW; rw [if_neg h]
    have H := Lib.hid h
    have hf := fun w => frame_own t w (by unfold maxLen; omega)
    unfold Framed at hf
    rw [e1, e2] at hf
    have HF := Lib.hid hf
    have hfs := bs_size (frm t.data.toList)
    have hfl := frm_length t.data.toList
    have hsl := size_length t
    have hts : t.size ≤ 65536 := by omega
    clear h hf e1 e2
    go_enter Try.func8, Try.ntmps8
    go_wp2_with fail
    refine (number_own n _ hn).mono ?_
    rintro e w1 ⟨rfl, hb1⟩
    go_wp2_with fail
    refine (back_number n hn r hr2 _).mono ?_
    rintro e w2 ⟨rfl, hb2⟩
    go_wp2_with fail
    refine (text_own t _ HT.out).mono ?_
    rintro e w3 ⟨rfl, hb3⟩
    go_wp2_with fail
    refine (back_text t r ht2 hr2 H.out _).mono ?_
    rintro e w4 ⟨rfl, hb4⟩
    go_wp2_with fail
    refine (HF.out _).mono ?_
    rintro e w5 ⟨rfl, hb5⟩
    go_wp2_with fail
    refine (back_frame t r hr2 H.out _).mono ?_
    rintro e w6 ⟨rfl, hb6⟩
    go_wp2_with fail
    refine (numbers_true _).mono ?_
    rintro e w7 ⟨rfl, hb7⟩
    go_wp2_with fail
    refine (frames_true _).mono ?_
    rintro e w8 ⟨rfl, hb8⟩
    go_wp2
    go_ret
    have s1 := hb1.size
    have s2 := hb2.size
    have s3 := hb3.size
    have s4 := hb4.size
    have s5 := hb5.size
    have s6 := hb6.size
    have s7 := hb7.size
    exact ⟨rfl, ((((((hb1.trans (hb2.mono s1)).trans (hb3.mono (by omega))).trans (hb4.mono (by omega))).trans (hb5.mono (by omega))).trans (hb6.mono (by omega))).trans (hb7.mono (by omega))).trans (hb8.mono (by omega))⟩
end PackLaw3
end Go.Proofs.Ytmhhaajoddkfcaa
