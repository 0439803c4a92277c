/-
  WALK of the law 'cut short'.
-/
import Derived.Test.YtmhhaajoddkfcaaPackLaw3
import Derived.Deep.DeepCutAuto
namespace Go.Proofs.Ytmhhaajoddkfcaa
open Go.RowKit
namespace PackLaw4
open PM PackBytes PackTakeNum PackTakeRef PackRefNum PackText PackChk PackFrame PackTakeFr PackTakeFrRef PackLaw2 PackLaw3

theorem same_of (s : ByteArray) (l : List UInt8) (h : (s.toList == (bs l).toList) = true) : s.data.toList = l := by
  rw [toList_data, bs_toList] at h; simpa using h
theorem cut_data (s : ByteArray) (k : Nat) : (s.extract 0 k).data.toList = s.data.toList.take k := by
  rw [extract_bs, bs_data, Nat.sub_zero, List.drop_zero]
/-- Whichever it is: cut short it ends too soon. -/
theorem short_f (s t : ByteArray) (k : Nat) (ht : ¬ 65536 < t.size) (hk : k < s.size) (h : (s.toList == (bs (frm t.data.toList)).toList) = true) : (((tfW (s.extract 0 k).data.toList : Nat) : Int) != 3) = false := by
  have e := same_of s _ h
  rw [cut_data, e, tf_short _ ht k (by rw [← e]; exact hk)]; rfl
theorem short_t (s t : ByteArray) (k : Nat) (ht : ¬ 65536 < t.size) (hk : k < s.size) (h : (s.toList == (txtB t).toList) = true) : (((ttW (s.extract 0 k).data.toList : Nat) : Int) != 3) = false := by
  have e := same_of s _ h
  rw [cut_data, e, tt_short _ ht k (by rw [← e]; exact hk)]; rfl
theorem short_n (s : ByteArray) (n : Nat) (hn : n < 2 ^ 64) (k : Nat) (hk : k < s.size) (h : (s.toList == (bs (num n)).toList) = true) : (((tnW (s.extract 0 k).data.toList : Nat) : Int) != 3) = false := by
  have e := same_of s _ h
  rw [cut_data, e, tn_short n hn k (by rw [← e]; exact hk)]; rfl

def sel (A B C : ByteArray) (j : Nat) : ByteArray := if j = 0 then A else if j = 1 then B else C
theorem sel_cell (w w' : World) (A B C : ByteArray) (hb : Below (w.heap.size + 1) (w.alloc (.cells #[.string A, .string B, .string C] 9)) w') (j : Nat) (hj : j < 3) :
    w'.cell? ⟨w.heap.size, j, none⟩ = some (.string (sel A B C j)) := by
  rw [hb.cell (by simp)]
  have h := cell_of_row (w.alloc (.cells #[.string A, .string B, .string C] 9)) w.heap.size j #[.string A, .string B, .string C] 9 (0, 0) (heap_alloc_new w _)
  rw [h]
  match j, hj with
  | 0, _ => rfl
  | 1, _ => rfl
  | 2, _ => rfl
theorem sel_size (A B C : ByteArray) (j m : Nat) (h1 : A.size ≤ m) (h2 : B.size ≤ m) (h3 : C.size ≤ m) : (sel A B C j).size ≤ m := by
  unfold sel; split
  · exact h1
  · split <;> assumption

set_option maxRecDepth 100000 in
set_option maxHeartbeats 2000000 in
theorem packShort (x y : Int) (t : ByteArray) (hx : (Lit.int .u64 x).wf = true) (ht : t.data.toList.length ≤ reachBytes) (hy : (Lit.int .i64 y).wf = true) (w : World) :
    Calls Try.prog 9 #[.int .u64 x, .string t, .int .i64 y] w fun e w' => e = .returned (.bool true) ∧ Below w.heap.size w w' := by
  have hx2 : 0 ≤ x ∧ x ≤ 18446744073709551615 := by simpa [Lit.wf, IntKind.min, IntKind.max, IntKind.signed, IntKind.bits] using hx
  have hy2 : -9223372036854775808 ≤ y ∧ y ≤ 9223372036854775807 := by simpa [Lit.wf, IntKind.min, IntKind.max, IntKind.signed, IntKind.bits] using hy
  obtain ⟨n, rfl⟩ := Int.eq_ofNat_of_zero_le hx2.1
  have hn : n < 2 ^ 64 := by omega
  have HT := Lib.hid ht
  have ht2 : t.size ≤ 140737488351232 := ht
  clear hx hx2 ht hy
  by_cases hg : 65536 < t.size ∨ y < 0
  · have g1 : 65536 < t.size ∨ (¬ 65536 < t.size ∧ y < 0) := by omega
    clear hg
    rcases g1 with g | ⟨g, g2⟩
    · have g3 : (65536 : Int) < (t.size : Int) := by omega
      go_enter Try.func9, Try.ntmps9
      go_wp2_with fail
      refine (numbers_true _).mono ?_
      rintro e w1 ⟨rfl, hb1⟩
      go_wp2_with fail
      refine (frames_true _).mono ?_
      rintro e w2 ⟨rfl, hb2⟩
      go_wp2_with fail
      refine (numbers_true _).mono ?_
      rintro e w3 ⟨rfl, hb3⟩
      go_wp2_with fail
      refine (frames_true _).mono ?_
      rintro e w4 ⟨rfl, hb4⟩
      go_wp2
      go_ret
      have s1 := hb1.size
      have s2 := hb2.size
      have s3 := hb3.size
      exact ⟨rfl, ((hb1.trans (hb2.mono s1)).trans (hb3.mono (by omega))).trans (hb4.mono (by omega))⟩
    · have g3 : decide ((65536 : Int) < (t.size : Int)) = false := by simp; omega
      go_enter Try.func9, Try.ntmps9
      go_wp2_with fail
      refine (numbers_true _).mono ?_
      rintro e w1 ⟨rfl, hb1⟩
      go_wp2_with fail
      refine (frames_true _).mono ?_
      rintro e w2 ⟨rfl, hb2⟩
      go_wp2_with fail
      refine (numbers_true _).mono ?_
      rintro e w3 ⟨rfl, hb3⟩
      go_wp2_with fail
      refine (frames_true _).mono ?_
      rintro e w4 ⟨rfl, hb4⟩
      go_wp2
      go_ret
      have s1 := hb1.size
      have s2 := hb2.size
      have s3 := hb3.size
      exact ⟨rfl, ((hb1.trans (hb2.mono s1)).trans (hb3.mono (by omega))).trans (hb4.mono (by omega))⟩
  · have g : ¬ 65536 < t.size := by omega
    have g3 : decide ((65536 : Int) < (t.size : Int)) = false := by simp; omega
    obtain ⟨k, rfl⟩ := Int.eq_ofNat_of_zero_le (show 0 ≤ y by omega)
    have g4 : decide ((k : Int) < 0) = false := by simp
    have hk : (k : Int) ≤ 9223372036854775807 := hy2.2
    have e1 : frS t = bs (frm t.data.toList) := by unfold frS; rw [if_neg g]
    have e2 : frW t = 0 := by unfold frW; rw [if_neg g]
    have hf := fun w => frame_own t w (by unfold maxLen; omega)
    unfold Framed at hf
    rw [e1, e2] at hf
    have HF := Lib.hid hf
    have G := Lib.hid g
    have za : (bs (num n)).size ≤ 70000 := by rw [bs_size, num_length]; have := (nsz_spec n hn).1; omega
    have zb : (txtB t).size ≤ 70000 := by unfold txtB txt; rw [bs_size, List.length_append, num_length, size_length]; have := (nsz_spec t.size (by omega)).1; omega
    have zc : (bs (frm t.data.toList)).size ≤ 70000 := by rw [bs_size, frm_length, size_length]; omega
    have HZ := Lib.hid (fun j => sel_size _ _ _ j 70000 za zb zc)
    clear hg hf e1 e2 g hy2 za zb zc
    go_enter Try.func9, Try.ntmps9
    go_wp2_with fail
    refine (numbers_true _).mono ?_
    rintro e w1 ⟨rfl, hb1⟩
    go_wp2_with fail
    refine (frames_true _).mono ?_
    rintro e w2 ⟨rfl, hb2⟩
    go_wp2_with fail
    refine (HF.out _).mono ?_
    rintro e w3 ⟨rfl, hb3⟩
    go_wp2_with fail
    refine (number_own n _ hn).mono ?_
    rintro e w4 ⟨rfl, hb4⟩
    go_wp2_with fail
    refine (text_own t _ HT.out).mono ?_
    rintro e w5 ⟨rfl, hb5⟩
    have HB : Hid (Below w.heap.size w w5) := by
      have s1 := hb1.size
      have s2 := hb2.size
      have s3 := hb3.size
      have s4 := hb4.size
      exact (((hb1.trans (hb2.mono s1)).trans (hb3.mono (by omega))).trans (hb4.mono (by omega))).trans (hb5.mono (by omega))
    clear hb1 hb2 hb3 hb4 hb5
    go_wp2
    go_loopg [51] 3 (fun g i wx => ∃ j : Nat, j + g = 3 ∧ i = .int .i64 j ∧ Below (w5.heap.size + 1) (w5.alloc (.cells #[.string (bs (num n)), .string (txtB t), .string (bs (frm t.data.toList))] 9)) wx)
    case atStart => exact ⟨0, by omega, rfl, Below.refl _ _⟩
    case round =>
      obtain ⟨j, hjg, rfl, hbx⟩ := hrel
      cases gk with
      | zero =>
        obtain rfl : j = 3 := by omega
        have t1 : ((3 : Nat) : Int) = 3 := rfl
        have HX := Lib.hid hbx
        clear hjg hbx
        go_wp2
        go_ret
        exact ⟨rfl, (HB.out.trans (((Below.refl _ _).alloc (Nat.le_refl _) _).mono HB.out.size)).trans (HX.out.mono (by have := HB.out.size; omega))⟩
      | succ g =>
        have hj : j < 3 := by omega
        have hcell := sel_cell w5 wr _ _ _ hbx j hj
        have hz := HZ.out j
        have HG := Lib.hid hjg
        have HX := Lib.hid hbx
        clear hjg hbx
        generalize sel (bs (num n)) (txtB t) (bs (frm t.data.toList)) j = s at *
        by_cases hks : s.size ≤ k
        · have t2 : (s.size : Int) ≤ (k : Int) := by omega
          go_wp2
          go_roundg g
          case measure => omega
          case rel => exact ⟨j + 1, by have := HG.out; omega, by go_num, HX.out⟩
        · have t2 : k < s.size := by omega
          have t3 : k ≤ s.size := by omega
          have HE : Hid ((s.extract 0 k).size ≤ maxLen) := by
            show _ ≤ _
            rw [extract_bs, bs_size, List.length_take]; unfold maxLen; omega
          have F1 := Lib.hid (short_f s t k G.out (by omega))
          have F2 := Lib.hid (short_t s t k G.out (by omega))
          have F3 := Lib.hid (short_n s n hn k (by omega))
          have hrun := fun w => take_own (s.extract 0 k) w HE.out
          unfold Took at hrun
          have H1 := Lib.hid hrun
          have hrun2 := fun w => takeText_own (s.extract 0 k) w HE.out
          unfold TookT at hrun2
          have H2 := Lib.hid hrun2
          have hrun3 := fun w => takeFrame_own (s.extract 0 k) w HE.out
          unfold TookF at hrun3
          have H3 := Lib.hid hrun3
          clear hrun hrun2 hrun3 hks
          generalize tnN (s.extract 0 k).data.toList = a1 at *
          generalize tnR (s.extract 0 k).data.toList = a2 at *
          generalize tnW (s.extract 0 k).data.toList = a3 at *
          generalize ttT (s.extract 0 k).data.toList = b1 at *
          generalize ttR (s.extract 0 k).data.toList = b2 at *
          generalize ttW (s.extract 0 k).data.toList = b3 at *
          generalize tfP (s.extract 0 k).data.toList = c1 at *
          generalize tfR (s.extract 0 k).data.toList = c2 at *
          generalize tfW (s.extract 0 k).data.toList = c3 at *
          go_wp2_with fail
          refine (H1.out _).mono ?_
          rintro e v1 ⟨rfl, hc1⟩
          go_wp2_with fail
          refine (H2.out _).mono ?_
          rintro e v2 ⟨rfl, hc2⟩
          go_wp2_with fail
          refine (H3.out _).mono ?_
          rintro e v3 ⟨rfl, hc3⟩
          have HC : Hid (Below (w5.heap.size + 1) (w5.alloc (.cells #[.string (bs (num n)), .string (txtB t), .string (bs (frm t.data.toList))] 9)) v3) := by
            have s0 := HX.out.size
            have s1 := hc1.size
            have s2 := hc2.size
            simp at s0
            exact ((HX.out.trans (hc1.mono (by omega))).trans (hc2.mono (by omega))).trans (hc3.mono (by omega))
          clear hc1 hc2 hc3
          go_upto_region 11 with fail
          go_cut [109] (fun s109 wx => s109 = .bool false ∧ Below v3.heap.size v3 wx)
          case first =>
            have Q1 : (s.toList == (bs (frm t.data.toList)).toList) = false ∨ ((s.toList == (bs (frm t.data.toList)).toList) = true ∧ ((c3 : Int) != 3) = false) := by
              cases hb : (s.toList == (bs (frm t.data.toList)).toList)
              · exact .inl rfl
              · exact .inr ⟨rfl, F1.out hb⟩
            have Q2 : (s.toList == (txtB t).toList) = false ∨ ((s.toList == (txtB t).toList) = true ∧ ((b3 : Int) != 3) = false) := by
              cases hb : (s.toList == (txtB t).toList)
              · exact .inl rfl
              · exact .inr ⟨rfl, F2.out hb⟩
            have Q3 : (s.toList == (bs (num n)).toList) = false ∨ ((s.toList == (bs (num n)).toList) = true ∧ ((a3 : Int) != 3) = false) := by
              cases hb : (s.toList == (bs (num n)).toList)
              · exact .inl rfl
              · exact .inr ⟨rfl, F3.out hb⟩
            rcases Q1 with q1 | ⟨q1, r1⟩
            all_goals rcases Q2 with q2 | ⟨q2, r2⟩
            all_goals rcases Q3 with q3 | ⟨q3, r3⟩
            all_goals (
              go_wp2_with fail
              refine (text_own t _ HT.out).mono ?_
              rintro e v4 ⟨rfl, hd1⟩
              go_wp2_with fail
              refine (number_own n _ hn).mono ?_
              rintro e v5 ⟨rfl, hd2⟩
              go_wp2_with fail
              go_meet
              exact ⟨rfl, hd1.trans (hd2.mono hd1.size)⟩)
          case rest =>
            obtain ⟨rfl, hd⟩ := hcut
            go_wp2
            go_roundg g
            case measure => omega
            case rel =>
              refine ⟨j + 1, by have := HG.out; omega, by go_num, HC.out.trans (hd.mono ?_)⟩
              have := HC.out.size
              simpa using this
end PackLaw4
end Go.Proofs.Ytmhhaajoddkfcaa
