/-
  THE WALK of SnapOthers.
-/
import Derived.Test.YtgahilemlnoabaaSnB
namespace Go.Proofs.Ytgahilemlnoabaa
open Go.RowKit Go.Lib Go.Sort
namespace Dk
open Hd (OwnI Bx4)
theorem rd_eq {fs gs : List Fl} {nm : ByteArray} (h0 : chkN fs = 0) (h1 : chkN gs = 0) (hl : look gs nm = look fs nm) : rdS gs false nm = rdS fs false nm ∧ rdE gs false nm = rdE fs false nm := by
  cases hf : look fs nm with
  | none =>
    rw [hf] at hl
    obtain ⟨a1, a2⟩ := rd_none h0 hf
    obtain ⟨b1, b2⟩ := rd_none h1 hl
    exact ⟨b1.trans a1.symm, b2.trans a2.symm⟩
  | some f =>
    rw [hf] at hl
    obtain ⟨a1, a2⟩ := rd_some h0 hf
    obtain ⟨b1, b2⟩ := rd_some h1 hl
    exact ⟨b1.trans a1.symm, b2.trans a2.symm⟩
theorem rd_dn {fs : List Fl} {nm : ByteArray} (h0 : chkN fs = 0) : rdE fs true nm = 8 := by
  unfold rdE rdN
  rw [if_pos h0]
  rfl
theorem ls_dn {fs : List Fl} (h0 : chkN fs = 0) : lsE fs true = 8 := by
  unfold lsE
  rw [rd_dn h0]; rfl
theorem out_dn {fs ch : List Fl} {fu : Int} {r : Nat} {ad : Bool} (h : chkN fs = 0) : (outO fs false fu r ch ad).r = 8 ∨ (outO fs false fu r ch ad).dn = false := by
  rw [outO_up h]
  split
  · split
    · exact .inl rfl
    · exact .inr rfl
  · exact .inr rfl
theorem seq_dn (S : Nat) (hS : 70000 ≤ S) (fs : List Fl) (da : ByteArray) (hda : da.size ≤ 70000) (fu : Int) (h0 : chkN fs = 0) (hs : ∀ f ∈ fs, f.da.size ≤ S) (hlo : -9223372036854775808 ≤ fu) (hhi : fu ≤ 9223372036854775807) :
    (seqO nSn nSt da fs false fu 4).r = 8 ∨ (seqO nSn nSt da fs false fu 4).dn = false := by
  obtain ⟨q1, q2, q3, q4⟩ := sq_all S hS fs da hda fu h0 hs hlo hhi
  have h1 : (seqO nSn nSt da fs false fu 1).r = 8 ∨ (seqO nSn nSt da fs false fu 1).dn = false := by
    rw [seq_succ]
    show (thenO ⟨fs, false, fu, 0⟩ (stp nSn nSt da 0)).r = 8 ∨ (thenO ⟨fs, false, fu, 0⟩ (stp nSn nSt da 0)).dn = false
    rw [thenO_ok rfl]
    show (rw1 nSt fs false fu).r = 8 ∨ (rw1 nSt fs false fu).dn = false
    unfold rw1
    split
    · exact .inr rfl
    · exact out_dn h0
  have h2 : (seqO nSn nSt da fs false fu 2).r = 8 ∨ (seqO nSn nSt da fs false fu 2).dn = false := by
    rw [seq_succ]
    by_cases hr : (seqO nSn nSt da fs false fu 1).r = 0
    · rw [thenO_ok hr]
      show (addO _ _ _ _ _).r = 8 ∨ (addO _ _ _ _ _).dn = false
      rw [q1.up hr]
      exact out_dn q1.chk
    · rw [thenO_bad hr]; exact h1
  have h3 : (seqO nSn nSt da fs false fu 3).r = 8 ∨ (seqO nSn nSt da fs false fu 3).dn = false := by
    rw [seq_succ]
    by_cases hr : (seqO nSn nSt da fs false fu 2).r = 0
    · rw [thenO_ok hr]
      show (synO _ _ _ _).r = 8 ∨ (synO _ _ _ _).dn = false
      rw [q2.up hr]
      exact out_dn q2.chk
    · rw [thenO_bad hr]; exact h2
  rw [seq_succ]
  by_cases hr : (seqO nSn nSt da fs false fu 3).r = 0
  · rw [thenO_ok hr]
    show (swpO _ _ _ _ _).r = 8 ∨ (swpO _ _ _ _ _).dn = false
    rw [q3.up hr]
    exact out_dn q3.chk
  · rw [thenO_bad hr]; exact h3
/-- What a save at a right disk comes to, and what any other file is read as behind it. -/
theorem save_other (dv : Value) (dn : Bool) (fu : Int) (fs : List Fl) (i t : Nat) (v : Value) (ks : List Int) (d nm : ByteArray) (hi : i < 2 ^ 64) (ht : t < 2 ^ 64) (h0 : chkN fs = 0) (hs : ∀ f ∈ fs, f.da.size ≤ 140737488355328) (hlo : -9223372036854775808 ≤ fu) (hhi : fu ≤ 9223372036854775807) (h1 : nm ≠ nSn) (h2 : nm ≠ nSt) :
    ∃ O : Out, (∀ z : World, Files z z.heap.size dv fs → Ints z z.heap.size v ks → Calls Try.prog 18 #[.agg #[dv, .bool dn, .int .i64 fu], .agg #[.int .u64 (i : Nat), .int .u64 (t : Nat), v, .string d]] z (DoW z (.slice none 0 0) O.fs O.dn O.fu O.r)) ∧
      (O.r = 8 ∨ (rdS O.fs O.dn nm = rdS fs dn nm ∧ rdE O.fs O.dn nm = rdE fs dn nm)) := by
  by_cases hsv : svE fs dn i t ks d = 0
  · have hc : Hd.chkS i t ks d = 0 := by
      unfold svE at hsv
      by_cases hc : Hd.chkS i t ks d = 0
      · exact hc
      · rw [if_neg hc] at hsv; omega
    have hr : rfN fs dn i = 0 := by unfold svE at hsv; rw [if_pos hc] at hsv; exact hsv
    have hl : lsE fs dn = 0 := by
      unfold rfN at hr
      by_cases hl : lsE fs dn = 0
      · exact hl
      · rw [if_pos hl] at hr; exact absurd hr hl
    have hdn : dn = false := by
      cases dn
      · rfl
      · rw [ls_dn h0] at hl; omega
    subst hdn
    have hR := rs_of hi ht hc
    have hda := snC_size hR
    have hq := (sq_all 140737488355328 (by omega) fs _ hda fu h0 hs hlo hhi).2.2.2
    have hd := seq_dn 140737488355328 (by omega) fs _ hda fu h0 hs hlo hhi
    refine ⟨seqO nSn nSt (snC i t (ks.map Int.toNat) d) fs false fu 4, fun z hf hk => save_any 140737488355328 (by omega) (by omega) dv fs fu h0 hs hlo hhi i t v ks d hi ht hc hr z hf hk, ?_⟩
    rcases hd with e | e
    · exact .inl e
    · refine .inr ?_
      rw [e]
      exact rd_eq h0 hq.chk (hq.other nm h2 h1)
  · refine ⟨⟨fs, dn, fu, svE fs dn i t ks d⟩, fun z hf hk => ?_, .inr ⟨rfl, rfl⟩⟩
    have h := save_no dv dn fu fs i t v ks d z hf hk hi ht hsv
    have e : nonO fs dn fu = ⟨fs, dn, fu, 0⟩ := by unfold nonO; rw [if_pos h0]
    rw [e] at h
    exact h
set_option maxRecDepth 100000 in
set_option maxHeartbeats 4000000 in
theorem snapOthers (dv : Value) (dn : Bool) (fu : Int) (fs : List Fl) (i t : Nat) (v : Value) (ks : List Int) (d nm : ByteArray) (hi : i < 2 ^ 64) (ht : t < 2 ^ 64) (hs : ∀ f ∈ fs, f.da.size ≤ 140737488355328) (hlo : -9223372036854775808 ≤ fu) (hhi : fu ≤ 9223372036854775807) (w : World) (hf : Files w w.heap.size dv fs) (hk : Ints w w.heap.size v ks) :
    Calls Try.prog 7 #[.agg #[dv, .bool dn, .int .i64 fu], .agg #[.int .u64 (i : Nat), .int .u64 (t : Nat), v, .string d], .string nm] w fun e w' => e = .returned (.bool true) ∧ Below w.heap.size w w' := by
  have hch := fun x hx => check_own dv dn fu fs x hx
  have hr1 := fun x hx => read_own dv dn fu fs nm x hx
  have hso := fun h0 h1 h2 => save_other dv dn fu fs i t v ks d nm hi ht h0 hs hlo hhi h1 h2
  have hxx : ∀ va vn vc a n c, v = .slice va vn vc → dv = .slice a n c → ∀ z, Below ((w.alloc (.cells #[.slice a n c, .bool dn, .int .i64 fu] 37)).alloc (.cells #[.int .u64 (i : Nat), .int .u64 (t : Nat), .slice va vn vc, .string d] 25)).heap.size ((w.alloc (.cells #[.slice a n c, .bool dn, .int .i64 fu] 37)).alloc (.cells #[.int .u64 (i : Nat), .int .u64 (t : Nat), .slice va vn vc, .string d] 25)) z → Below w.heap.size w z ∧ Ints z z.heap.size v ks ∧ Files z z.heap.size dv fs ∧ Dx w.heap.size z dv dn fu ∧ Bx4 z (w.heap.size + 1) (.int .u64 (i : Nat)) (.int .u64 (t : Nat)) v (.string d) := by
    intro va vn vc a n c hv hd z hb
    subst hv hd
    have h0 : Below w.heap.size w z := (((Below.refl _ w).alloc (Nat.le_refl _) _).alloc (by simp) _).trans (hb.mono (by simp; omega))
    have h1 := Bx4.made (w.alloc (.cells #[.slice a n c, .bool dn, .int .i64 fu] 37)) (.int .u64 (i : Nat)) (.int .u64 (t : Nat)) (.slice va vn vc) (.string d) 25
    rw [World.size_alloc] at h1
    exact ⟨h0, hk.on h0, hf.on h0 h0.size, ((Dx.made w (.slice a n c) dn fu).keep ((Below.refl _ _).alloc (Nat.le_refl _) _) (by simp)).keep hb (by simp; omega), h1.below hb⟩
  obtain ⟨a, c, rfl⟩ := files_slice hf
  obtain ⟨va, vc, rfl, -⟩ := hk
  generalize fs.length = n at *
  generalize ks.length = vn at *
  have HX := Lib.hid (hxx va vn vc a n c rfl rfl)
  have HLV := Lib.hid (fun x => slives x)
  clear hxx hf hs
  unfold ReadIs at hr1
  by_cases h1 : nm = nSn
  · subst h1
    have e1 := tH
    generalize nSn = nm at *
    clear hso hr1 hch
    go_enter Try.func7, Try.ntmps7
    go_wp2_with (go_at_call 12; go_loud ((with_reducible refine (HLV.out _).mono ?_); rintro e w1 ⟨rfl, hb⟩; have K1 := Lib.hid hb; clear hb; obtain ⟨-, -, -, ⟨d0, d1, d2, -, -, -⟩, -⟩ := HX.out _ K1.out))
    go_wp2
    go_ret
    exact ⟨rfl, (HX.out _ K1.out).1⟩
  · have n1 : ¬ nm.toList = [115, 110, 97, 112] := fun e => h1 (by rw [← tH] at e; rw [ByteArray.toList_eq, ByteArray.toList_eq] at e; exact ByteArray.ext (Array.ext' e))
    have n1' : (nm.toList == [115, 110, 97, 112]) = false := by rw [beq_eq_false_iff_ne]; exact n1
    by_cases h2 : nm = nSt
    · subst h2
      have e1 := tT
      clear hso hr1 hch h1
      generalize nSt = nm at *
      go_enter Try.func7, Try.ntmps7
      go_wp2_with (go_at_call 12; go_loud ((with_reducible refine (HLV.out _).mono ?_); rintro e w1 ⟨rfl, hb⟩; have K1 := Lib.hid hb; clear hb; obtain ⟨-, -, -, ⟨d0, d1, d2, -, -, -⟩, -⟩ := HX.out _ K1.out))
      go_wp2
      go_ret
      exact ⟨rfl, (HX.out _ K1.out).1⟩
    · have n2 : ¬ nm.toList = [115, 110, 97, 112, 46, 116, 109, 112] := fun e => h2 (by rw [← tT] at e; rw [ByteArray.toList_eq, ByteArray.toList_eq] at e; exact ByteArray.ext (Array.ext' e))
      have n2' : (nm.toList == [115, 110, 97, 112, 46, 116, 109, 112]) = false := by rw [beq_eq_false_iff_ne]; exact n2
      by_cases h0 : chkN fs = 0
      · obtain ⟨O, hsv, hor⟩ := hso h0 h1 h2
        have hr2 := fun a2 c2 x hx => read_own (.slice a2 O.fs.length c2) O.dn O.fu O.fs nm x hx
        unfold ReadIs at hr2
        rw [h0] at hch
        rcases O with ⟨fs2, dn2, fu2, r⟩
        simp only at hsv hor hr2
        have HCH := Lib.hid hch
        have HSV := Lib.hid hsv
        have HR1 := Lib.hid hr1
        clear hch hsv hr1 hso h0 h1 h2
        by_cases h8 : r = 8
        · subst h8
          have HR2 := Lib.hid hr2
          clear hr2 hor
          generalize rdS fs dn nm = q1 at *
          generalize rdE fs dn nm = e1 at *
          generalize rdS fs2 dn2 nm = q2 at *
          generalize rdE fs2 dn2 nm = e2 at *
          go_enter Try.func7, Try.ntmps7
          go_wp2_with (go_at_call 12; go_loud ((with_reducible refine (HLV.out _).mono ?_); rintro e w1 ⟨rfl, hb⟩; have K1 := Lib.hid hb; clear hb; obtain ⟨-, -, -, ⟨d0, d1, d2, -, -, -⟩, -⟩ := HX.out _ K1.out))
          go_wp2_with (go_at_call 20; go_loud ((with_reducible refine (HCH.out _ (HX.out _ K1.out).2.2.1).mono ?_); rintro e w2 ⟨rfl, hb⟩; have K2 := Lib.hid (K1.out.trans (hb.mono K1.out.size)); clear hb d0 d1 d2; obtain ⟨-, -, -, ⟨d0, d1, d2, -, -, -⟩, -⟩ := HX.out _ K2.out))
          go_wp2_with (go_at_call 21; go_loud ((with_reducible refine (HR1.out _ (HX.out _ K2.out).2.2.1).mono ?_); rintro e w3 ⟨rfl, hb⟩; have K3 := Lib.hid (K2.out.trans (hb.mono K2.out.size)); clear hb d0 d1 d2; obtain ⟨-, -, -, ⟨d0, d1, d2, -, -, -⟩, hbx⟩ := HX.out _ K3.out; obtain ⟨s0, s1, s2, s3⟩ := hbx.cells; clear hbx))
          go_wp2_with (go_at_call 18; go_loud ((with_reducible refine (HSV.out _ (HX.out _ K3.out).2.2.1 (HX.out _ K3.out).2.1).mono ?_); rintro e w4 ⟨v4, rfl, hf4, -, hb⟩; obtain ⟨a4, c4, rfl⟩ := files_slice hf4; have K4 := Lib.hid ((K3.out.trans (hb.mono K3.out.size)).alloc (Nat.le_trans K3.out.size hb.size) (.cells #[.slice a4 fs2.length c4, .bool dn2, .int .i64 fu2] 37)); have F4 := Lib.hid (hf4.al (.cells #[.slice a4 fs2.length c4, .bool dn2, .int .i64 fu2] 37)); have D4 := Lib.hid (Dx.made w4 (.slice a4 fs2.length c4) dn2 fu2); clear hb hf4 d0 d1 d2 s0 s1 s2 s3; obtain ⟨d0, d1, d2, -, -, -⟩ := D4.out))
          go_wp2_with (go_at_call 21; go_loud ((with_reducible refine (HR2.out _ _ _ F4.out).mono ?_); rintro e w5 ⟨rfl, hb⟩; have K5 := Lib.hid (K4.out.trans (hb.mono K4.out.size)); clear hb))
          go_wp2
          go_ret
          exact ⟨rfl, (HX.out _ K5.out).1⟩
        · have hor2 := hor.resolve_left h8
          rw [hor2.1, hor2.2] at hr2
          have HR2 := Lib.hid hr2
          have n8 : ¬ ((r : Int) = 8) := by omega
          have n8' : ((r : Int) == 8) = false := by simp; omega
          clear hr2 hor hor2 h8
          generalize rdS fs dn nm = q1 at *
          generalize rdE fs dn nm = e1 at *
          go_enter Try.func7, Try.ntmps7
          go_wp2_with (go_at_call 12; go_loud ((with_reducible refine (HLV.out _).mono ?_); rintro e w1 ⟨rfl, hb⟩; have K1 := Lib.hid hb; clear hb; obtain ⟨-, -, -, ⟨d0, d1, d2, -, -, -⟩, -⟩ := HX.out _ K1.out))
          go_wp2_with (go_at_call 20; go_loud ((with_reducible refine (HCH.out _ (HX.out _ K1.out).2.2.1).mono ?_); rintro e w2 ⟨rfl, hb⟩; have K2 := Lib.hid (K1.out.trans (hb.mono K1.out.size)); clear hb d0 d1 d2; obtain ⟨-, -, -, ⟨d0, d1, d2, -, -, -⟩, -⟩ := HX.out _ K2.out))
          go_wp2_with (go_at_call 21; go_loud ((with_reducible refine (HR1.out _ (HX.out _ K2.out).2.2.1).mono ?_); rintro e w3 ⟨rfl, hb⟩; have K3 := Lib.hid (K2.out.trans (hb.mono K2.out.size)); clear hb d0 d1 d2; obtain ⟨-, -, -, ⟨d0, d1, d2, -, -, -⟩, hbx⟩ := HX.out _ K3.out; obtain ⟨s0, s1, s2, s3⟩ := hbx.cells; clear hbx))
          go_wp2_with (go_at_call 18; go_loud ((with_reducible refine (HSV.out _ (HX.out _ K3.out).2.2.1 (HX.out _ K3.out).2.1).mono ?_); rintro e w4 ⟨v4, rfl, hf4, -, hb⟩; obtain ⟨a4, c4, rfl⟩ := files_slice hf4; have K4 := Lib.hid ((K3.out.trans (hb.mono K3.out.size)).alloc (Nat.le_trans K3.out.size hb.size) (.cells #[.slice a4 fs2.length c4, .bool dn2, .int .i64 fu2] 37)); have F4 := Lib.hid (hf4.al (.cells #[.slice a4 fs2.length c4, .bool dn2, .int .i64 fu2] 37)); have D4 := Lib.hid (Dx.made w4 (.slice a4 fs2.length c4) dn2 fu2); clear hb hf4 d0 d1 d2 s0 s1 s2 s3; obtain ⟨d0, d1, d2, -, -, -⟩ := D4.out))
          go_wp2_with (go_at_call 21; go_loud ((with_reducible refine (HR2.out _ _ _ F4.out).mono ?_); rintro e w5 ⟨rfl, hb⟩; have K5 := Lib.hid (K4.out.trans (hb.mono K4.out.size)); clear hb))
          go_wp2
          go_ret
          exact ⟨rfl, (HX.out _ K5.out).1⟩
      · have h10 := (chk_two fs).resolve_left h0
        rw [h10] at hch
        have HCH := Lib.hid hch
        clear hch hr1 hso h0 h10 h1 h2
        go_enter Try.func7, Try.ntmps7
        go_wp2_with (go_at_call 12; go_loud ((with_reducible refine (HLV.out _).mono ?_); rintro e w1 ⟨rfl, hb⟩; have K1 := Lib.hid hb; clear hb; obtain ⟨-, -, -, ⟨d0, d1, d2, -, -, -⟩, -⟩ := HX.out _ K1.out))
        go_wp2_with (go_at_call 20; go_loud ((with_reducible refine (HCH.out _ (HX.out _ K1.out).2.2.1).mono ?_); rintro e w2 ⟨rfl, hb⟩; have K2 := Lib.hid (K1.out.trans (hb.mono K1.out.size)); clear hb d0 d1 d2; obtain ⟨-, -, -, ⟨d0, d1, d2, -, -, -⟩, -⟩ := HX.out _ K2.out))
        go_wp2
        go_ret
        exact ⟨rfl, (HX.out _ K2.out).1⟩
end Dk
end Go.Proofs.Ytgahilemlnoabaa
