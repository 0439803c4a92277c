/-
  The document's Add: its ways.
-/
import Derived.Test.YtohhiheebhcgeaaDiskRf4
namespace Go.Proofs.Ytohhiheebhcgeaa
open Go.RowKit Go.Lib Go.Sort
namespace Dk

set_option maxRecDepth 100000 in
set_option maxHeartbeats 1500000 in
theorem addr_bad (v : Value) (fs : List Fl) (dn : Bool) (fu : Int) (nm da : ByteArray) (_hlo : -9223372036854775808 ≤ fu) (_hhi : fu ≤ 9223372036854775807) (h40 : fs.length * 40 ≤ 140737488355328) (hr0 : rdN fs dn ≠ 0) (w : World) (hv : Files w w.heap.size v fs) :
    Calls Try.prog 13 #[.agg #[v, .bool dn, .int .i64 fu], .string nm, .string da] w (DoIs w (addO fs dn fu nm da).fs (addO fs dn fu nm da).dn (addO fs dn fu nm da).fu (addO fs dn fu nm da).r) := by
  have HV := Lib.hid hv
  obtain ⟨a, c, rfl, -⟩ := hv
  have HR0 := Lib.hid (R2.made (dn := dn) (fu := fu) HV.out)
  have hready := ready_ref _ dn fu fs _ HR0.out.st.files
  rw [show addO fs dn fu nm da = badO fs dn fu (rdN fs dn) from outO_bad hr0]
  have HFD : Hid (∀ w1, Files w1 w1.heap.size (.slice a fs.length c) fs → Calls Try.prog 34 #[.agg #[.slice a fs.length c, .bool dn, .int .i64 fu], .string nm] w1 fun e w' => e = .returned (.int .i64 (ixZ fs nm)) ∧ Below w1.heap.size w1 w') := fun w1 hf => by
    have := find_ref _ dn fu fs nm w1 hf
    skip
    exact this
  have HBD : Hid (∀ w1, Files w1 w1.heap.size (.slice a fs.length c) fs → Calls Try.prog 36 #[.agg #[.slice a fs.length c, .bool dn, .int .i64 fu], .int .i64 (rdN fs dn : Nat)] w1 (DoIs w1 (badO fs dn fu (rdN fs dn : Nat)).fs (badO fs dn fu (rdN fs dn : Nat)).dn (badO fs dn fu (rdN fs dn : Nat)).fu (badO fs dn fu (rdN fs dn : Nat)).r)) := fun w1 hf => bad_ref _ dn fu fs (rdN fs dn : Nat) w1 hf h40
  generalize badO fs dn fu (rdN fs dn : Nat) = B at *
  rcases B with ⟨bf, bd, bu, br⟩
  simp only at HBD
  simp only
  unfold DoIs
  have t1 : ¬ ((rdN fs dn : Nat) : Int) = 0 := by omega
  have t2 : (((rdN fs dn : Nat) : Int) == 0) = false := by simpa using t1
  generalize rdN fs dn = rd at *
  generalize ixZ fs nm = iz at *
  go_enter Try.func13, Try.ntmps13
  go_wp2_with (go_at_call 33; go_loud (refine hready.mono ?_; rintro e w1 ⟨rfl, hb⟩; obtain ⟨hR, d0, d1, d2, ⟨e0, e1, e2, g0, g1, g2⟩, hlt⟩ := HR0.out.fill hb; have HR1 := Lib.hid hR; clear hb hR))
  go_wp2_with (go_at_call 34; go_loud (refine (HFD.out _ HR1.out.st.files).mono ?_; rintro e w2 ⟨rfl, hb⟩; obtain ⟨hR, d0, d1, d2, ⟨e0, e1, e2, g0, g1, g2⟩, hlt⟩ := HR1.out.fill hb; have HR2 := Lib.hid hR; have hlt0 : w.heap.size < w2.heap.size := (by omega); clear hb hR))
  go_wp2_with (go_at_call 36; go_loud (refine (HBD.out _ HR2.out.st.files).mono ?_; rintro e w9 ⟨v9, rfl, hown, hb⟩; obtain ⟨a9, c9, rfl⟩ := hown.slice; have HO9 := Lib.hid (hown.le HR2.out.sz); have HB9 := Lib.hid (HR2.out.st.below.trans (hb.mono HR2.out.st.below.size)); obtain ⟨-, -, -, -, ⟨e0, e1, e2, g0, g1, g2⟩, hlt⟩ := HR2.out.fill hb; clear hown hb))
  refine bodyPost_disk rfl (w.heap.size + 1) (.slice a9 bf.length c9) bd bu rfl rfl ?_ ?_ ?_ ?_
  case refine_1 => go_simp
  case refine_2 => go_simp
  case refine_3 => go_simp
  case refine_4 =>
    refine ⟨_, rfl, Own.le (base := w.heap.size + 2) ?_ (by omega), ?_⟩
    · repeat (first | exact HO9.out | refine Own.sb ?_ (show w.heap.size + 1 < w.heap.size + 2 by omega) _ | refine Own.al ?_ _)
    · repeat (first | exact HB9.out | refine bset ?_ (show w.heap.size ≤ w.heap.size + 1 by omega) _ | refine Below.alloc ?_ (by simp; omega) _)

set_option maxRecDepth 100000 in
set_option maxHeartbeats 1500000 in
theorem addr_name (v : Value) (fs : List Fl) (fu : Int) (nm da : ByteArray) (_hlo : -9223372036854775808 ≤ fu) (_hhi : fu ≤ 9223372036854775807) (h40 : fs.length * 40 ≤ 140737488355328) (h0 : chkN fs = 0) (hm : nmOk nm = false) (w : World) (hv : Files w w.heap.size v fs) :
    Calls Try.prog 13 #[.agg #[v, .bool false, .int .i64 fu], .string nm, .string da] w (DoIs w (addO fs false fu nm da).fs (addO fs false fu nm da).dn (addO fs false fu nm da).fu (addO fs false fu nm da).r) := by
  have HV := Lib.hid hv
  obtain ⟨a, c, rfl, -⟩ := hv
  have HR0 := Lib.hid (R2.made (dn := false) (fu := fu) HV.out)
  have hready := ready_ref _ false fu fs _ HR0.out.st.files
  rw [show rdN fs false = 0 from (rd_zero h0)] at hready
  rw [show addO fs false fu nm da = badO fs false fu 5 by unfold addO; rw [show raN fs.length nm (hasN fs nm) = 5 by unfold raN; rw [hm]; rfl]; exact outO_ref h0 (by omega) (by omega)]
  have HFD : Hid (∀ w1, Files w1 w1.heap.size (.slice a fs.length c) fs → Calls Try.prog 34 #[.agg #[.slice a fs.length c, .bool false, .int .i64 fu], .string nm] w1 fun e w' => e = .returned (.int .i64 (ixZ fs nm)) ∧ Below w1.heap.size w1 w') := fun w1 hf => by
    have := find_ref _ false fu fs nm w1 hf
    skip
    exact this
  have HNM : Hid (∀ w1, Calls Try.prog 35 #[.string nm] w1 fun e w' => e = .returned (.bool false) ∧ w' = w1) := fun w1 => by
    have := name_ref nm w1
    rw [hm] at this
    exact this
  have HBD : Hid (∀ w1, Files w1 w1.heap.size (.slice a fs.length c) fs → Calls Try.prog 36 #[.agg #[.slice a fs.length c, .bool false, .int .i64 fu], .int .i64 5] w1 (DoIs w1 (badO fs false fu 5).fs (badO fs false fu 5).dn (badO fs false fu 5).fu (badO fs false fu 5).r)) := fun w1 hf => bad_ref _ false fu fs 5 w1 hf h40
  generalize badO fs false fu 5 = B at *
  rcases B with ⟨bf, bd, bu, br⟩
  simp only at HBD
  simp only
  unfold DoIs
  generalize ixZ fs nm = iz at *
  go_enter Try.func13, Try.ntmps13
  go_wp2_with (go_at_call 33; go_loud (refine hready.mono ?_; rintro e w1 ⟨rfl, hb⟩; obtain ⟨hR, d0, d1, d2, ⟨e0, e1, e2, g0, g1, g2⟩, hlt⟩ := HR0.out.fill hb; have HR1 := Lib.hid hR; clear hb hR))
  go_wp2_with (go_at_call 34; go_loud (refine (HFD.out _ HR1.out.st.files).mono ?_; rintro e w2 ⟨rfl, hb⟩; obtain ⟨hR, d0, d1, d2, ⟨e0, e1, e2, g0, g1, g2⟩, hlt⟩ := HR1.out.fill hb; have HR2 := Lib.hid hR; have hlt0 : w.heap.size < w2.heap.size := (by omega); clear hb hR))
  go_wp2_with (first | (go_at_call 35; go_loud (refine (HNM.out _).mono ?_; rintro e wn ⟨rfl, h9⟩; subst wn)) | (go_at_call 36; go_loud (refine (HBD.out _ HR2.out.st.files).mono ?_; rintro e w9 ⟨v9, rfl, hown, hb⟩; obtain ⟨a9, c9, rfl⟩ := hown.slice; have HO9 := Lib.hid (hown.le HR2.out.sz); have HB9 := Lib.hid (HR2.out.st.below.trans (hb.mono HR2.out.st.below.size)); obtain ⟨-, -, -, -, ⟨e0, e1, e2, g0, g1, g2⟩, hlt⟩ := HR2.out.fill hb; clear hown hb)))
  refine bodyPost_disk rfl (w.heap.size + 1) (.slice a9 bf.length c9) bd bu rfl rfl ?_ ?_ ?_ ?_
  case refine_1 => go_simp
  case refine_2 => go_simp
  case refine_3 => go_simp
  case refine_4 =>
    refine ⟨_, rfl, Own.le (base := w.heap.size + 2) ?_ (by omega), ?_⟩
    · repeat (first | exact HO9.out | refine Own.sb ?_ (show w.heap.size + 1 < w.heap.size + 2 by omega) _ | refine Own.al ?_ _)
    · repeat (first | exact HB9.out | refine bset ?_ (show w.heap.size ≤ w.heap.size + 1 by omega) _ | refine Below.alloc ?_ (by simp; omega) _)

set_option maxRecDepth 100000 in
set_option maxHeartbeats 1500000 in
theorem addr_full (v : Value) (fs : List Fl) (fu : Int) (nm da : ByteArray) (_hlo : -9223372036854775808 ≤ fu) (_hhi : fu ≤ 9223372036854775807) (h40 : fs.length * 40 ≤ 140737488355328) (h0 : chkN fs = 0) (hn : ¬ idxN fs nm < fs.length) (hm : nmOk nm = true) (hz : 4096 ≤ fs.length) (w : World) (hv : Files w w.heap.size v fs) :
    Calls Try.prog 13 #[.agg #[v, .bool false, .int .i64 fu], .string nm, .string da] w (DoIs w (addO fs false fu nm da).fs (addO fs false fu nm da).dn (addO fs false fu nm da).fu (addO fs false fu nm da).r) := by
  have HV := Lib.hid hv
  obtain ⟨a, c, rfl, -⟩ := hv
  have HR0 := Lib.hid (R2.made (dn := false) (fu := fu) HV.out)
  have hready := ready_ref _ false fu fs _ HR0.out.st.files
  rw [show rdN fs false = 0 from (rd_zero h0)] at hready
  have hhas : hasN fs nm = false := by unfold hasN; simpa using hn
  have hix : ixZ fs nm = -1 := by unfold ixZ; rw [if_neg hn]
  rw [show addO fs false fu nm da = badO fs false fu 11 by unfold addO; rw [show raN fs.length nm (hasN fs nm) = 11 by unfold raN; rw [hm, hhas, if_pos rfl, if_neg (by simp), if_pos hz]]; exact outO_ref h0 (by omega) (by omega)]
  have HFD : Hid (∀ w1, Files w1 w1.heap.size (.slice a fs.length c) fs → Calls Try.prog 34 #[.agg #[.slice a fs.length c, .bool false, .int .i64 fu], .string nm] w1 fun e w' => e = .returned (.int .i64 (-1)) ∧ Below w1.heap.size w1 w') := fun w1 hf => by
    have := find_ref _ false fu fs nm w1 hf
    rw [hix] at this
    exact this
  have HNM : Hid (∀ w1, Calls Try.prog 35 #[.string nm] w1 fun e w' => e = .returned (.bool true) ∧ w' = w1) := fun w1 => by
    have := name_ref nm w1
    rw [hm] at this
    exact this
  have HBD : Hid (∀ w1, Files w1 w1.heap.size (.slice a fs.length c) fs → Calls Try.prog 36 #[.agg #[.slice a fs.length c, .bool false, .int .i64 fu], .int .i64 11] w1 (DoIs w1 (badO fs false fu 11).fs (badO fs false fu 11).dn (badO fs false fu 11).fu (badO fs false fu 11).r)) := fun w1 hf => bad_ref _ false fu fs 11 w1 hf h40
  generalize badO fs false fu 11 = B at *
  rcases B with ⟨bf, bd, bu, br⟩
  simp only at HBD
  simp only
  unfold DoIs
  have t5 : (4096 : Int) ≤ (fs.length : Int) := by omega
  have t6 : 4096 ≤ fs.length := hz
  go_enter Try.func13, Try.ntmps13
  go_wp2_with (go_at_call 33; go_loud (refine hready.mono ?_; rintro e w1 ⟨rfl, hb⟩; obtain ⟨hR, d0, d1, d2, ⟨e0, e1, e2, g0, g1, g2⟩, hlt⟩ := HR0.out.fill hb; have HR1 := Lib.hid hR; clear hb hR))
  go_wp2_with (go_at_call 34; go_loud (refine (HFD.out _ HR1.out.st.files).mono ?_; rintro e w2 ⟨rfl, hb⟩; obtain ⟨hR, d0, d1, d2, ⟨e0, e1, e2, g0, g1, g2⟩, hlt⟩ := HR1.out.fill hb; have HR2 := Lib.hid hR; have hlt0 : w.heap.size < w2.heap.size := (by omega); clear hb hR))
  go_wp2_with (first | (go_at_call 35; go_loud (refine (HNM.out _).mono ?_; rintro e wn ⟨rfl, h9⟩; subst wn)) | (go_at_call 36; go_loud (refine (HBD.out _ HR2.out.st.files).mono ?_; rintro e w9 ⟨v9, rfl, hown, hb⟩; obtain ⟨a9, c9, rfl⟩ := hown.slice; have HO9 := Lib.hid (hown.le HR2.out.sz); have HB9 := Lib.hid (HR2.out.st.below.trans (hb.mono HR2.out.st.below.size)); obtain ⟨-, -, -, -, ⟨e0, e1, e2, g0, g1, g2⟩, hlt⟩ := HR2.out.fill hb; clear hown hb)))
  refine bodyPost_disk rfl (w.heap.size + 1) (.slice a9 bf.length c9) bd bu rfl rfl ?_ ?_ ?_ ?_
  case refine_1 => go_simp
  case refine_2 => go_simp
  case refine_3 => go_simp
  case refine_4 =>
    refine ⟨_, rfl, Own.le (base := w.heap.size + 2) ?_ (by omega), ?_⟩
    · repeat (first | exact HO9.out | refine Own.sb ?_ (show w.heap.size + 1 < w.heap.size + 2 by omega) _ | refine Own.al ?_ _)
    · repeat (first | exact HB9.out | refine bset ?_ (show w.heap.size ≤ w.heap.size + 1 by omega) _ | refine Below.alloc ?_ (by simp; omega) _)

set_option maxRecDepth 100000 in
set_option maxHeartbeats 1500000 in
theorem addr_hit_fus (v : Value) (fs : List Fl) (nm da : ByteArray) (_h40 : fs.length * 40 ≤ 140737488355328) (h0 : chkN fs = 0) (hm : nmOk nm = true) (hn : idxN fs nm < fs.length) (hzz : ∀ f ∈ fs, f.da.size + da.size ≤ 9223372036854775807) (w : World) (hv : Files w w.heap.size v fs) :
    Calls Try.prog 13 #[.agg #[v, .bool false, .int .i64 0], .string nm, .string da] w (DoIs w (addO fs false 0 nm da).fs (addO fs false 0 nm da).dn (addO fs false 0 nm da).fu (addO fs false 0 nm da).r) := by
  have HV := Lib.hid hv
  obtain ⟨a, c, rfl, -⟩ := hv
  have HR0 := Lib.hid (R2.made (dn := false) (fu := 0) HV.out)
  have hready := ready_ref _ false 0 fs _ HR0.out.st.files
  rw [show rdN fs false = 0 from (rd_zero h0)] at hready
  have hhas : hasN fs nm = true := by unfold hasN; simpa using hn
  have hix : ixZ fs nm = ((idxN fs nm : Nat) : Int) := by unfold ixZ; rw [if_pos hn]
  have hn1 : ((idxN fs nm : Nat) : Int) < (fs.length : Int) := by omega
  have hn2 : (0 : Int) ≤ ((idxN fs nm : Nat) : Int) := by omega
  have hn3 : decide (((idxN fs nm : Nat) : Int) < 0) = false := by simp
  have HFD : Hid (∀ w1, Files w1 w1.heap.size (.slice a fs.length c) fs → Calls Try.prog 34 #[.agg #[.slice a fs.length c, .bool false, .int .i64 0], .string nm] w1 fun e w' => e = .returned (.int .i64 ((idxN fs nm : Nat) : Int)) ∧ Below w1.heap.size w1 w') := fun w1 hf => by
    have := find_ref _ false 0 fs nm w1 hf
    rw [hix] at this
    exact this
  have hrs : raN fs.length nm (hasN fs nm) = 0 := by unfold raN; rw [hm, hhas]; rfl
  obtain ⟨h4, hok⟩ := chk_fine fs h0
  rw [show addO fs false 0 nm da = ⟨putF fs (addF fs nm da), true, 0, 8⟩ by unfold addO; rw [hrs, outO_fus h0]; rfl]
  have HBU : Hid (∀ (a1 : Option Addr) (n1 c1 : Nat) (w1 : World), Calls Try.prog 37 #[.agg #[.slice a1 n1 c1, .bool false, .int .i64 0]] w1 fun e w' => e = .returned (.tuple #[.agg #[.slice a1 n1 c1, .bool true, .int .i64 0], .bool false]) ∧ Below w1.heap.size w1 w') := fun a1 n1 c1 w1 => by
    have := burnt_ref a1 n1 c1 false 0 w1 (by omega) (by omega)
    rw [if_pos rfl, if_pos rfl, if_neg (by omega)] at this
    exact this
  have hfs : (⟨fs[idxN fs nm].nm, fs[idxN fs nm].da ++ da, fs[idxN fs nm].sy⟩ : Fl) = addF fs nm da := by unfold addF; rw [look_at fs nm hn]; simp only; rw [idx_nm fs nm hn]
  have HWT : Hid (∀ (w1 : World) (a1 : Option Addr) (c1 : Nat), Files w1 w1.heap.size (.slice a1 fs.length c1) fs → Calls Try.prog 38 #[.agg #[.slice a1 fs.length c1, .bool false, .int .i64 0], .agg #[.string fs[idxN fs nm].nm, .string (fs[idxN fs nm].da ++ da), .int .i64 fs[idxN fs nm].sy]] w1 (CopyIs w1 (putF fs (addF fs nm da)) false 0)) := fun w1 a1 c1 hf => by
    have := with_ref (.slice a1 fs.length c1) false 0 fs ⟨fs[idxN fs nm].nm, (fs[idxN fs nm].da ++ da), fs[idxN fs nm].sy⟩ w1 hf h4
    rw [wthF_put hok] at this
    rw [← hfs]
    exact this
  have HNM : Hid (∀ w1, Calls Try.prog 35 #[.string nm] w1 fun e w' => e = .returned (.bool true) ∧ w' = w1) := fun w1 => by
    have := name_ref nm w1
    rw [hm] at this
    exact this
  have hcat := hzz _ (List.getElem_mem hn)
  obtain ⟨a9, c9, he9, -, hf9, hc9⟩ := HV.out
  simp only [Value.slice.injEq] at he9
  obtain ⟨rfl, -, rfl⟩ := he9
  obtain ⟨b, off, rfl, hblt, hcc⟩ := hc9 (by omega)
  obtain ⟨p1, p2, p3⟩ := hcc _ hn
  have HP1 := Lib.hid p1
  have HP2 := Lib.hid p2
  have HP3 := Lib.hid p3
  have hsz9 : fs[idxN fs nm].da.size ≤ maxLen := (hf9 _ (List.getElem_mem hn)).1
  have hsz8 := (hf9 _ (List.getElem_mem hn)).2
  clear hc9 hcc p1 p2 p3 hf9
  clear hfs
  generalize putF fs (addF fs nm da) = fsB at *
  simp only
  unfold DoIs
  generalize fs[idxN fs nm] = f at *
  rcases f with ⟨xn, xd, xs⟩
  simp only at HP1 HP2 HP3 hsz9 hsz8 HWT hcat
  generalize idxN fs nm = k at *
  have t7 : ¬ (9223372036854775807 < xd.size + da.size) := by omega
  go_enter Try.func13, Try.ntmps13
  go_wp2_with (go_at_call 33; go_loud (refine hready.mono ?_; rintro e w1 ⟨rfl, hb⟩; obtain ⟨hR, d0, d1, d2, ⟨e0, e1, e2, g0, g1, g2⟩, hlt⟩ := HR0.out.fill hb; have HR1 := Lib.hid hR; clear hb hR))
  go_wp2_with (go_at_call 34; go_loud (refine (HFD.out _ HR1.out.st.files).mono ?_; rintro e w2 ⟨rfl, hb⟩; obtain ⟨hR, d0, d1, d2, ⟨e0, e1, e2, g0, g1, g2⟩, hlt⟩ := HR1.out.fill hb; have HR2 := Lib.hid hR; have hlt0 : w.heap.size < w2.heap.size := (by omega); clear hb hR; have p1 := (HR2.out.st.below.cell hblt).trans HP1.out; have p2 := (HR2.out.st.below.cell hblt).trans HP2.out; have p3 := (HR2.out.st.below.cell hblt).trans HP3.out; have hbl2 : b < w2.heap.size := (by have := HR2.out.sz; omega)))
  go_wp2_with (first | (go_at_call 35; go_loud (refine (HNM.out _).mono ?_; rintro e wn ⟨rfl, h9⟩; subst wn)) | (go_at_call 38; go_loud (refine (HWT.out _ _ _ (HR2.out.st.files.al _)).mono ?_; rintro e w3 ⟨v3, rfl, hown, hb0⟩; obtain ⟨a3, c3, rfl⟩ := hown.slice; have hb : Below w2.heap.size w2 w3 := ((Below.refl _ w2).alloc (Nat.le_refl _) _).trans (hb0.mono (by simp)); have HO3 := Lib.hid (hown.le (show w.heap.size + 2 ≤ _ by have := HR2.out.sz; simp; omega)); clear hown hb0; obtain ⟨hR, d0, d1, d2, ⟨e0, e1, e2, g0, g1, g2⟩, hlt⟩ := HR2.out.fill hb; have HR3 := Lib.hid hR; clear hb hR)) | (go_at_call 37; go_loud (refine (HBU.out _ _ _ _).mono ?_; rintro e w4 ⟨rfl, hb⟩; have HO4 := Lib.hid (HO3.out.keep hb); obtain ⟨hR, d0, d1, d2, ⟨e0, e1, e2, g0, g1, g2⟩, hlt⟩ := HR3.out.fill hb; have HR4 := Lib.hid hR; clear hb hR)))
  have HB4 := Lib.hid HR4.out.st.below
  have hs4 := HR4.out.sz
  refine bodyPost_disk rfl (w.heap.size + 1) (.slice a3 fsB.length c3) true 0 rfl rfl ?_ ?_ ?_ ?_
  case refine_1 => go_simp
  case refine_2 => go_simp
  case refine_3 => go_simp
  case refine_4 =>
    refine ⟨_, rfl, Own.le (base := w.heap.size + 2) ?_ (by omega), ?_⟩
    · repeat (first | exact HO4.out | refine Own.sb ?_ (show w.heap.size + 1 < w.heap.size + 2 by omega) _ | refine Own.al ?_ _)
    · repeat (first | exact HB4.out | refine bset ?_ (show w.heap.size ≤ w.heap.size + 1 by omega) _ | refine Below.alloc ?_ (by simp; omega) _)

set_option maxRecDepth 100000 in
set_option maxHeartbeats 1500000 in
theorem addr_hit_run (v : Value) (fs : List Fl) (fu : Int) (nm da : ByteArray) (hlo : -9223372036854775808 ≤ fu) (hhi : fu ≤ 9223372036854775807) (_h40 : fs.length * 40 ≤ 140737488355328) (h0 : chkN fs = 0) (hm : nmOk nm = true) (hn : idxN fs nm < fs.length) (hzz : ∀ f ∈ fs, f.da.size + da.size ≤ 9223372036854775807) (hf0 : fu ≠ 0) (w : World) (hv : Files w w.heap.size v fs) :
    Calls Try.prog 13 #[.agg #[v, .bool false, .int .i64 fu], .string nm, .string da] w (DoIs w (addO fs false fu nm da).fs (addO fs false fu nm da).dn (addO fs false fu nm da).fu (addO fs false fu nm da).r) := by
  have HV := Lib.hid hv
  obtain ⟨a, c, rfl, -⟩ := hv
  have HR0 := Lib.hid (R2.made (dn := false) (fu := fu) HV.out)
  have hready := ready_ref _ false fu fs _ HR0.out.st.files
  rw [show rdN fs false = 0 from (rd_zero h0)] at hready
  have hhas : hasN fs nm = true := by unfold hasN; simpa using hn
  have hix : ixZ fs nm = ((idxN fs nm : Nat) : Int) := by unfold ixZ; rw [if_pos hn]
  have hn1 : ((idxN fs nm : Nat) : Int) < (fs.length : Int) := by omega
  have hn2 : (0 : Int) ≤ ((idxN fs nm : Nat) : Int) := by omega
  have hn3 : decide (((idxN fs nm : Nat) : Int) < 0) = false := by simp
  have HFD : Hid (∀ w1, Files w1 w1.heap.size (.slice a fs.length c) fs → Calls Try.prog 34 #[.agg #[.slice a fs.length c, .bool false, .int .i64 fu], .string nm] w1 fun e w' => e = .returned (.int .i64 ((idxN fs nm : Nat) : Int)) ∧ Below w1.heap.size w1 w') := fun w1 hf => by
    have := find_ref _ false fu fs nm w1 hf
    rw [hix] at this
    exact this
  have hrs : raN fs.length nm (hasN fs nm) = 0 := by unfold raN; rw [hm, hhas]; rfl
  obtain ⟨h4, hok⟩ := chk_fine fs h0
  obtain ⟨fu2, hfu2⟩ : ∃ x : Int, x = (if 0 < fu then fu - 1 else fu) := ⟨_, rfl⟩
  rw [show addO fs false fu nm da = ⟨putF fs (addF fs nm da), false, fu2, 0⟩ by unfold addO; rw [hrs, outO_run h0 hf0, hfu2]]
  have HBU : Hid (∀ (a1 : Option Addr) (n1 c1 : Nat) (w1 : World), Calls Try.prog 37 #[.agg #[.slice a1 n1 c1, .bool false, .int .i64 fu]] w1 fun e w' => e = .returned (.tuple #[.agg #[.slice a1 n1 c1, .bool false, .int .i64 fu2], .bool true]) ∧ Below w1.heap.size w1 w') := fun a1 n1 c1 w1 => by
    have := burnt_ref a1 n1 c1 false fu w1 hlo hhi
    rw [if_neg hf0, if_neg hf0, ← hfu2] at this
    exact this
  have hfs : (⟨fs[idxN fs nm].nm, fs[idxN fs nm].da ++ da, fs[idxN fs nm].sy⟩ : Fl) = addF fs nm da := by unfold addF; rw [look_at fs nm hn]; simp only; rw [idx_nm fs nm hn]
  have HWT : Hid (∀ (w1 : World) (a1 : Option Addr) (c1 : Nat), Files w1 w1.heap.size (.slice a1 fs.length c1) fs → Calls Try.prog 38 #[.agg #[.slice a1 fs.length c1, .bool false, .int .i64 fu], .agg #[.string fs[idxN fs nm].nm, .string (fs[idxN fs nm].da ++ da), .int .i64 fs[idxN fs nm].sy]] w1 (CopyIs w1 (putF fs (addF fs nm da)) false fu)) := fun w1 a1 c1 hf => by
    have := with_ref (.slice a1 fs.length c1) false fu fs ⟨fs[idxN fs nm].nm, (fs[idxN fs nm].da ++ da), fs[idxN fs nm].sy⟩ w1 hf h4
    rw [wthF_put hok] at this
    rw [← hfs]
    exact this
  have HNM : Hid (∀ w1, Calls Try.prog 35 #[.string nm] w1 fun e w' => e = .returned (.bool true) ∧ w' = w1) := fun w1 => by
    have := name_ref nm w1
    rw [hm] at this
    exact this
  have hcat := hzz _ (List.getElem_mem hn)
  obtain ⟨a9, c9, he9, -, hf9, hc9⟩ := HV.out
  simp only [Value.slice.injEq] at he9
  obtain ⟨rfl, -, rfl⟩ := he9
  obtain ⟨b, off, rfl, hblt, hcc⟩ := hc9 (by omega)
  obtain ⟨p1, p2, p3⟩ := hcc _ hn
  have HP1 := Lib.hid p1
  have HP2 := Lib.hid p2
  have HP3 := Lib.hid p3
  have hsz9 : fs[idxN fs nm].da.size ≤ maxLen := (hf9 _ (List.getElem_mem hn)).1
  have hsz8 := (hf9 _ (List.getElem_mem hn)).2
  clear hc9 hcc p1 p2 p3 hf9
  clear hfs hfu2
  generalize putF fs (addF fs nm da) = fsB at *
  simp only
  unfold DoIs
  generalize fs[idxN fs nm] = f at *
  rcases f with ⟨xn, xd, xs⟩
  simp only at HP1 HP2 HP3 hsz9 hsz8 HWT hcat
  generalize idxN fs nm = k at *
  have t7 : ¬ (9223372036854775807 < xd.size + da.size) := by omega
  go_enter Try.func13, Try.ntmps13
  go_wp2_with (go_at_call 33; go_loud (refine hready.mono ?_; rintro e w1 ⟨rfl, hb⟩; obtain ⟨hR, d0, d1, d2, ⟨e0, e1, e2, g0, g1, g2⟩, hlt⟩ := HR0.out.fill hb; have HR1 := Lib.hid hR; clear hb hR))
  go_wp2_with (go_at_call 34; go_loud (refine (HFD.out _ HR1.out.st.files).mono ?_; rintro e w2 ⟨rfl, hb⟩; obtain ⟨hR, d0, d1, d2, ⟨e0, e1, e2, g0, g1, g2⟩, hlt⟩ := HR1.out.fill hb; have HR2 := Lib.hid hR; have hlt0 : w.heap.size < w2.heap.size := (by omega); clear hb hR; have p1 := (HR2.out.st.below.cell hblt).trans HP1.out; have p2 := (HR2.out.st.below.cell hblt).trans HP2.out; have p3 := (HR2.out.st.below.cell hblt).trans HP3.out; have hbl2 : b < w2.heap.size := (by have := HR2.out.sz; omega)))
  go_wp2_with (first | (go_at_call 35; go_loud (refine (HNM.out _).mono ?_; rintro e wn ⟨rfl, h9⟩; subst wn)) | (go_at_call 38; go_loud (refine (HWT.out _ _ _ (HR2.out.st.files.al _)).mono ?_; rintro e w3 ⟨v3, rfl, hown, hb0⟩; obtain ⟨a3, c3, rfl⟩ := hown.slice; have hb : Below w2.heap.size w2 w3 := ((Below.refl _ w2).alloc (Nat.le_refl _) _).trans (hb0.mono (by simp)); have HO3 := Lib.hid (hown.le (show w.heap.size + 2 ≤ _ by have := HR2.out.sz; simp; omega)); clear hown hb0; obtain ⟨hR, d0, d1, d2, ⟨e0, e1, e2, g0, g1, g2⟩, hlt⟩ := HR2.out.fill hb; have HR3 := Lib.hid hR; clear hb hR)) | (go_at_call 37; go_loud (refine (HBU.out _ _ _ _).mono ?_; rintro e w4 ⟨rfl, hb⟩; have HO4 := Lib.hid (HO3.out.keep hb); obtain ⟨hR, d0, d1, d2, ⟨e0, e1, e2, g0, g1, g2⟩, hlt⟩ := HR3.out.fill hb; have HR4 := Lib.hid hR; clear hb hR)))
  have HB4 := Lib.hid HR4.out.st.below
  have hs4 := HR4.out.sz
  refine bodyPost_disk rfl (w.heap.size + 1) (.slice a3 fsB.length c3) false fu2 rfl rfl ?_ ?_ ?_ ?_
  case refine_1 => go_simp
  case refine_2 => go_simp
  case refine_3 => go_simp
  case refine_4 =>
    refine ⟨_, rfl, Own.le (base := w.heap.size + 2) ?_ (by omega), ?_⟩
    · repeat (first | exact HO4.out | refine Own.sb ?_ (show w.heap.size + 1 < w.heap.size + 2 by omega) _ | refine Own.al ?_ _)
    · repeat (first | exact HB4.out | refine bset ?_ (show w.heap.size ≤ w.heap.size + 1 by omega) _ | refine Below.alloc ?_ (by simp; omega) _)

set_option maxRecDepth 100000 in
set_option maxHeartbeats 1500000 in
theorem addr_miss_fus (v : Value) (fs : List Fl) (nm da : ByteArray) (_h40 : fs.length * 40 ≤ 140737488355328) (h0 : chkN fs = 0) (hm : nmOk nm = true) (hn : ¬ idxN fs nm < fs.length) (hz : ¬ 4096 ≤ fs.length) (hz0 : da.size ≤ 9223372036854775807) (w : World) (hv : Files w w.heap.size v fs) :
    Calls Try.prog 13 #[.agg #[v, .bool false, .int .i64 0], .string nm, .string da] w (DoIs w (addO fs false 0 nm da).fs (addO fs false 0 nm da).dn (addO fs false 0 nm da).fu (addO fs false 0 nm da).r) := by
  have HV := Lib.hid hv
  obtain ⟨a, c, rfl, -⟩ := hv
  have HR0 := Lib.hid (R2.made (dn := false) (fu := 0) HV.out)
  have hready := ready_ref _ false 0 fs _ HR0.out.st.files
  rw [show rdN fs false = 0 from (rd_zero h0)] at hready
  have hhas : hasN fs nm = false := by unfold hasN; simpa using hn
  have hix : ixZ fs nm = -1 := by unfold ixZ; rw [if_neg hn]
  have HFD : Hid (∀ w1, Files w1 w1.heap.size (.slice a fs.length c) fs → Calls Try.prog 34 #[.agg #[.slice a fs.length c, .bool false, .int .i64 0], .string nm] w1 fun e w' => e = .returned (.int .i64 (-1)) ∧ Below w1.heap.size w1 w') := fun w1 hf => by
    have := find_ref _ false 0 fs nm w1 hf
    rw [hix] at this
    exact this
  have hrs : raN fs.length nm (hasN fs nm) = 0 := by unfold raN; rw [hm, hhas, if_pos rfl, if_neg (by simp), if_neg hz]
  obtain ⟨h4, hok⟩ := chk_fine fs h0
  rw [show addO fs false 0 nm da = ⟨putF fs (addF fs nm da), true, 0, 8⟩ by unfold addO; rw [hrs, outO_fus h0]; rfl]
  have HBU : Hid (∀ (a1 : Option Addr) (n1 c1 : Nat) (w1 : World), Calls Try.prog 37 #[.agg #[.slice a1 n1 c1, .bool false, .int .i64 0]] w1 fun e w' => e = .returned (.tuple #[.agg #[.slice a1 n1 c1, .bool true, .int .i64 0], .bool false]) ∧ Below w1.heap.size w1 w') := fun a1 n1 c1 w1 => by
    have := burnt_ref a1 n1 c1 false 0 w1 (by omega) (by omega)
    rw [if_pos rfl, if_pos rfl, if_neg (by omega)] at this
    exact this
  have hfs : (⟨nm, ByteArray.empty ++ da, 0⟩ : Fl) = addF fs nm da := by unfold addF; rw [look_miss fs nm hn]; simp only [ByteArray.empty_append]
  have HWT : Hid (∀ (w1 : World) (a1 : Option Addr) (c1 : Nat), Files w1 w1.heap.size (.slice a1 fs.length c1) fs → Calls Try.prog 38 #[.agg #[.slice a1 fs.length c1, .bool false, .int .i64 0], .agg #[.string nm, .string (ByteArray.empty ++ da), .int .i64 0]] w1 (CopyIs w1 (putF fs (addF fs nm da)) false 0)) := fun w1 a1 c1 hf => by
    have := with_ref (.slice a1 fs.length c1) false 0 fs ⟨nm, (ByteArray.empty ++ da), 0⟩ w1 hf h4
    rw [wthF_put hok] at this
    rw [← hfs]
    exact this
  have HNM : Hid (∀ w1, Calls Try.prog 35 #[.string nm] w1 fun e w' => e = .returned (.bool true) ∧ w' = w1) := fun w1 => by
    have := name_ref nm w1
    rw [hm] at this
    exact this
  clear hfs
  generalize putF fs (addF fs nm da) = fsB at *
  simp only
  unfold DoIs
  have t7 : ¬ (9223372036854775807 < ByteArray.empty.size + da.size) := by simp; omega
  have t5 : decide ((4096 : Int) ≤ (fs.length : Int)) = false := by simp; omega
  have t6 : decide (4096 ≤ fs.length) = false := by simp; omega
  go_enter Try.func13, Try.ntmps13
  go_wp2_with (go_at_call 33; go_loud (refine hready.mono ?_; rintro e w1 ⟨rfl, hb⟩; obtain ⟨hR, d0, d1, d2, ⟨e0, e1, e2, g0, g1, g2⟩, hlt⟩ := HR0.out.fill hb; have HR1 := Lib.hid hR; clear hb hR))
  go_wp2_with (go_at_call 34; go_loud (refine (HFD.out _ HR1.out.st.files).mono ?_; rintro e w2 ⟨rfl, hb⟩; obtain ⟨hR, d0, d1, d2, ⟨e0, e1, e2, g0, g1, g2⟩, hlt⟩ := HR1.out.fill hb; have HR2 := Lib.hid hR; have hlt0 : w.heap.size < w2.heap.size := (by omega); clear hb hR))
  go_wp2_with (first | (go_at_call 35; go_loud (refine (HNM.out _).mono ?_; rintro e wn ⟨rfl, h9⟩; subst wn)) | (go_at_call 38; go_loud (refine (HWT.out _ _ _ (HR2.out.st.files.al _)).mono ?_; rintro e w3 ⟨v3, rfl, hown, hb0⟩; obtain ⟨a3, c3, rfl⟩ := hown.slice; have hb : Below w2.heap.size w2 w3 := ((Below.refl _ w2).alloc (Nat.le_refl _) _).trans (hb0.mono (by simp)); have HO3 := Lib.hid (hown.le (show w.heap.size + 2 ≤ _ by have := HR2.out.sz; simp; omega)); clear hown hb0; obtain ⟨hR, d0, d1, d2, ⟨e0, e1, e2, g0, g1, g2⟩, hlt⟩ := HR2.out.fill hb; have HR3 := Lib.hid hR; clear hb hR)) | (go_at_call 37; go_loud (refine (HBU.out _ _ _ _).mono ?_; rintro e w4 ⟨rfl, hb⟩; have HO4 := Lib.hid (HO3.out.keep hb); obtain ⟨hR, d0, d1, d2, ⟨e0, e1, e2, g0, g1, g2⟩, hlt⟩ := HR3.out.fill hb; have HR4 := Lib.hid hR; clear hb hR)))
  have HB4 := Lib.hid HR4.out.st.below
  have hs4 := HR4.out.sz
  refine bodyPost_disk rfl (w.heap.size + 1) (.slice a3 fsB.length c3) true 0 rfl rfl ?_ ?_ ?_ ?_
  case refine_1 => go_simp
  case refine_2 => go_simp
  case refine_3 => go_simp
  case refine_4 =>
    refine ⟨_, rfl, Own.le (base := w.heap.size + 2) ?_ (by omega), ?_⟩
    · repeat (first | exact HO4.out | refine Own.sb ?_ (show w.heap.size + 1 < w.heap.size + 2 by omega) _ | refine Own.al ?_ _)
    · repeat (first | exact HB4.out | refine bset ?_ (show w.heap.size ≤ w.heap.size + 1 by omega) _ | refine Below.alloc ?_ (by simp; omega) _)

set_option maxRecDepth 100000 in
set_option maxHeartbeats 1500000 in
theorem addr_miss_run (v : Value) (fs : List Fl) (fu : Int) (nm da : ByteArray) (hlo : -9223372036854775808 ≤ fu) (hhi : fu ≤ 9223372036854775807) (_h40 : fs.length * 40 ≤ 140737488355328) (h0 : chkN fs = 0) (hm : nmOk nm = true) (hn : ¬ idxN fs nm < fs.length) (hz : ¬ 4096 ≤ fs.length) (hz0 : da.size ≤ 9223372036854775807) (hf0 : fu ≠ 0) (w : World) (hv : Files w w.heap.size v fs) :
    Calls Try.prog 13 #[.agg #[v, .bool false, .int .i64 fu], .string nm, .string da] w (DoIs w (addO fs false fu nm da).fs (addO fs false fu nm da).dn (addO fs false fu nm da).fu (addO fs false fu nm da).r) := by
  have HV := Lib.hid hv
  obtain ⟨a, c, rfl, -⟩ := hv
  have HR0 := Lib.hid (R2.made (dn := false) (fu := fu) HV.out)
  have hready := ready_ref _ false fu fs _ HR0.out.st.files
  rw [show rdN fs false = 0 from (rd_zero h0)] at hready
  have hhas : hasN fs nm = false := by unfold hasN; simpa using hn
  have hix : ixZ fs nm = -1 := by unfold ixZ; rw [if_neg hn]
  have HFD : Hid (∀ w1, Files w1 w1.heap.size (.slice a fs.length c) fs → Calls Try.prog 34 #[.agg #[.slice a fs.length c, .bool false, .int .i64 fu], .string nm] w1 fun e w' => e = .returned (.int .i64 (-1)) ∧ Below w1.heap.size w1 w') := fun w1 hf => by
    have := find_ref _ false fu fs nm w1 hf
    rw [hix] at this
    exact this
  have hrs : raN fs.length nm (hasN fs nm) = 0 := by unfold raN; rw [hm, hhas, if_pos rfl, if_neg (by simp), if_neg hz]
  obtain ⟨h4, hok⟩ := chk_fine fs h0
  obtain ⟨fu2, hfu2⟩ : ∃ x : Int, x = (if 0 < fu then fu - 1 else fu) := ⟨_, rfl⟩
  rw [show addO fs false fu nm da = ⟨putF fs (addF fs nm da), false, fu2, 0⟩ by unfold addO; rw [hrs, outO_run h0 hf0, hfu2]]
  have HBU : Hid (∀ (a1 : Option Addr) (n1 c1 : Nat) (w1 : World), Calls Try.prog 37 #[.agg #[.slice a1 n1 c1, .bool false, .int .i64 fu]] w1 fun e w' => e = .returned (.tuple #[.agg #[.slice a1 n1 c1, .bool false, .int .i64 fu2], .bool true]) ∧ Below w1.heap.size w1 w') := fun a1 n1 c1 w1 => by
    have := burnt_ref a1 n1 c1 false fu w1 hlo hhi
    rw [if_neg hf0, if_neg hf0, ← hfu2] at this
    exact this
  have hfs : (⟨nm, ByteArray.empty ++ da, 0⟩ : Fl) = addF fs nm da := by unfold addF; rw [look_miss fs nm hn]; simp only [ByteArray.empty_append]
  have HWT : Hid (∀ (w1 : World) (a1 : Option Addr) (c1 : Nat), Files w1 w1.heap.size (.slice a1 fs.length c1) fs → Calls Try.prog 38 #[.agg #[.slice a1 fs.length c1, .bool false, .int .i64 fu], .agg #[.string nm, .string (ByteArray.empty ++ da), .int .i64 0]] w1 (CopyIs w1 (putF fs (addF fs nm da)) false fu)) := fun w1 a1 c1 hf => by
    have := with_ref (.slice a1 fs.length c1) false fu fs ⟨nm, (ByteArray.empty ++ da), 0⟩ w1 hf h4
    rw [wthF_put hok] at this
    rw [← hfs]
    exact this
  have HNM : Hid (∀ w1, Calls Try.prog 35 #[.string nm] w1 fun e w' => e = .returned (.bool true) ∧ w' = w1) := fun w1 => by
    have := name_ref nm w1
    rw [hm] at this
    exact this
  clear hfs hfu2
  generalize putF fs (addF fs nm da) = fsB at *
  simp only
  unfold DoIs
  have t7 : ¬ (9223372036854775807 < ByteArray.empty.size + da.size) := by simp; omega
  have t5 : decide ((4096 : Int) ≤ (fs.length : Int)) = false := by simp; omega
  have t6 : decide (4096 ≤ fs.length) = false := by simp; omega
  go_enter Try.func13, Try.ntmps13
  go_wp2_with (go_at_call 33; go_loud (refine hready.mono ?_; rintro e w1 ⟨rfl, hb⟩; obtain ⟨hR, d0, d1, d2, ⟨e0, e1, e2, g0, g1, g2⟩, hlt⟩ := HR0.out.fill hb; have HR1 := Lib.hid hR; clear hb hR))
  go_wp2_with (go_at_call 34; go_loud (refine (HFD.out _ HR1.out.st.files).mono ?_; rintro e w2 ⟨rfl, hb⟩; obtain ⟨hR, d0, d1, d2, ⟨e0, e1, e2, g0, g1, g2⟩, hlt⟩ := HR1.out.fill hb; have HR2 := Lib.hid hR; have hlt0 : w.heap.size < w2.heap.size := (by omega); clear hb hR))
  go_wp2_with (first | (go_at_call 35; go_loud (refine (HNM.out _).mono ?_; rintro e wn ⟨rfl, h9⟩; subst wn)) | (go_at_call 38; go_loud (refine (HWT.out _ _ _ (HR2.out.st.files.al _)).mono ?_; rintro e w3 ⟨v3, rfl, hown, hb0⟩; obtain ⟨a3, c3, rfl⟩ := hown.slice; have hb : Below w2.heap.size w2 w3 := ((Below.refl _ w2).alloc (Nat.le_refl _) _).trans (hb0.mono (by simp)); have HO3 := Lib.hid (hown.le (show w.heap.size + 2 ≤ _ by have := HR2.out.sz; simp; omega)); clear hown hb0; obtain ⟨hR, d0, d1, d2, ⟨e0, e1, e2, g0, g1, g2⟩, hlt⟩ := HR2.out.fill hb; have HR3 := Lib.hid hR; clear hb hR)) | (go_at_call 37; go_loud (refine (HBU.out _ _ _ _).mono ?_; rintro e w4 ⟨rfl, hb⟩; have HO4 := Lib.hid (HO3.out.keep hb); obtain ⟨hR, d0, d1, d2, ⟨e0, e1, e2, g0, g1, g2⟩, hlt⟩ := HR3.out.fill hb; have HR4 := Lib.hid hR; clear hb hR)))
  have HB4 := Lib.hid HR4.out.st.below
  have hs4 := HR4.out.sz
  refine bodyPost_disk rfl (w.heap.size + 1) (.slice a3 fsB.length c3) false fu2 rfl rfl ?_ ?_ ?_ ?_
  case refine_1 => go_simp
  case refine_2 => go_simp
  case refine_3 => go_simp
  case refine_4 =>
    refine ⟨_, rfl, Own.le (base := w.heap.size + 2) ?_ (by omega), ?_⟩
    · repeat (first | exact HO4.out | refine Own.sb ?_ (show w.heap.size + 1 < w.heap.size + 2 by omega) _ | refine Own.al ?_ _)
    · repeat (first | exact HB4.out | refine bset ?_ (show w.heap.size ≤ w.heap.size + 1 by omega) _ | refine Below.alloc ?_ (by simp; omega) _)
end Dk
end Go.Proofs.Ytohhiheebhcgeaa
