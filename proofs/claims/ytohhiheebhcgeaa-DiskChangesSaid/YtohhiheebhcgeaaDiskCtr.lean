/-
  The document's Cut: its ways.
-/
import Derived.Test.YtohhiheebhcgeaaDiskRf4
namespace Go.Proofs.Ytohhiheebhcgeaa
open Go.RowKit Go.Lib Go.Sort
namespace Dk

set_option maxRecDepth 100000 in
set_option maxHeartbeats 1500000 in
theorem cutr_bad (v : Value) (fs : List Fl) (dn : Bool) (fu : Int) (nm : ByteArray) (sz : Int) (_hlo : -9223372036854775808 ≤ fu) (_hhi : fu ≤ 9223372036854775807) (h40 : fs.length * 40 ≤ 140737488355328) (hr0 : rdN fs dn ≠ 0) (w : World) (hv : Files w w.heap.size v fs) :
    Calls Try.prog 17 #[.agg #[v, .bool dn, .int .i64 fu], .string nm, .int .i64 sz] w (DoIs w (cutO fs dn fu nm sz).fs (cutO fs dn fu nm sz).dn (cutO fs dn fu nm sz).fu (cutO fs dn fu nm sz).r) := by
  have HV := Lib.hid hv
  obtain ⟨a, c, rfl, -⟩ := hv
  have HR0 := Lib.hid (R2.made (dn := dn) (fu := fu) HV.out)
  have hready := ready_ref _ dn fu fs _ HR0.out.st.files
  rw [show cutO fs dn fu nm sz = badO fs dn fu (rdN fs dn) from outO_bad hr0]
  have HFD : Hid (∀ w1, Files w1 w1.heap.size (.slice a fs.length c) fs → Calls Try.prog 34 #[.agg #[.slice a fs.length c, .bool dn, .int .i64 fu], .string nm] w1 fun e w' => e = .returned (.int .i64 (ixZ fs nm)) ∧ Below w1.heap.size w1 w') := fun w1 hf => by
    have := find_ref _ dn fu fs nm w1 hf
    skip
    exact this
  have HBD : Hid (∀ w1, Files w1 w1.heap.size (.slice a fs.length c) fs → Calls Try.prog 36 #[.agg #[.slice a fs.length c, .bool dn, .int .i64 fu], .int .i64 (rdN fs dn : Nat)] w1 (DoIs w1 (badO fs dn fu (rdN fs dn : Nat)).fs (badO fs dn fu (rdN fs dn : Nat)).dn (badO fs dn fu (rdN fs dn : Nat)).fu (badO fs dn fu (rdN fs dn : Nat)).r)) := fun w1 hf => bad_ref _ dn fu fs (rdN fs dn : Nat) w1 hf h40
  generalize badO fs dn fu (rdN fs dn : Nat) = B at *
  rcases B with ⟨bf, bd, bu, br⟩
  simp only at HBD
  simp only
  unfold DoIs
  have t1 : ¬ ((rdN fs dn : Nat) : Int) = 0 := by omega
  have t2 : (((rdN fs dn : Nat) : Int) == 0) = false := by simpa using t1
  generalize rdN fs dn = rd at *
  generalize ixZ fs nm = iz at *
  go_enter Try.func17, Try.ntmps17
  go_wp2_with (go_at_call 33; go_loud (refine hready.mono ?_; rintro e w1 ⟨rfl, hb⟩; obtain ⟨hR, d0, d1, d2, ⟨e0, e1, e2, g0, g1, g2⟩, hlt⟩ := HR0.out.fill hb; have HR1 := Lib.hid hR; clear hb hR))
  go_wp2_with (go_at_call 34; go_loud (refine (HFD.out _ HR1.out.st.files).mono ?_; rintro e w2 ⟨rfl, hb⟩; obtain ⟨hR, d0, d1, d2, ⟨e0, e1, e2, g0, g1, g2⟩, hlt⟩ := HR1.out.fill hb; have HR2 := Lib.hid hR; clear hb hR))
  go_wp2_with (go_at_call 36; go_loud (refine (HBD.out _ HR2.out.st.files).mono ?_; rintro e w9 ⟨v9, rfl, hown, hb⟩; obtain ⟨a9, c9, rfl⟩ := hown.slice; have HO9 := Lib.hid (hown.le HR2.out.sz); have HB9 := Lib.hid (HR2.out.st.below.trans (hb.mono HR2.out.st.below.size)); obtain ⟨-, -, -, -, ⟨e0, e1, e2, g0, g1, g2⟩, hlt⟩ := HR2.out.fill hb; clear hown hb))
  refine bodyPost_disk rfl (w.heap.size + 1) (.slice a9 bf.length c9) bd bu rfl rfl ?_ ?_ ?_ ?_
  case refine_1 => go_simp
  case refine_2 => go_simp
  case refine_3 => go_simp
  case refine_4 =>
    refine ⟨_, rfl, Own.le (base := w.heap.size + 2) ?_ (by omega), ?_⟩
    · repeat (first | exact HO9.out | refine Own.sb ?_ (show w.heap.size + 1 < w.heap.size + 2 by omega) _ | refine Own.al ?_ _)
    · repeat (first | exact HB9.out | refine bset ?_ (show w.heap.size ≤ w.heap.size + 1 by omega) _ | refine Below.alloc ?_ (by simp; omega) _)

set_option maxRecDepth 100000 in
set_option maxHeartbeats 1500000 in
theorem cutr_none (v : Value) (fs : List Fl) (fu : Int) (nm : ByteArray) (sz : Int) (_hlo : -9223372036854775808 ≤ fu) (_hhi : fu ≤ 9223372036854775807) (h40 : fs.length * 40 ≤ 140737488355328) (h0 : chkN fs = 0) (hn : ¬ idxN fs nm < fs.length) (w : World) (hv : Files w w.heap.size v fs) :
    Calls Try.prog 17 #[.agg #[v, .bool false, .int .i64 fu], .string nm, .int .i64 sz] w (DoIs w (cutO fs false fu nm sz).fs (cutO fs false fu nm sz).dn (cutO fs false fu nm sz).fu (cutO fs false fu nm sz).r) := by
  have HV := Lib.hid hv
  obtain ⟨a, c, rfl, -⟩ := hv
  have HR0 := Lib.hid (R2.made (dn := false) (fu := fu) HV.out)
  have hready := ready_ref _ false fu fs _ HR0.out.st.files
  rw [show rdN fs false = 0 from (rd_zero h0)] at hready
  have hix : ixZ fs nm = -1 := by unfold ixZ; rw [if_neg hn]
  rw [show cutO fs false fu nm sz = badO fs false fu 6 by unfold cutO; rw [show rcN fs nm sz = 6 by unfold rcN; rw [List.getElem?_eq_none (by omega)]]; exact outO_ref h0 (by omega) (by omega)]
  have HFD : Hid (∀ w1, Files w1 w1.heap.size (.slice a fs.length c) fs → Calls Try.prog 34 #[.agg #[.slice a fs.length c, .bool false, .int .i64 fu], .string nm] w1 fun e w' => e = .returned (.int .i64 (-1)) ∧ Below w1.heap.size w1 w') := fun w1 hf => by
    have := find_ref _ false fu fs nm w1 hf
    rw [hix] at this
    exact this
  have HBD : Hid (∀ w1, Files w1 w1.heap.size (.slice a fs.length c) fs → Calls Try.prog 36 #[.agg #[.slice a fs.length c, .bool false, .int .i64 fu], .int .i64 6] w1 (DoIs w1 (badO fs false fu 6).fs (badO fs false fu 6).dn (badO fs false fu 6).fu (badO fs false fu 6).r)) := fun w1 hf => bad_ref _ false fu fs 6 w1 hf h40
  generalize badO fs false fu 6 = B at *
  rcases B with ⟨bf, bd, bu, br⟩
  simp only at HBD
  simp only
  unfold DoIs
  go_enter Try.func17, Try.ntmps17
  go_wp2_with (go_at_call 33; go_loud (refine hready.mono ?_; rintro e w1 ⟨rfl, hb⟩; obtain ⟨hR, d0, d1, d2, ⟨e0, e1, e2, g0, g1, g2⟩, hlt⟩ := HR0.out.fill hb; have HR1 := Lib.hid hR; clear hb hR))
  go_wp2_with (go_at_call 34; go_loud (refine (HFD.out _ HR1.out.st.files).mono ?_; rintro e w2 ⟨rfl, hb⟩; obtain ⟨hR, d0, d1, d2, ⟨e0, e1, e2, g0, g1, g2⟩, hlt⟩ := HR1.out.fill hb; have HR2 := Lib.hid hR; clear hb hR))
  go_wp2_with (go_at_call 36; go_loud (refine (HBD.out _ HR2.out.st.files).mono ?_; rintro e w9 ⟨v9, rfl, hown, hb⟩; obtain ⟨a9, c9, rfl⟩ := hown.slice; have HO9 := Lib.hid (hown.le HR2.out.sz); have HB9 := Lib.hid (HR2.out.st.below.trans (hb.mono HR2.out.st.below.size)); obtain ⟨-, -, -, -, ⟨e0, e1, e2, g0, g1, g2⟩, hlt⟩ := HR2.out.fill hb; clear hown hb))
  refine bodyPost_disk rfl (w.heap.size + 1) (.slice a9 bf.length c9) bd bu rfl rfl ?_ ?_ ?_ ?_
  case refine_1 => go_simp
  case refine_2 => go_simp
  case refine_3 => go_simp
  case refine_4 =>
    refine ⟨_, rfl, Own.le (base := w.heap.size + 2) ?_ (by omega), ?_⟩
    · repeat (first | exact HO9.out | refine Own.sb ?_ (show w.heap.size + 1 < w.heap.size + 2 by omega) _ | refine Own.al ?_ _)
    · repeat (first | exact HB9.out | refine bset ?_ (show w.heap.size ≤ w.heap.size + 1 by omega) _ | refine Below.alloc ?_ (by simp; omega) _)

set_option maxRecDepth 100000 in
set_option maxHeartbeats 1500000 in
theorem cutr_low (v : Value) (fs : List Fl) (fu : Int) (nm : ByteArray) (sz : Int) (_hlo : -9223372036854775808 ≤ fu) (_hhi : fu ≤ 9223372036854775807) (h40 : fs.length * 40 ≤ 140737488355328) (h0 : chkN fs = 0) (hn : idxN fs nm < fs.length) (hz : sz < 0) (w : World) (hv : Files w w.heap.size v fs) :
    Calls Try.prog 17 #[.agg #[v, .bool false, .int .i64 fu], .string nm, .int .i64 sz] w (DoIs w (cutO fs false fu nm sz).fs (cutO fs false fu nm sz).dn (cutO fs false fu nm sz).fu (cutO fs false fu nm sz).r) := by
  have HV := Lib.hid hv
  obtain ⟨a, c, rfl, -⟩ := hv
  have HR0 := Lib.hid (R2.made (dn := false) (fu := fu) HV.out)
  have hready := ready_ref _ false fu fs _ HR0.out.st.files
  rw [show rdN fs false = 0 from (rd_zero h0)] at hready
  have hix : ixZ fs nm = ((idxN fs nm : Nat) : Int) := by unfold ixZ; rw [if_pos hn]
  have hn1 : ((idxN fs nm : Nat) : Int) < (fs.length : Int) := by omega
  have hn2 : (0 : Int) ≤ ((idxN fs nm : Nat) : Int) := by omega
  have hn3 : decide (((idxN fs nm : Nat) : Int) < 0) = false := by simp
  have HFD : Hid (∀ w1, Files w1 w1.heap.size (.slice a fs.length c) fs → Calls Try.prog 34 #[.agg #[.slice a fs.length c, .bool false, .int .i64 fu], .string nm] w1 fun e w' => e = .returned (.int .i64 ((idxN fs nm : Nat) : Int)) ∧ Below w1.heap.size w1 w') := fun w1 hf => by
    have := find_ref _ false fu fs nm w1 hf
    rw [hix] at this
    exact this
  rw [show cutO fs false fu nm sz = badO fs false fu 1 by unfold cutO; rw [show rcN fs nm sz = 1 by unfold rcN; rw [List.getElem?_eq_getElem hn]; simp only; rw [if_pos (.inl hz)]]; exact outO_ref h0 (by omega) (by omega)]
  have HBD : Hid (∀ w1, Files w1 w1.heap.size (.slice a fs.length c) fs → Calls Try.prog 36 #[.agg #[.slice a fs.length c, .bool false, .int .i64 fu], .int .i64 1] w1 (DoIs w1 (badO fs false fu 1).fs (badO fs false fu 1).dn (badO fs false fu 1).fu (badO fs false fu 1).r)) := fun w1 hf => bad_ref _ false fu fs 1 w1 hf h40
  generalize badO fs false fu 1 = B at *
  rcases B with ⟨bf, bd, bu, br⟩
  simp only at HBD
  simp only
  unfold DoIs
  obtain ⟨a9, c9, he9, -, hf9, hc9⟩ := HV.out
  simp only [Value.slice.injEq] at he9
  obtain ⟨rfl, -, rfl⟩ := he9
  obtain ⟨b, off, rfl, hblt, hcc⟩ := hc9 (by omega)
  obtain ⟨p1, p2, p3⟩ := hcc _ hn
  have HP1 := Lib.hid p1
  have HP2 := Lib.hid p2
  have HP3 := Lib.hid p3
  have hsz9 : fs[idxN fs nm].da.size ≤ maxLen := (hf9 _ (List.getElem_mem hn)).1
  have hsz8 := (hf9 _ (List.getElem_mem hn)).2
  clear hc9 hcc p1 p2 p3 hf9
  have t5 : decide (sz < 0) = true := by simpa using hz
  generalize fs[idxN fs nm] = f at *
  rcases f with ⟨xn, xd, xs⟩
  simp only at HP1 HP2 HP3 hsz9 hsz8
  generalize idxN fs nm = k at *
  go_enter Try.func17, Try.ntmps17
  go_wp2_with (go_at_call 33; go_loud (refine hready.mono ?_; rintro e w1 ⟨rfl, hb⟩; obtain ⟨hR, d0, d1, d2, ⟨e0, e1, e2, g0, g1, g2⟩, hlt⟩ := HR0.out.fill hb; have HR1 := Lib.hid hR; clear hb hR))
  go_wp2_with (go_at_call 34; go_loud (refine (HFD.out _ HR1.out.st.files).mono ?_; rintro e w2 ⟨rfl, hb⟩; obtain ⟨hR, d0, d1, d2, ⟨e0, e1, e2, g0, g1, g2⟩, hlt⟩ := HR1.out.fill hb; have HR2 := Lib.hid hR; clear hb hR; have p1 := (HR2.out.st.below.cell hblt).trans HP1.out; have p2 := (HR2.out.st.below.cell hblt).trans HP2.out; have p3 := (HR2.out.st.below.cell hblt).trans HP3.out; have hbl2 : b < w2.heap.size := (by have := HR2.out.sz; omega)))
  go_wp2_with (go_at_call 36; go_loud (refine (HBD.out _ HR2.out.st.files).mono ?_; rintro e w9 ⟨v9, rfl, hown, hb⟩; obtain ⟨a9, c9, rfl⟩ := hown.slice; have HO9 := Lib.hid (hown.le HR2.out.sz); have HB9 := Lib.hid (HR2.out.st.below.trans (hb.mono HR2.out.st.below.size)); obtain ⟨-, -, -, -, ⟨e0, e1, e2, g0, g1, g2⟩, hlt⟩ := HR2.out.fill hb; clear hown hb))
  refine bodyPost_disk rfl (w.heap.size + 1) (.slice a9 bf.length c9) bd bu rfl rfl ?_ ?_ ?_ ?_
  case refine_1 => go_simp
  case refine_2 => go_simp
  case refine_3 => go_simp
  case refine_4 =>
    refine ⟨_, rfl, Own.le (base := w.heap.size + 2) ?_ (by omega), ?_⟩
    · repeat (first | exact HO9.out | refine Own.sb ?_ (show w.heap.size + 1 < w.heap.size + 2 by omega) _ | refine Own.al ?_ _)
    · repeat (first | exact HB9.out | refine bset ?_ (show w.heap.size ≤ w.heap.size + 1 by omega) _ | refine Below.alloc ?_ (by simp; omega) _)

set_option maxRecDepth 100000 in
set_option maxHeartbeats 1500000 in
theorem cutr_high (v : Value) (fs : List Fl) (fu : Int) (nm : ByteArray) (sz : Int) (_hlo : -9223372036854775808 ≤ fu) (_hhi : fu ≤ 9223372036854775807) (h40 : fs.length * 40 ≤ 140737488355328) (h0 : chkN fs = 0) (hn : idxN fs nm < fs.length) (hz : (fs[idxN fs nm].da.size : Int) < sz) (w : World) (hv : Files w w.heap.size v fs) :
    Calls Try.prog 17 #[.agg #[v, .bool false, .int .i64 fu], .string nm, .int .i64 sz] w (DoIs w (cutO fs false fu nm sz).fs (cutO fs false fu nm sz).dn (cutO fs false fu nm sz).fu (cutO fs false fu nm sz).r) := by
  have HV := Lib.hid hv
  obtain ⟨a, c, rfl, -⟩ := hv
  have HR0 := Lib.hid (R2.made (dn := false) (fu := fu) HV.out)
  have hready := ready_ref _ false fu fs _ HR0.out.st.files
  rw [show rdN fs false = 0 from (rd_zero h0)] at hready
  have hix : ixZ fs nm = ((idxN fs nm : Nat) : Int) := by unfold ixZ; rw [if_pos hn]
  have hn1 : ((idxN fs nm : Nat) : Int) < (fs.length : Int) := by omega
  have hn2 : (0 : Int) ≤ ((idxN fs nm : Nat) : Int) := by omega
  have hn3 : decide (((idxN fs nm : Nat) : Int) < 0) = false := by simp
  have HFD : Hid (∀ w1, Files w1 w1.heap.size (.slice a fs.length c) fs → Calls Try.prog 34 #[.agg #[.slice a fs.length c, .bool false, .int .i64 fu], .string nm] w1 fun e w' => e = .returned (.int .i64 ((idxN fs nm : Nat) : Int)) ∧ Below w1.heap.size w1 w') := fun w1 hf => by
    have := find_ref _ false fu fs nm w1 hf
    rw [hix] at this
    exact this
  rw [show cutO fs false fu nm sz = badO fs false fu 1 by unfold cutO; rw [show rcN fs nm sz = 1 by unfold rcN; rw [List.getElem?_eq_getElem hn]; simp only; rw [if_pos (.inr hz)]]; exact outO_ref h0 (by omega) (by omega)]
  have HBD : Hid (∀ w1, Files w1 w1.heap.size (.slice a fs.length c) fs → Calls Try.prog 36 #[.agg #[.slice a fs.length c, .bool false, .int .i64 fu], .int .i64 1] w1 (DoIs w1 (badO fs false fu 1).fs (badO fs false fu 1).dn (badO fs false fu 1).fu (badO fs false fu 1).r)) := fun w1 hf => bad_ref _ false fu fs 1 w1 hf h40
  generalize badO fs false fu 1 = B at *
  rcases B with ⟨bf, bd, bu, br⟩
  simp only at HBD
  simp only
  unfold DoIs
  obtain ⟨a9, c9, he9, -, hf9, hc9⟩ := HV.out
  simp only [Value.slice.injEq] at he9
  obtain ⟨rfl, -, rfl⟩ := he9
  obtain ⟨b, off, rfl, hblt, hcc⟩ := hc9 (by omega)
  obtain ⟨p1, p2, p3⟩ := hcc _ hn
  have HP1 := Lib.hid p1
  have HP2 := Lib.hid p2
  have HP3 := Lib.hid p3
  have hsz9 : fs[idxN fs nm].da.size ≤ maxLen := (hf9 _ (List.getElem_mem hn)).1
  have hsz8 := (hf9 _ (List.getElem_mem hn)).2
  clear hc9 hcc p1 p2 p3 hf9
  have t5 : decide (sz < 0) = false := by simp; omega
  generalize fs[idxN fs nm] = f at *
  rcases f with ⟨xn, xd, xs⟩
  simp only at HP1 HP2 HP3 hsz9 hsz8 hz
  generalize idxN fs nm = k at *
  have t6 : decide ((xd.size : Int) < sz) = true := by simpa using hz
  go_enter Try.func17, Try.ntmps17
  go_wp2_with (go_at_call 33; go_loud (refine hready.mono ?_; rintro e w1 ⟨rfl, hb⟩; obtain ⟨hR, d0, d1, d2, ⟨e0, e1, e2, g0, g1, g2⟩, hlt⟩ := HR0.out.fill hb; have HR1 := Lib.hid hR; clear hb hR))
  go_wp2_with (go_at_call 34; go_loud (refine (HFD.out _ HR1.out.st.files).mono ?_; rintro e w2 ⟨rfl, hb⟩; obtain ⟨hR, d0, d1, d2, ⟨e0, e1, e2, g0, g1, g2⟩, hlt⟩ := HR1.out.fill hb; have HR2 := Lib.hid hR; clear hb hR; have p1 := (HR2.out.st.below.cell hblt).trans HP1.out; have p2 := (HR2.out.st.below.cell hblt).trans HP2.out; have p3 := (HR2.out.st.below.cell hblt).trans HP3.out; have hbl2 : b < w2.heap.size := (by have := HR2.out.sz; omega)))
  go_wp2_with (go_at_call 36; go_loud (refine (HBD.out _ HR2.out.st.files).mono ?_; rintro e w9 ⟨v9, rfl, hown, hb⟩; obtain ⟨a9, c9, rfl⟩ := hown.slice; have HO9 := Lib.hid (hown.le HR2.out.sz); have HB9 := Lib.hid (HR2.out.st.below.trans (hb.mono HR2.out.st.below.size)); obtain ⟨-, -, -, -, ⟨e0, e1, e2, g0, g1, g2⟩, hlt⟩ := HR2.out.fill hb; clear hown hb))
  refine bodyPost_disk rfl (w.heap.size + 1) (.slice a9 bf.length c9) bd bu rfl rfl ?_ ?_ ?_ ?_
  case refine_1 => go_simp
  case refine_2 => go_simp
  case refine_3 => go_simp
  case refine_4 =>
    refine ⟨_, rfl, Own.le (base := w.heap.size + 2) ?_ (by omega), ?_⟩
    · repeat (first | exact HO9.out | refine Own.sb ?_ (show w.heap.size + 1 < w.heap.size + 2 by omega) _ | refine Own.al ?_ _)
    · repeat (first | exact HB9.out | refine bset ?_ (show w.heap.size ≤ w.heap.size + 1 by omega) _ | refine Below.alloc ?_ (by simp; omega) _)

set_option maxRecDepth 100000 in
set_option maxHeartbeats 1500000 in
theorem cutr_fus (v : Value) (fs : List Fl) (nm : ByteArray) (sz : Nat) (h40 : fs.length * 40 ≤ 140737488355328) (h0 : chkN fs = 0) (hn : idxN fs nm < fs.length) (hz : sz ≤ fs[idxN fs nm].da.size) (w : World) (hv : Files w w.heap.size v fs) :
    Calls Try.prog 17 #[.agg #[v, .bool false, .int .i64 0], .string nm, .int .i64 (sz : Nat)] w (DoIs w (cutO fs false 0 nm (sz : Nat)).fs (cutO fs false 0 nm (sz : Nat)).dn (cutO fs false 0 nm (sz : Nat)).fu (cutO fs false 0 nm (sz : Nat)).r) := by
  have HV := Lib.hid hv
  obtain ⟨a, c, rfl, -⟩ := hv
  have HR0 := Lib.hid (R2.made (dn := false) (fu := 0) HV.out)
  have hready := ready_ref _ false 0 fs _ HR0.out.st.files
  rw [show rdN fs false = 0 from (rd_zero h0)] at hready
  have hix : ixZ fs nm = ((idxN fs nm : Nat) : Int) := by unfold ixZ; rw [if_pos hn]
  have hn1 : ((idxN fs nm : Nat) : Int) < (fs.length : Int) := by omega
  have hn2 : (0 : Int) ≤ ((idxN fs nm : Nat) : Int) := by omega
  have hn3 : decide (((idxN fs nm : Nat) : Int) < 0) = false := by simp
  have HFD : Hid (∀ w1, Files w1 w1.heap.size (.slice a fs.length c) fs → Calls Try.prog 34 #[.agg #[.slice a fs.length c, .bool false, .int .i64 0], .string nm] w1 fun e w' => e = .returned (.int .i64 ((idxN fs nm : Nat) : Int)) ∧ Below w1.heap.size w1 w') := fun w1 hf => by
    have := find_ref _ false 0 fs nm w1 hf
    rw [hix] at this
    exact this
  have hrs : rcN fs nm (sz : Nat) = 0 := by unfold rcN; rw [List.getElem?_eq_getElem hn]; simp only; rw [if_neg (by omega)]
  have HCP : Hid (∀ w1, Files w1 w1.heap.size (.slice a fs.length c) fs → Calls Try.prog 11 #[.agg #[.slice a fs.length c, .bool false, .int .i64 0]] w1 (CopyIs w1 fs false 0)) := fun w1 hf => copy_ref _ false 0 fs w1 hf h40
  rw [show cutO fs false 0 nm (sz : Nat) = ⟨fs, true, 0, 8⟩ by unfold cutO; rw [hrs, outO_fus h0]; rfl]
  have HBU : Hid (∀ (a1 : Option Addr) (n1 c1 : Nat) (w1 : World), Calls Try.prog 37 #[.agg #[.slice a1 n1 c1, .bool false, .int .i64 0]] w1 fun e w' => e = .returned (.tuple #[.agg #[.slice a1 n1 c1, .bool true, .int .i64 0], .bool false]) ∧ Below w1.heap.size w1 w') := fun a1 n1 c1 w1 => by
    have := burnt_ref a1 n1 c1 false 0 w1 (by omega) (by omega)
    rw [if_pos rfl, if_pos rfl, if_neg (by omega)] at this
    exact this
  obtain ⟨a9, c9, he9, -, hf9, hc9⟩ := HV.out
  simp only [Value.slice.injEq] at he9
  obtain ⟨rfl, -, rfl⟩ := he9
  obtain ⟨b, off, rfl, hblt, hcc⟩ := hc9 (by omega)
  obtain ⟨p1, p2, p3⟩ := hcc _ hn
  have HP1 := Lib.hid p1
  have HP2 := Lib.hid p2
  have HP3 := Lib.hid p3
  have hsz9 : fs[idxN fs nm].da.size ≤ maxLen := (hf9 _ (List.getElem_mem hn)).1
  have hsz8 := (hf9 _ (List.getElem_mem hn)).2
  clear hc9 hcc p1 p2 p3 hf9
  simp only
  unfold DoIs
  generalize fs[idxN fs nm] = f at *
  rcases f with ⟨xn, xd, xs⟩
  simp only at HP1 HP2 HP3 hsz9 hsz8 hz
  generalize idxN fs nm = k at *
  have t5 : decide ((sz : Int) < 0) = false := by simp
  have t6 : decide ((xd.size : Int) < (sz : Int)) = false := by simp; omega
  have t7 : decide (xd.size < sz) = false := by simp; omega
  have t8 : (sz : Int) ≤ (xd.size : Int) := by omega
  have t9 : (0 : Int) ≤ (sz : Int) := by omega
  go_enter Try.func17, Try.ntmps17
  go_wp2_with (go_at_call 33; go_loud (refine hready.mono ?_; rintro e w1 ⟨rfl, hb⟩; obtain ⟨hR, d0, d1, d2, ⟨e0, e1, e2, g0, g1, g2⟩, hlt⟩ := HR0.out.fill hb; have HR1 := Lib.hid hR; clear hb hR))
  go_wp2_with (go_at_call 34; go_loud (refine (HFD.out _ HR1.out.st.files).mono ?_; rintro e w2 ⟨rfl, hb⟩; obtain ⟨hR, d0, d1, d2, ⟨e0, e1, e2, g0, g1, g2⟩, hlt⟩ := HR1.out.fill hb; have HR2 := Lib.hid hR; clear hb hR; have p1 := (HR2.out.st.below.cell hblt).trans HP1.out; have p2 := (HR2.out.st.below.cell hblt).trans HP2.out; have p3 := (HR2.out.st.below.cell hblt).trans HP3.out; have hbl2 : b < w2.heap.size := (by have := HR2.out.sz; omega)))
  go_wp2_with (first | (go_at_call 11; go_loud (refine (HCP.out _ HR2.out.st.files).mono ?_; rintro e w3 ⟨v3, rfl, hown, hb⟩; obtain ⟨a3, c3, rfl⟩ := hown.slice; have HO3 := Lib.hid (hown.le HR2.out.sz); clear hown; obtain ⟨hR, d0, d1, d2, ⟨e0, e1, e2, g0, g1, g2⟩, hlt⟩ := HR2.out.fill hb; have HR3 := Lib.hid hR; clear hb hR)) | (go_at_call 37; go_loud (refine (HBU.out _ _ _ _).mono ?_; rintro e w4 ⟨rfl, hb⟩; have HO4 := Lib.hid (HO3.out.keep hb); obtain ⟨hR, d0, d1, d2, ⟨e0, e1, e2, g0, g1, g2⟩, hlt⟩ := HR3.out.fill hb; have HR4 := Lib.hid hR; clear hb hR)))
  have HB4 := Lib.hid HR4.out.st.below
  have hs4 := HR4.out.sz
  refine bodyPost_disk rfl (w.heap.size + 1) (.slice a3 fs.length c3) true 0 rfl rfl ?_ ?_ ?_ ?_
  case refine_1 => go_simp
  case refine_2 => go_simp
  case refine_3 => go_simp
  case refine_4 =>
    refine ⟨_, rfl, Own.le (base := w.heap.size + 2) ?_ (by omega), ?_⟩
    · repeat (first | exact HO4.out | refine Own.sb ?_ (show w.heap.size + 1 < w.heap.size + 2 by omega) _ | refine Own.al ?_ _)
    · repeat (first | exact HB4.out | refine bset ?_ (show w.heap.size ≤ w.heap.size + 1 by omega) _ | refine Below.alloc ?_ (by simp; omega) _)

set_option maxRecDepth 100000 in
set_option maxHeartbeats 1500000 in
theorem cutr_run1 (v : Value) (fs : List Fl) (fu : Int) (nm : ByteArray) (sz : Nat) (hlo : -9223372036854775808 ≤ fu) (hhi : fu ≤ 9223372036854775807) (h40 : fs.length * 40 ≤ 140737488355328) (h0 : chkN fs = 0) (hn : idxN fs nm < fs.length) (hz : sz ≤ fs[idxN fs nm].da.size) (hf0 : fu ≠ 0) (hm : (sz : Int) < fs[idxN fs nm].sy) (w : World) (hv : Files w w.heap.size v fs) :
    Calls Try.prog 17 #[.agg #[v, .bool false, .int .i64 fu], .string nm, .int .i64 (sz : Nat)] w (DoIs w (cutO fs false fu nm (sz : Nat)).fs (cutO fs false fu nm (sz : Nat)).dn (cutO fs false fu nm (sz : Nat)).fu (cutO fs false fu nm (sz : Nat)).r) := by
  have HV := Lib.hid hv
  obtain ⟨a, c, rfl, -⟩ := hv
  have HR0 := Lib.hid (R2.made (dn := false) (fu := fu) HV.out)
  have hready := ready_ref _ false fu fs _ HR0.out.st.files
  rw [show rdN fs false = 0 from (rd_zero h0)] at hready
  have hix : ixZ fs nm = ((idxN fs nm : Nat) : Int) := by unfold ixZ; rw [if_pos hn]
  have hn1 : ((idxN fs nm : Nat) : Int) < (fs.length : Int) := by omega
  have hn2 : (0 : Int) ≤ ((idxN fs nm : Nat) : Int) := by omega
  have hn3 : decide (((idxN fs nm : Nat) : Int) < 0) = false := by simp
  have HFD : Hid (∀ w1, Files w1 w1.heap.size (.slice a fs.length c) fs → Calls Try.prog 34 #[.agg #[.slice a fs.length c, .bool false, .int .i64 fu], .string nm] w1 fun e w' => e = .returned (.int .i64 ((idxN fs nm : Nat) : Int)) ∧ Below w1.heap.size w1 w') := fun w1 hf => by
    have := find_ref _ false fu fs nm w1 hf
    rw [hix] at this
    exact this
  have hrs : rcN fs nm (sz : Nat) = 0 := by unfold rcN; rw [List.getElem?_eq_getElem hn]; simp only; rw [if_neg (by omega)]
  have HCP : Hid (∀ w1, Files w1 w1.heap.size (.slice a fs.length c) fs → Calls Try.prog 11 #[.agg #[.slice a fs.length c, .bool false, .int .i64 fu]] w1 (CopyIs w1 fs false fu)) := fun w1 hf => copy_ref _ false fu fs w1 hf h40
  obtain ⟨h4, hok⟩ := chk_fine fs h0
  have HF := Lib.hid HV.out.fine
  have hll := HV.out.len
  obtain ⟨fu2, hfu2⟩ : ∃ x : Int, x = (if 0 < fu then fu - 1 else fu) := ⟨_, rfl⟩
  rw [show cutO fs false fu nm (sz : Nat) = ⟨putF fs (cutF fs nm (sz : Nat)), false, fu2, 0⟩ by unfold cutO; rw [hrs, outO_run h0 hf0, hfu2]]
  have HBU : Hid (∀ (a1 : Option Addr) (n1 c1 : Nat) (w1 : World), Calls Try.prog 37 #[.agg #[.slice a1 n1 c1, .bool false, .int .i64 fu]] w1 fun e w' => e = .returned (.tuple #[.agg #[.slice a1 n1 c1, .bool false, .int .i64 fu2], .bool true]) ∧ Below w1.heap.size w1 w') := fun a1 n1 c1 w1 => by
    have := burnt_ref a1 n1 c1 false fu w1 hlo hhi
    rw [if_neg hf0, if_neg hf0, ← hfu2] at this
    exact this
  have HCE : Hid (∀ (w1 : World) (a1 : Option Addr) (c1 : Nat), Own w1 (w.heap.size + 2) (.slice a1 fs.length c1) fs → ∃ g : Nat, a1 = some ⟨g, 0, none⟩ ∧ g < w1.heap.size ∧ w1.cell? ⟨g, idxN fs nm * 3, none⟩ = some (.string fs[idxN fs nm].nm) ∧ w1.cell? ⟨g, idxN fs nm * 3 + 1, none⟩ = some (.string fs[idxN fs nm].da) ∧ w1.cell? ⟨g, idxN fs nm * 3 + 2, none⟩ = some (.int .i64 fs[idxN fs nm].sy)) := fun w1 a1 c1 ho => by
    obtain ⟨g, cap, he, -, hg, hc, -⟩ := ho.form (by omega)
    simp only [Value.slice.injEq] at he
    obtain ⟨rfl, -, -⟩ := he
    exact ⟨g, rfl, hg, hc _ hn⟩
  have hfs : (⟨fs[idxN fs nm].nm, fs[idxN fs nm].da.extract 0 sz, (sz : Int)⟩ : Fl) = cutF fs nm (sz : Nat) := by
    unfold cutF
    rw [look_at fs nm hn]
    simp only [Int.toNat_natCast]
    rw [idx_nm fs nm hn]
    congr 1
    omega
  have HWT : Hid (∀ (w1 : World) (a1 : Option Addr) (c1 : Nat), Files w1 w1.heap.size (.slice a1 fs.length c1) fs → Calls Try.prog 38 #[.agg #[.slice a1 fs.length c1, .bool false, .int .i64 fu2], .agg #[.string fs[idxN fs nm].nm, .string (fs[idxN fs nm].da.extract 0 sz), .int .i64 (sz : Int)]] w1 (CopyIs w1 (putF fs (cutF fs nm (sz : Nat))) false fu2)) := fun w1 a1 c1 hf => by
    have := with_ref (.slice a1 fs.length c1) false fu2 fs ⟨fs[idxN fs nm].nm, (fs[idxN fs nm].da.extract 0 sz), (sz : Int)⟩ w1 hf h4
    rw [wthF_put hok] at this
    rw [← hfs]
    exact this
  obtain ⟨a9, c9, he9, -, hf9, hc9⟩ := HV.out
  simp only [Value.slice.injEq] at he9
  obtain ⟨rfl, -, rfl⟩ := he9
  obtain ⟨b, off, rfl, hblt, hcc⟩ := hc9 (by omega)
  obtain ⟨p1, p2, p3⟩ := hcc _ hn
  have HP1 := Lib.hid p1
  have HP2 := Lib.hid p2
  have HP3 := Lib.hid p3
  have hsz9 : fs[idxN fs nm].da.size ≤ maxLen := (hf9 _ (List.getElem_mem hn)).1
  have hsz8 := (hf9 _ (List.getElem_mem hn)).2
  clear hc9 hcc p1 p2 p3 hf9
  clear hfs hfu2
  generalize putF fs (cutF fs nm (sz : Nat)) = fsB at *
  simp only
  unfold DoIs
  generalize fs[idxN fs nm] = f at *
  rcases f with ⟨xn, xd, xs⟩
  simp only at HP1 HP2 HP3 hsz9 hsz8 hz hm HCE HWT
  generalize idxN fs nm = k at *
  have t5 : decide ((sz : Int) < 0) = false := by simp
  have t6 : decide ((xd.size : Int) < (sz : Int)) = false := by simp; omega
  have t7 : decide (xd.size < sz) = false := by simp; omega
  have t8 : (sz : Int) ≤ (xd.size : Int) := by omega
  have t9 : (0 : Int) ≤ (sz : Int) := by omega
  have t10 : decide ((sz : Int) < xs) = true := by simpa using hm
  go_enter Try.func17, Try.ntmps17
  go_wp2_with (go_at_call 33; go_loud (refine hready.mono ?_; rintro e w1 ⟨rfl, hb⟩; obtain ⟨hR, d0, d1, d2, ⟨e0, e1, e2, g0, g1, g2⟩, hlt⟩ := HR0.out.fill hb; have HR1 := Lib.hid hR; clear hb hR))
  go_wp2_with (go_at_call 34; go_loud (refine (HFD.out _ HR1.out.st.files).mono ?_; rintro e w2 ⟨rfl, hb⟩; obtain ⟨hR, d0, d1, d2, ⟨e0, e1, e2, g0, g1, g2⟩, hlt⟩ := HR1.out.fill hb; have HR2 := Lib.hid hR; clear hb hR; have p1 := (HR2.out.st.below.cell hblt).trans HP1.out; have p2 := (HR2.out.st.below.cell hblt).trans HP2.out; have p3 := (HR2.out.st.below.cell hblt).trans HP3.out; have hbl2 : b < w2.heap.size := (by have := HR2.out.sz; omega)))
  go_wp2_with (first | (go_at_call 11; go_loud (refine (HCP.out _ HR2.out.st.files).mono ?_; rintro e w3 ⟨v3, rfl, hown, hb⟩; obtain ⟨a3, c3, rfl⟩ := hown.slice; have HO3 := Lib.hid (hown.le HR2.out.sz); clear hown; obtain ⟨hR, d0, d1, d2, ⟨e0, e1, e2, g0, g1, g2⟩, hlt⟩ := HR2.out.fill hb; have HR3 := Lib.hid hR; clear hb hR)) | (go_at_call 37; go_loud (refine (HBU.out _ _ _ _).mono ?_; rintro e w4 ⟨rfl, hb⟩; have ho4 := HO3.out.keep hb; obtain ⟨g, rfl, hg, q0, q1, q2⟩ := HCE.out _ _ _ ho4; have HO4 := Lib.hid ho4; clear ho4; obtain ⟨hR, d0, d1, d2, ⟨e0, e1, e2, g0, g1, g2⟩, hlt⟩ := HR3.out.fill hb; have HR4 := Lib.hid hR; clear hb hR)) | (go_at_call 38; go_loud (refine (HWT.out _ _ _ (((HO4.out.files HF.out hll).al _).al _)).mono ?_; rintro e w6 ⟨v6, rfl, hown, hb0⟩; obtain ⟨a6, c6, rfl⟩ := hown.slice; have hb : Below w4.heap.size w4 w6 := (((Below.refl _ w4).alloc (Nat.le_refl _) _).alloc (by simp) _).trans (hb0.mono (by simp; omega)); have HO6 := Lib.hid (hown.le (show w.heap.size + 2 ≤ _ by have := HR4.out.sz; simp; omega)); clear hown hb0; obtain ⟨hR, d0, d1, d2, ⟨e0, e1, e2, g0, g1, g2⟩, hlt⟩ := HR4.out.fill hb; have HR6 := Lib.hid hR; clear hb hR; have HB6 := Lib.hid HR6.out.st.below)))
  refine bodyPost_disk rfl (w.heap.size + 1) (.slice a6 fsB.length c6) false fu2 rfl rfl ?_ ?_ ?_ ?_
  case refine_1 => go_simp
  case refine_2 => go_simp
  case refine_3 => go_simp
  case refine_4 =>
    refine ⟨_, rfl, Own.le (base := w.heap.size + 2) ?_ (by omega), ?_⟩
    · repeat (first | exact HO6.out | refine Own.sb ?_ (show w.heap.size + 1 < w.heap.size + 2 by omega) _ | refine Own.al ?_ _)
    · repeat (first | exact HB6.out | refine bset ?_ (show w.heap.size ≤ w.heap.size + 1 by omega) _ | refine Below.alloc ?_ (by simp; omega) _)

set_option maxRecDepth 100000 in
set_option maxHeartbeats 1500000 in
theorem cutr_run2 (v : Value) (fs : List Fl) (fu : Int) (nm : ByteArray) (sz : Nat) (hlo : -9223372036854775808 ≤ fu) (hhi : fu ≤ 9223372036854775807) (h40 : fs.length * 40 ≤ 140737488355328) (h0 : chkN fs = 0) (hn : idxN fs nm < fs.length) (hz : sz ≤ fs[idxN fs nm].da.size) (hf0 : fu ≠ 0) (hm : ¬ (sz : Int) < fs[idxN fs nm].sy) (w : World) (hv : Files w w.heap.size v fs) :
    Calls Try.prog 17 #[.agg #[v, .bool false, .int .i64 fu], .string nm, .int .i64 (sz : Nat)] w (DoIs w (cutO fs false fu nm (sz : Nat)).fs (cutO fs false fu nm (sz : Nat)).dn (cutO fs false fu nm (sz : Nat)).fu (cutO fs false fu nm (sz : Nat)).r) := by
  have HV := Lib.hid hv
  obtain ⟨a, c, rfl, -⟩ := hv
  have HR0 := Lib.hid (R2.made (dn := false) (fu := fu) HV.out)
  have hready := ready_ref _ false fu fs _ HR0.out.st.files
  rw [show rdN fs false = 0 from (rd_zero h0)] at hready
  have hix : ixZ fs nm = ((idxN fs nm : Nat) : Int) := by unfold ixZ; rw [if_pos hn]
  have hn1 : ((idxN fs nm : Nat) : Int) < (fs.length : Int) := by omega
  have hn2 : (0 : Int) ≤ ((idxN fs nm : Nat) : Int) := by omega
  have hn3 : decide (((idxN fs nm : Nat) : Int) < 0) = false := by simp
  have HFD : Hid (∀ w1, Files w1 w1.heap.size (.slice a fs.length c) fs → Calls Try.prog 34 #[.agg #[.slice a fs.length c, .bool false, .int .i64 fu], .string nm] w1 fun e w' => e = .returned (.int .i64 ((idxN fs nm : Nat) : Int)) ∧ Below w1.heap.size w1 w') := fun w1 hf => by
    have := find_ref _ false fu fs nm w1 hf
    rw [hix] at this
    exact this
  have hrs : rcN fs nm (sz : Nat) = 0 := by unfold rcN; rw [List.getElem?_eq_getElem hn]; simp only; rw [if_neg (by omega)]
  have HCP : Hid (∀ w1, Files w1 w1.heap.size (.slice a fs.length c) fs → Calls Try.prog 11 #[.agg #[.slice a fs.length c, .bool false, .int .i64 fu]] w1 (CopyIs w1 fs false fu)) := fun w1 hf => copy_ref _ false fu fs w1 hf h40
  obtain ⟨h4, hok⟩ := chk_fine fs h0
  have HF := Lib.hid HV.out.fine
  have hll := HV.out.len
  obtain ⟨fu2, hfu2⟩ : ∃ x : Int, x = (if 0 < fu then fu - 1 else fu) := ⟨_, rfl⟩
  rw [show cutO fs false fu nm (sz : Nat) = ⟨putF fs (cutF fs nm (sz : Nat)), false, fu2, 0⟩ by unfold cutO; rw [hrs, outO_run h0 hf0, hfu2]]
  have HBU : Hid (∀ (a1 : Option Addr) (n1 c1 : Nat) (w1 : World), Calls Try.prog 37 #[.agg #[.slice a1 n1 c1, .bool false, .int .i64 fu]] w1 fun e w' => e = .returned (.tuple #[.agg #[.slice a1 n1 c1, .bool false, .int .i64 fu2], .bool true]) ∧ Below w1.heap.size w1 w') := fun a1 n1 c1 w1 => by
    have := burnt_ref a1 n1 c1 false fu w1 hlo hhi
    rw [if_neg hf0, if_neg hf0, ← hfu2] at this
    exact this
  have HCE : Hid (∀ (w1 : World) (a1 : Option Addr) (c1 : Nat), Own w1 (w.heap.size + 2) (.slice a1 fs.length c1) fs → ∃ g : Nat, a1 = some ⟨g, 0, none⟩ ∧ g < w1.heap.size ∧ w1.cell? ⟨g, idxN fs nm * 3, none⟩ = some (.string fs[idxN fs nm].nm) ∧ w1.cell? ⟨g, idxN fs nm * 3 + 1, none⟩ = some (.string fs[idxN fs nm].da) ∧ w1.cell? ⟨g, idxN fs nm * 3 + 2, none⟩ = some (.int .i64 fs[idxN fs nm].sy)) := fun w1 a1 c1 ho => by
    obtain ⟨g, cap, he, -, hg, hc, -⟩ := ho.form (by omega)
    simp only [Value.slice.injEq] at he
    obtain ⟨rfl, -, -⟩ := he
    exact ⟨g, rfl, hg, hc _ hn⟩
  have hfs : (⟨fs[idxN fs nm].nm, fs[idxN fs nm].da.extract 0 sz, fs[idxN fs nm].sy⟩ : Fl) = cutF fs nm (sz : Nat) := by
    unfold cutF
    rw [look_at fs nm hn]
    simp only [Int.toNat_natCast]
    rw [idx_nm fs nm hn]
    congr 1
    omega
  have HWT : Hid (∀ (w1 : World) (a1 : Option Addr) (c1 : Nat), Files w1 w1.heap.size (.slice a1 fs.length c1) fs → Calls Try.prog 38 #[.agg #[.slice a1 fs.length c1, .bool false, .int .i64 fu2], .agg #[.string fs[idxN fs nm].nm, .string (fs[idxN fs nm].da.extract 0 sz), .int .i64 fs[idxN fs nm].sy]] w1 (CopyIs w1 (putF fs (cutF fs nm (sz : Nat))) false fu2)) := fun w1 a1 c1 hf => by
    have := with_ref (.slice a1 fs.length c1) false fu2 fs ⟨fs[idxN fs nm].nm, (fs[idxN fs nm].da.extract 0 sz), fs[idxN fs nm].sy⟩ w1 hf h4
    rw [wthF_put hok] at this
    rw [← hfs]
    exact this
  obtain ⟨a9, c9, he9, -, hf9, hc9⟩ := HV.out
  simp only [Value.slice.injEq] at he9
  obtain ⟨rfl, -, rfl⟩ := he9
  obtain ⟨b, off, rfl, hblt, hcc⟩ := hc9 (by omega)
  obtain ⟨p1, p2, p3⟩ := hcc _ hn
  have HP1 := Lib.hid p1
  have HP2 := Lib.hid p2
  have HP3 := Lib.hid p3
  have hsz9 : fs[idxN fs nm].da.size ≤ maxLen := (hf9 _ (List.getElem_mem hn)).1
  have hsz8 := (hf9 _ (List.getElem_mem hn)).2
  clear hc9 hcc p1 p2 p3 hf9
  clear hfs hfu2
  generalize putF fs (cutF fs nm (sz : Nat)) = fsB at *
  simp only
  unfold DoIs
  generalize fs[idxN fs nm] = f at *
  rcases f with ⟨xn, xd, xs⟩
  simp only at HP1 HP2 HP3 hsz9 hsz8 hz hm HCE HWT
  generalize idxN fs nm = k at *
  have t5 : decide ((sz : Int) < 0) = false := by simp
  have t6 : decide ((xd.size : Int) < (sz : Int)) = false := by simp; omega
  have t7 : decide (xd.size < sz) = false := by simp; omega
  have t8 : (sz : Int) ≤ (xd.size : Int) := by omega
  have t9 : (0 : Int) ≤ (sz : Int) := by omega
  have t10 : decide ((sz : Int) < xs) = false := by simpa using hm
  go_enter Try.func17, Try.ntmps17
  go_wp2_with (go_at_call 33; go_loud (refine hready.mono ?_; rintro e w1 ⟨rfl, hb⟩; obtain ⟨hR, d0, d1, d2, ⟨e0, e1, e2, g0, g1, g2⟩, hlt⟩ := HR0.out.fill hb; have HR1 := Lib.hid hR; clear hb hR))
  go_wp2_with (go_at_call 34; go_loud (refine (HFD.out _ HR1.out.st.files).mono ?_; rintro e w2 ⟨rfl, hb⟩; obtain ⟨hR, d0, d1, d2, ⟨e0, e1, e2, g0, g1, g2⟩, hlt⟩ := HR1.out.fill hb; have HR2 := Lib.hid hR; clear hb hR; have p1 := (HR2.out.st.below.cell hblt).trans HP1.out; have p2 := (HR2.out.st.below.cell hblt).trans HP2.out; have p3 := (HR2.out.st.below.cell hblt).trans HP3.out; have hbl2 : b < w2.heap.size := (by have := HR2.out.sz; omega)))
  go_wp2_with (first | (go_at_call 11; go_loud (refine (HCP.out _ HR2.out.st.files).mono ?_; rintro e w3 ⟨v3, rfl, hown, hb⟩; obtain ⟨a3, c3, rfl⟩ := hown.slice; have HO3 := Lib.hid (hown.le HR2.out.sz); clear hown; obtain ⟨hR, d0, d1, d2, ⟨e0, e1, e2, g0, g1, g2⟩, hlt⟩ := HR2.out.fill hb; have HR3 := Lib.hid hR; clear hb hR)) | (go_at_call 37; go_loud (refine (HBU.out _ _ _ _).mono ?_; rintro e w4 ⟨rfl, hb⟩; have ho4 := HO3.out.keep hb; obtain ⟨g, rfl, hg, q0, q1, q2⟩ := HCE.out _ _ _ ho4; have HO4 := Lib.hid ho4; clear ho4; obtain ⟨hR, d0, d1, d2, ⟨e0, e1, e2, g0, g1, g2⟩, hlt⟩ := HR3.out.fill hb; have HR4 := Lib.hid hR; clear hb hR)) | (go_at_call 38; go_loud (refine (HWT.out _ _ _ (((HO4.out.files HF.out hll).al _).al _)).mono ?_; rintro e w6 ⟨v6, rfl, hown, hb0⟩; obtain ⟨a6, c6, rfl⟩ := hown.slice; have hb : Below w4.heap.size w4 w6 := (((Below.refl _ w4).alloc (Nat.le_refl _) _).alloc (by simp) _).trans (hb0.mono (by simp; omega)); have HO6 := Lib.hid (hown.le (show w.heap.size + 2 ≤ _ by have := HR4.out.sz; simp; omega)); clear hown hb0; obtain ⟨hR, d0, d1, d2, ⟨e0, e1, e2, g0, g1, g2⟩, hlt⟩ := HR4.out.fill hb; have HR6 := Lib.hid hR; clear hb hR; have HB6 := Lib.hid HR6.out.st.below)))
  refine bodyPost_disk rfl (w.heap.size + 1) (.slice a6 fsB.length c6) false fu2 rfl rfl ?_ ?_ ?_ ?_
  case refine_1 => go_simp
  case refine_2 => go_simp
  case refine_3 => go_simp
  case refine_4 =>
    refine ⟨_, rfl, Own.le (base := w.heap.size + 2) ?_ (by omega), ?_⟩
    · repeat (first | exact HO6.out | refine Own.sb ?_ (show w.heap.size + 1 < w.heap.size + 2 by omega) _ | refine Own.al ?_ _)
    · repeat (first | exact HB6.out | refine bset ?_ (show w.heap.size ≤ w.heap.size + 1 by omega) _ | refine Below.alloc ?_ (by simp; omega) _)
end Dk
end Go.Proofs.Ytohhiheebhcgeaa
