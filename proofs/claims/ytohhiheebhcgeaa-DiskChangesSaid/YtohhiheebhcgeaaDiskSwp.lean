/-
  LAW: DiskSwapped.
-/
import Derived.Test.YtohhiheebhcgeaaDiskAll
namespace Go.Proofs.Ytohhiheebhcgeaa
open Go.RowKit Go.Lib Go.Sort
namespace Dk
theorem rd_zero {fs : List Fl} (h : chkN fs = 0) : rdN fs false = 0 := by unfold rdN; rw [if_pos h]; rfl
theorem rd_some {fs : List Fl} {nm : ByteArray} {f : Fl} (h : chkN fs = 0) (hl : look fs nm = some f) : rdS fs false nm = f.da ∧ rdE fs false nm = 0 := by
  obtain ⟨h1, h2⟩ := List.getElem?_eq_some_iff.1 hl
  have hl' : fs[idxN fs nm]? = some f := hl
  unfold rdS rdE
  rw [rd_zero h, if_pos rfl, if_pos rfl, hl', if_pos h1]
  exact ⟨rfl, rfl⟩
theorem rd_none {fs : List Fl} {nm : ByteArray} (h : chkN fs = 0) (hl : look fs nm = none) : rdS fs false nm = ⟨#[]⟩ ∧ rdE fs false nm = 6 := by
  have hl' : fs[idxN fs nm]? = none := hl
  have h1 : ¬ idxN fs nm < fs.length := fun h => by rw [List.getElem?_eq_getElem h] at hl'; cases hl'
  unfold rdS rdE
  rw [rd_zero h, if_pos rfl, if_pos rfl, hl', if_neg h1]
  exact ⟨rfl, rfl⟩
theorem chk_of {fs : List Fl} (h4 : fs.length ≤ 4096) (hok : okTo fs fs.length = true) : chkN fs = 0 := chk_good fs (by omega) hok
theorem outO_ok {fs : List Fl} {dn : Bool} {fu : Int} {r : Nat} {ch : List Fl} {ad : Bool} (h : (outO fs dn fu r ch ad).r = 0) : chkN fs = 0 ∧ dn = false ∧ r = 0 ∧ fu ≠ 0 ∧ outO fs dn fu r ch ad = ⟨ch, false, if 0 < fu then fu - 1 else fu, 0⟩ := by
  unfold outO at h ⊢
  by_cases h0 : chkN fs = 0
  · rw [if_pos h0] at h ⊢
    cases dn with
    | true => simp at h
    | false =>
      rw [if_neg (by simp)] at h ⊢
      by_cases hr : r = 0
      · rw [if_pos hr] at h ⊢
        by_cases hf : fu = 0
        · rw [if_pos hf] at h; simp at h
        · rw [if_neg hf] at h ⊢
          exact ⟨h0, rfl, hr, hf, rfl⟩
      · rw [if_neg hr] at h
        exact absurd h hr
  · rw [if_neg h0] at h; simp at h
/-- What stands behind a Swap that is done. -/
theorem swp_ok {fs : List Fl} {dn : Bool} {fu : Int} {nm to : ByteArray} (hf : Fine fs) (h : (swpO fs dn fu nm to).r = 0) :
    ∃ gs f, swpO fs dn fu nm to = ⟨gs, false, if 0 < fu then fu - 1 else fu, 0⟩ ∧ dn = false ∧ chkN fs = 0 ∧ chkN gs = 0 ∧ look fs nm = some f ∧ look gs to = some ⟨to, f.da, f.sy⟩ ∧ (nm ≠ to → look gs nm = none) ∧ Fine gs ∧ gs.length ≤ 4096 := by
  obtain ⟨h0, rfl, hr, hfu, he⟩ := outO_ok h
  obtain ⟨h4, hok⟩ := chk_fine fs h0
  have hn := rw_zero hr
  have hl := look_at fs nm hn
  have hm := List.getElem_mem hn
  have hok2 := del_ok hok (idxN fs nm)
  have hel : (fs.eraseIdx (idxN fs nm)).length = fs.length - 1 := List.length_eraseIdx_of_lt hn
  have hsw : swpF fs nm to = ⟨to, fs[idxN fs nm].da, fs[idxN fs nm].sy⟩ := by unfold swpF; rw [hl]
  refine ⟨_, fs[idxN fs nm], he, rfl, h0, ?_, hl, ?_, fun hne => ?_, ?_, ?_⟩
  · refine chk_of ?_ (put_ok hok2 _ ?_)
    · rw [put_len _ hok2]; split <;> omega
    · rw [hsw]; exact (ok_bd hok fs[idxN fs nm] hm)
  · rw [hsw]; exact look_put hok2 ⟨to, fs[idxN fs nm].da, fs[idxN fs nm].sy⟩
  · rw [hsw]
    exact (look_put_ne hok2 ⟨to, fs[idxN fs nm].da, fs[idxN fs nm].sy⟩ nm hne).trans (look_del_self hok nm hn)
  · rw [hsw]
    exact put_fine (fun x hx => hf x (List.mem_of_mem_eraseIdx hx)) hok2 _ (hf fs[idxN fs nm] hm)
  · rw [put_len _ hok2]; split <;> omega

set_option maxRecDepth 100000 in
set_option maxHeartbeats 4000000 in
theorem diskSwapped (v : Value) (dn : Bool) (fu : Int) (fs : List Fl) (nm to : ByteArray) (w : World) (hv : Files w w.heap.size v fs) (hlo : -9223372036854775808 ≤ fu) (hhi : fu ≤ 9223372036854775807) :
    Calls Try.prog 9 #[.agg #[v, .bool dn, .int .i64 fu], .string nm, .string to] w fun e w' => e = .returned (.bool true) ∧ Below w.heap.size w w' := by
  have HV := Lib.hid hv
  obtain ⟨a, c, rfl, -⟩ := hv
  have HS0 := Lib.hid (St.made (dn := dn) (fu := fu) HV.out)
  have h1 := lives (w.alloc (.cells #[.slice a fs.length c, .bool dn, .int .i64 fu] 24))
  have HSW : Hid (∀ w1, Files w1 w1.heap.size (.slice a fs.length c) fs → Calls Try.prog 20 #[.agg #[.slice a fs.length c, .bool dn, .int .i64 fu], .string nm, .string to] w1 (DoIs w1 (swpO fs dn fu nm to).fs (swpO fs dn fu nm to).dn (swpO fs dn fu nm to).fu (swpO fs dn fu nm to).r)) := fun w1 hf => swap_all _ fs dn fu nm to hlo hhi w1 hf
  have HRD : Hid (∀ w1, Files w1 w1.heap.size (.slice a fs.length c) fs → Calls Try.prog 24 #[.agg #[.slice a fs.length c, .bool dn, .int .i64 fu], .string nm] w1 fun e w' => e = .returned (.tuple #[.string (rdS fs dn nm), .int .i64 (rdE fs dn nm : Nat)]) ∧ Below w1.heap.size w1 w') := fun w1 hf => read_own _ dn fu fs nm w1 hf
  by_cases hr : (swpO fs dn fu nm to).r = 0
  · obtain ⟨gs, f, he, rfl, h0, h9, hl, hl2, hl3, hgf, hg4⟩ := swp_ok HV.out.fine hr
    rw [he] at HSW
    rw [(rd_some h0 hl).1, (rd_some h0 hl).2] at HRD
    generalize (if 0 < fu then fu - 1 else fu) = fu2 at *
    have HR2 : Hid (∀ w1 a1 c1, Files w1 w1.heap.size (.slice a1 gs.length c1) gs → Calls Try.prog 24 #[.agg #[.slice a1 gs.length c1, .bool false, .int .i64 fu2], .string to] w1 fun e w' => e = .returned (.tuple #[.string f.da, .int .i64 0]) ∧ Below w1.heap.size w1 w') := fun w1 a1 c1 hf => by
      have := read_own (.slice a1 gs.length c1) false fu2 gs to w1 hf
      unfold ReadIs at this
      rw [(rd_some h9 hl2).1, (rd_some h9 hl2).2] at this
      exact this
    have HCK : Hid (∀ w1 a1 c1, Files w1 w1.heap.size (.slice a1 gs.length c1) gs → Calls Try.prog 28 #[.agg #[.slice a1 gs.length c1, .bool false, .int .i64 fu2]] w1 fun e w' => e = .returned (.int .i64 0) ∧ Below w1.heap.size w1 w') := fun w1 a1 c1 hf => by
      have := check_own (.slice a1 gs.length c1) false fu2 gs w1 hf
      rw [h9] at this
      exact this
    have HGF := Lib.hid hgf
    have hgl : gs.length ≤ 4611686018427387904 := by omega
    by_cases hft : nm = to
    · subst hft
      clear hl hl2 hl3 h9 h0 he hr hgf hg4
      generalize f.da = y at *
      go_enter Try.func9, Try.ntmps9
      go_wp2_with (go_at_call 18; go_loud (refine h1.mono ?_; rintro e w1 ⟨rfl, hb⟩; obtain ⟨hd, d0, d1, d2, dl⟩ := HS0.out.after hb; have HD1 := Lib.hid hd; clear hb hd))
      go_wp2_with (go_at_call 24; go_loud (refine (HRD.out _ HD1.out.files).mono ?_; rintro e w2 ⟨rfl, hb⟩; obtain ⟨hd, d0, d1, d2, dl⟩ := HD1.out.after hb; have HD2 := Lib.hid hd; clear hb hd))
      go_wp2_with (go_at_call 20; go_loud (refine (HSW.out _ HD2.out.files).mono ?_; intro e w3 hc; obtain ⟨a3, c3, rfl, hb, hz⟩ := hc.var HD2.out.below HGF.out hgl; have HE3 := Lib.hid hz; clear hc hb hz))
      go_wp2_with (go_at_call 24; go_loud (refine (HR2.out _ _ _ HE3.out.files).mono ?_; rintro e w4 ⟨rfl, hb⟩; obtain ⟨hz, e0, e1, e2, el⟩ := HE3.out.after hb; have HE4 := Lib.hid hz; clear hb hz HE3))
      go_wp2_with (go_at_call 24; go_loud (refine (HR2.out _ _ _ HE4.out.files).mono ?_; rintro e w5 ⟨rfl, hb⟩; obtain ⟨hz, e0, e1, e2, el⟩ := HE4.out.after hb; have HE5 := Lib.hid hz; clear hb hz HE4))
      go_wp2_with (go_at_call 28; go_loud (refine (HCK.out _ _ _ HE5.out.files).mono ?_; rintro e w6 ⟨rfl, hb⟩; have HB6 := Lib.hid (HE5.out.keep hb).below; clear hb))
      go_ret
      exact ⟨by rfl, HB6.out⟩
    · have HR3 : Hid (∀ w1 a1 c1, Files w1 w1.heap.size (.slice a1 gs.length c1) gs → Calls Try.prog 24 #[.agg #[.slice a1 gs.length c1, .bool false, .int .i64 fu2], .string nm] w1 fun e w' => e = .returned (.tuple #[.string ⟨#[]⟩, .int .i64 6]) ∧ Below w1.heap.size w1 w') := fun w1 a1 c1 hf => by
        have := read_own (.slice a1 gs.length c1) false fu2 gs nm w1 hf
        unfold ReadIs at this
        rw [(rd_none h9 (hl3 hft)).1, (rd_none h9 (hl3 hft)).2] at this
        exact this
      have t1 : (nm.toList == to.toList) = false := by
        cases hb : nm.toList == to.toList with
        | false => rfl
        | true => exact absurd (toList_inj (by simpa using hb)) hft
      clear hl hl2 hl3 h9 h0 he hr hgf hg4 hft
      generalize f.da = y at *
      go_enter Try.func9, Try.ntmps9
      go_wp2_with (go_at_call 18; go_loud (refine h1.mono ?_; rintro e w1 ⟨rfl, hb⟩; obtain ⟨hd, d0, d1, d2, dl⟩ := HS0.out.after hb; have HD1 := Lib.hid hd; clear hb hd))
      go_wp2_with (go_at_call 24; go_loud (refine (HRD.out _ HD1.out.files).mono ?_; rintro e w2 ⟨rfl, hb⟩; obtain ⟨hd, d0, d1, d2, dl⟩ := HD1.out.after hb; have HD2 := Lib.hid hd; clear hb hd))
      go_wp2_with (go_at_call 20; go_loud (refine (HSW.out _ HD2.out.files).mono ?_; intro e w3 hc; obtain ⟨a3, c3, rfl, hb, hz⟩ := hc.var HD2.out.below HGF.out hgl; have HE3 := Lib.hid hz; clear hc hb hz))
      go_wp2_with (go_at_call 24; go_loud (refine (HR2.out _ _ _ HE3.out.files).mono ?_; rintro e w4 ⟨rfl, hb⟩; obtain ⟨hz, e0, e1, e2, el⟩ := HE3.out.after hb; have HE4 := Lib.hid hz; clear hb hz HE3))
      go_wp2_with (go_at_call 24; go_loud (refine (HR3.out _ _ _ HE4.out.files).mono ?_; rintro e w5 ⟨rfl, hb⟩; obtain ⟨hz, e0, e1, e2, el⟩ := HE4.out.after hb; have HE5 := Lib.hid hz; clear hb hz HE4))
      go_wp2_with (go_at_call 28; go_loud (refine (HCK.out _ _ _ HE5.out.files).mono ?_; rintro e w6 ⟨rfl, hb⟩; have HB6 := Lib.hid (HE5.out.keep hb).below; clear hb))
      go_ret
      exact ⟨by rfl, HB6.out⟩
  · generalize hO : swpO fs dn fu nm to = O at *
    clear hO
    rcases O with ⟨gs, dn2, fu2, r⟩
    simp only at hr HSW
    generalize rdS fs dn nm = y at *
    generalize rdE fs dn nm = re at *
    have t1 : ¬ ((r : Int) = 0) := by omega
    go_enter Try.func9, Try.ntmps9
    go_wp2_with (go_at_call 18; go_loud (refine h1.mono ?_; rintro e w1 ⟨rfl, hb⟩; obtain ⟨hd, d0, d1, d2, dl⟩ := HS0.out.after hb; have HD1 := Lib.hid hd; clear hb hd))
    go_wp2_with (go_at_call 24; go_loud (refine (HRD.out _ HD1.out.files).mono ?_; rintro e w2 ⟨rfl, hb⟩; obtain ⟨hd, d0, d1, d2, dl⟩ := HD1.out.after hb; have HD2 := Lib.hid hd; clear hb hd))
    go_wp2_with (go_at_call 20; go_loud (refine (HSW.out _ HD2.out.files).mono ?_; rintro e w3 ⟨v3, rfl, hown, hb⟩; obtain ⟨a3, c3, rfl⟩ := hown.slice; have HB3 := Lib.hid ((HD2.out.keep (hb.alloc hb.size (.cells #[.slice a3 gs.length c3, .bool dn2, .int .i64 fu2] 24))).below); clear hown hb))
    go_ret
    exact ⟨by rfl, HB3.out⟩
end Dk
end Go.Proofs.Ytohhiheebhcgeaa
