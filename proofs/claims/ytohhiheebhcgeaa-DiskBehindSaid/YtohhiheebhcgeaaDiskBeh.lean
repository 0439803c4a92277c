/-
  LAW: DiskBehind.
-/
import Derived.Test.YtohhiheebhcgeaaDiskSwp
import Derived.Test.YtohhiheebhcgeaaDiskSafe
namespace Go.Proofs.Ytohhiheebhcgeaa
open Go.RowKit Go.Lib Go.Sort
namespace Dk
theorem addF_nm (fs : List Fl) (nm da : ByteArray) : (addF fs nm da).nm = nm := by unfold addF; split <;> rfl
theorem ra_zero {fs : List Fl} {nm : ByteArray} (h : raN fs.length nm (hasN fs nm) = 0) : idxN fs nm < fs.length ∨ fs.length < 4096 := by
  unfold raN hasN at h
  by_cases hn : idxN fs nm < fs.length
  · exact .inl hn
  · right
    simp only [hn, decide_false, Bool.false_eq_true, if_false] at h
    split at h
    · split at h
      · cases h
      · omega
    · cases h
theorem addF_fine {fs : List Fl} {nm da : ByteArray} (hf : Fine fs) (hz0 : da.size ≤ 9223372036854775807) (hz : ∀ f ∈ fs, f.da.size + da.size ≤ 9223372036854775807) : (addF fs nm da).da.size ≤ maxLen ∧ -9223372036854775808 ≤ (addF fs nm da).sy ∧ (addF fs nm da).sy ≤ 9223372036854775807 := by
  unfold addF
  cases hl : look fs nm with
  | none => simp only [maxLen]; exact ⟨by omega, by omega, by omega⟩
  | some f =>
    obtain ⟨hm, -⟩ := look_mem hl
    have h1 := hz f hm
    have h2 := hf f hm
    simp only [maxLen]
    rw [ByteArray.size_append]
    exact ⟨by omega, h2.2⟩
theorem addF_bd {fs : List Fl} {nm da : ByteArray} (hb : Bd fs) : 0 ≤ (addF fs nm da).sy ∧ (addF fs nm da).sy ≤ (addF fs nm da).da.size := by
  unfold addF
  cases hl : look fs nm with
  | none => simp
  | some f =>
    obtain ⟨hm, -⟩ := look_mem hl
    have h1 := hb f hm
    simp only
    rw [ByteArray.size_append]
    omega
/-- What stands behind an Add that is done. -/
theorem add_ok {fs : List Fl} {dn : Bool} {fu : Int} {nm da : ByteArray} (hf : Fine fs) (hz0 : da.size ≤ 9223372036854775807) (hz : ∀ f ∈ fs, f.da.size + da.size ≤ 9223372036854775807) (h : (addO fs dn fu nm da).r = 0) :
    ∃ gs, addO fs dn fu nm da = ⟨gs, false, if 0 < fu then fu - 1 else fu, 0⟩ ∧ dn = false ∧ chkN fs = 0 ∧ chkN gs = 0 ∧ look gs nm = some (addF fs nm da) ∧ (∀ nm2, nm2 ≠ nm → look gs nm2 = look fs nm2) ∧ Fine gs ∧ gs.length ≤ 4096 := by
  obtain ⟨h0, rfl, hr, hfu, he⟩ := outO_ok h
  obtain ⟨h4, hok⟩ := chk_fine fs h0
  have hnm := addF_nm fs nm da
  have hlen : (putF fs (addF fs nm da)).length ≤ 4096 := by
    rw [put_len _ hok, hnm]
    rcases ra_zero hr with h1 | h1
    · rw [if_pos h1]; omega
    · split <;> omega
  refine ⟨_, he, rfl, h0, chk_of hlen (put_ok hok _ (addF_bd (ok_bd hok))), ?_, fun nm2 hne => ?_, put_fine hf hok _ (addF_fine hf hz0 hz), hlen⟩
  · have := look_put hok (addF fs nm da)
    rwa [hnm] at this
  · exact look_put_ne hok _ nm2 (by rw [hnm]; exact hne)
/-- What a Sync of a file that is there comes to. -/
theorem syn_ok {fs : List Fl} {fu : Int} {nm : ByteArray} {g : Fl} (hf : Fine fs) (h0 : chkN fs = 0) (hl : look fs nm = some g) :
    (fu = 0 → synO fs false fu nm = ⟨fs, true, 0, 8⟩) ∧ (fu ≠ 0 → ∃ hs, synO fs false fu nm = ⟨hs, false, if 0 < fu then fu - 1 else fu, 0⟩ ∧ chkN hs = 0 ∧ look hs nm = some ⟨nm, g.da, (g.da.size : Nat)⟩ ∧ Fine hs ∧ hs.length ≤ 4096) := by
  obtain ⟨h4, hok⟩ := chk_fine fs h0
  obtain ⟨hm, he⟩ := look_mem hl
  have hn := idx_ex fs nm hm he
  have hrs : rsN fs nm = 0 := by unfold rsN; rw [if_pos hn]
  have hsy : synF fs nm = ⟨nm, g.da, (g.da.size : Nat)⟩ := by unfold synF; rw [hl]
  have hg := hf g hm
  unfold synO outO
  rw [if_pos h0, if_neg (by simp), hrs, if_pos rfl, hsy]
  refine ⟨fun h => by rw [if_pos h]; rfl, fun h => ?_⟩
  rw [if_neg h]
  have hlen : (putF fs ⟨nm, g.da, (g.da.size : Nat)⟩).length ≤ 4096 := by rw [put_len _ hok]; simp only; rw [if_pos hn]; exact h4
  refine ⟨_, rfl, chk_of hlen (put_ok hok _ (by simp)), look_put hok ⟨nm, g.da, (g.da.size : Nat)⟩, put_fine hf hok _ ?_, hlen⟩
  have h7 := hg.1
  simp only [maxLen] at *
  exact ⟨h7, by omega, by omega⟩
/-- A file that is synced is there behind any crash. -/
theorem crash_look {fs : List Fl} {ks : List Int} {nm : ByteArray} {g : Fl} (h0 : chkN fs = 0) (hl : look fs nm = some g) (hs : g.sy = (g.da.size : Nat)) :
    chkN (crS fs ks fs.length) = 0 ∧ look (crS fs ks fs.length) nm = some g := by
  have h9 : chkN (crS fs ks fs.length) = 0 := chk_same fs _ h0 (crS_len _ _ _) (fun i i1 i2 => by obtain ⟨D, e, -⟩ := crS_each fs ks h0 i i2 i1; rw [e]) (fun i i1 => by obtain ⟨D, e, -⟩ := crS_each fs ks h0 i (by rw [crS_len] at i1; exact i1) i1; rw [e]; simp)
  refine ⟨h9, ?_⟩
  obtain ⟨hm, he⟩ := look_mem hl
  have hsr := ok_srt (chk_fine _ h9).2
  have hmem : g ∈ crS fs ks fs.length := by
    obtain ⟨i, hi, hgi⟩ := List.getElem_of_mem hm
    have hi2 : i < (crS fs ks fs.length).length := by rw [crS_len]; exact hi
    obtain ⟨D, e, d1, d2, d3⟩ := crS_each fs ks h0 i hi hi2
    rw [hgi] at e d1 d2 d3
    have hD : D.size = g.da.size := by omega
    rw [hD, ext_all] at d3
    refine List.mem_iff_getElem.2 ⟨i, hi2, ?_⟩
    rw [e, ← d3, ← hs]
  rw [← he]
  exact look_of hsr hmem

set_option maxRecDepth 100000 in
set_option maxHeartbeats 4000000 in
theorem behind_power (a : Option Addr) (c : Nat) (ka : Option Addr) (kc : Nat) (dn : Bool) (fu : Int) (fs : List Fl) (ks : List Int) (nm da ot : ByteArray) (w : World) (hv : Files w w.heap.size (.slice a fs.length c) fs) (_hk : Ints w w.heap.size (.slice ka ks.length kc) ks) (y : ByteArray) (re : Nat) (HR1 : Hid (∀ w1, Files w1 w1.heap.size (.slice a fs.length c) fs → Calls Try.prog 24 #[.agg #[.slice a fs.length c, .bool dn, .int .i64 fu], .string nm] w1 fun e w' => e = .returned (.tuple #[.string y, .int .i64 (re : Nat)]) ∧ Below w1.heap.size w1 w')) (gs : List Fl) (dn2 : Bool) (fu2 : Int)  (HA : Hid (∀ w1, Files w1 w1.heap.size (.slice a fs.length c) fs → Calls Try.prog 12 #[.agg #[.slice a fs.length c, .bool dn, .int .i64 fu], .string nm, .string da] w1 (DoIs w1 gs dn2 fu2 8))) :
    Calls Try.prog 8 #[.agg #[.slice a fs.length c, .bool dn, .int .i64 fu], .string nm, .string da, .string ot, .slice ka ks.length kc] w fun e w' => e = .returned (.bool true) ∧ Below w.heap.size w w' := by
  have HS0 := Lib.hid (St.made (dn := dn) (fu := fu) hv)
  have h1 := lives (w.alloc (.cells #[.slice a fs.length c, .bool dn, .int .i64 fu] 24))
  go_enter Try.func8, Try.ntmps8
  go_wp2_with (go_at_call 18; go_loud (refine h1.mono ?_; rintro e w1 ⟨rfl, hb⟩; obtain ⟨hd, d0, d1, d2, dl⟩ := HS0.out.after hb; have HD1 := Lib.hid hd; clear hb hd))
  go_wp2_with (go_at_call 24; go_loud (refine (HR1.out _ HD1.out.files).mono ?_; rintro e w2 ⟨rfl, hb⟩; obtain ⟨hd, d0, d1, d2, dl⟩ := HD1.out.after hb; have HD2 := Lib.hid hd; clear hb hd HD1))
  go_wp2_with (go_at_call 12; go_loud (refine (HA.out _ HD2.out.files).mono ?_; rintro e w3 ⟨v3, rfl, hown, hb⟩; obtain ⟨a3, c3, rfl⟩ := hown.slice; have HB3 := Lib.hid ((HD2.out.keep (hb.alloc hb.size (.cells #[.slice a3 gs.length c3, .bool dn2, .int .i64 fu2] 24))).below); clear hown hb))
  go_ret
  exact ⟨by rfl, HB3.out⟩

set_option maxRecDepth 100000 in
set_option maxHeartbeats 4000000 in
theorem behind_not (a : Option Addr) (c : Nat) (ka : Option Addr) (kc : Nat) (dn : Bool) (fu : Int) (fs : List Fl) (ks : List Int) (nm da ot : ByteArray) (w : World) (hv : Files w w.heap.size (.slice a fs.length c) fs) (_hk : Ints w w.heap.size (.slice ka ks.length kc) ks) (y : ByteArray) (re : Nat) (HR1 : Hid (∀ w1, Files w1 w1.heap.size (.slice a fs.length c) fs → Calls Try.prog 24 #[.agg #[.slice a fs.length c, .bool dn, .int .i64 fu], .string nm] w1 fun e w' => e = .returned (.tuple #[.string y, .int .i64 (re : Nat)]) ∧ Below w1.heap.size w1 w')) (gs : List Fl) (dn2 : Bool) (fu2 : Int) (r : Nat) (HA : Hid (∀ w1, Files w1 w1.heap.size (.slice a fs.length c) fs → Calls Try.prog 12 #[.agg #[.slice a fs.length c, .bool dn, .int .i64 fu], .string nm, .string da] w1 (DoIs w1 gs dn2 fu2 r))) (hf : Fine gs) (hl : gs.length ≤ 4611686018427387904) (hr0 : r ≠ 0) (hr8 : r ≠ 8) (hsame : (dn2 = false ∧ fu2 = 0 ∧ gs = []) ∨ (dn2 = dn ∧ fu2 = fu ∧ gs = fs)) :
    Calls Try.prog 8 #[.agg #[.slice a fs.length c, .bool dn, .int .i64 fu], .string nm, .string da, .string ot, .slice ka ks.length kc] w fun e w' => e = .returned (.bool true) ∧ Below w.heap.size w w' := by
  have t1 : ¬ ((r : Int) = 0) := by omega
  have t2 : ((r : Int) == 8) = false := by simp; omega
  have t3 : decide ((r : Int) = 8) = false := by simp; omega
  have t4 : ¬ ((r : Int) = 8) := by omega
  have HF := Lib.hid hf
  have HN0 : Hid (∀ w1 : World, Files w1 w1.heap.size (.slice none 0 0) []) := fun w1 => nil_files w1
  have HSM := Lib.hid hsame
  clear hsame hf hr0 hr8
  have HS0 := Lib.hid (St.made (dn := dn) (fu := fu) hv)
  have h1 := lives (w.alloc (.cells #[.slice a fs.length c, .bool dn, .int .i64 fu] 24))
  go_enter Try.func8, Try.ntmps8
  go_wp2_with (go_at_call 18; go_loud (refine h1.mono ?_; rintro e w1 ⟨rfl, hb⟩; obtain ⟨hd, d0, d1, d2, dl⟩ := HS0.out.after hb; have HD1 := Lib.hid hd; clear hb hd))
  go_wp2_with (go_at_call 24; go_loud (refine (HR1.out _ HD1.out.files).mono ?_; rintro e w2 ⟨rfl, hb⟩; obtain ⟨hd, d0, d1, d2, dl⟩ := HD1.out.after hb; have HD2 := Lib.hid hd; clear hb hd HD1))
  go_wp2_with (go_at_call 12; go_loud (refine (HA.out _ HD2.out.files).mono ?_; intro e w3 hc; obtain ⟨a3, c3, rfl, hb, hz⟩ := hc.var HD2.out.below HF.out hl; obtain ⟨hd, d0, d1, d2, dl⟩ := HD2.out.next hb (.cells #[.slice a3 gs.length c3, .bool dn2, .int .i64 fu2] 24); have HE3 := Lib.hid hz; have HD3 := Lib.hid hd; clear hc hb hz hd))
  go_wp2_with (first
    | (go_at_call 19; go_loud (refine (same_ref _ _ dn2 false fu2 0 gs [] _ HE3.out.files (HN0.out _)).mono ?_; rintro e w4 ⟨⟨b, rfl, hbt⟩, hb⟩; obtain ⟨hz, e0, e1, e2, el⟩ := HE3.out.after hb; obtain ⟨hd, d0, d1, d2, dl⟩ := HD3.out.after hb; have HE4 := Lib.hid hz; have HD4 := Lib.hid hd; have HBT := Lib.hid hbt; have HB4 := Lib.hid HE4.out.below; clear hb hz hd hbt HE3 HD3; cases b))
    | (go_at_call 19; go_loud (refine (same_ref _ _ dn2 dn fu2 fu gs fs _ HE4.out.files HD4.out.files).mono ?_; rintro e w5 ⟨⟨b, rfl, hbt⟩, hb⟩; obtain rfl : b = true := hbt.2 (HSM.out.resolve_left (fun h => Bool.noConfusion (HBT.out.2 h))); have HB5 := Lib.hid (HE4.out.keep hb).below; clear hb hbt HE4)))
  · go_ret
    exact ⟨by rfl, HB5.out⟩
  · go_ret
    exact ⟨by rfl, HB4.out⟩

set_option maxRecDepth 100000 in
set_option maxHeartbeats 4000000 in
theorem behind_same (a : Option Addr) (c : Nat) (ka : Option Addr) (kc : Nat) (dn : Bool) (fu : Int) (fs : List Fl) (ks : List Int) (nm da ot : ByteArray) (w : World) (hv : Files w w.heap.size (.slice a fs.length c) fs) (_hk : Ints w w.heap.size (.slice ka ks.length kc) ks) (y : ByteArray) (re : Nat) (hre : re = 0 ∨ re = 6) (HR1 : Hid (∀ w1, Files w1 w1.heap.size (.slice a fs.length c) fs → Calls Try.prog 24 #[.agg #[.slice a fs.length c, .bool dn, .int .i64 fu], .string nm] w1 fun e w' => e = .returned (.tuple #[.string y, .int .i64 (re : Nat)]) ∧ Below w1.heap.size w1 w')) (gs : List Fl) (fu2 : Int)  (HA : Hid (∀ w1, Files w1 w1.heap.size (.slice a fs.length c) fs → Calls Try.prog 12 #[.agg #[.slice a fs.length c, .bool dn, .int .i64 fu], .string nm, .string da] w1 (DoIs w1 gs false fu2 0))) (now : ByteArray) (hnow : y ++ da = now) (hysz : y.size + da.size ≤ 9223372036854775807) (HR2 : Hid (∀ w1 a1 c1, Files w1 w1.heap.size (.slice a1 (gs).length c1) gs → Calls Try.prog 24 #[.agg #[.slice a1 (gs).length c1, .bool false, .int .i64 fu2], .string nm] w1 fun e w' => e = .returned (.tuple #[.string now, .int .i64 (0 : Nat)]) ∧ Below w1.heap.size w1 w')) (x : ByteArray) (rx : Nat) (HRX : Hid (∀ w1, Files w1 w1.heap.size (.slice a fs.length c) fs → Calls Try.prog 24 #[.agg #[.slice a fs.length c, .bool dn, .int .i64 fu], .string ot] w1 fun e w' => e = .returned (.tuple #[.string x, .int .i64 (rx : Nat)]) ∧ Below w1.heap.size w1 w')) (x2 : ByteArray) (rx2 : Nat) (HRY : Hid (∀ w1 a1 c1, Files w1 w1.heap.size (.slice a1 (gs).length c1) gs → Calls Try.prog 24 #[.agg #[.slice a1 (gs).length c1, .bool false, .int .i64 fu2], .string ot] w1 fun e w' => e = .returned (.tuple #[.string x2, .int .i64 (rx2 : Nat)]) ∧ Below w1.heap.size w1 w')) (hot : ot = nm) (hf : Fine gs) (hl : gs.length ≤ 4611686018427387904) (hs : List Fl) (dn3 : Bool) (fu3 : Int) (r3 : Nat) (HSY : Hid (∀ w1 a1 c1, Files w1 w1.heap.size (.slice a1 gs.length c1) gs → Calls Try.prog 14 #[.agg #[.slice a1 gs.length c1, .bool false, .int .i64 fu2], .string nm] w1 (DoIs w1 hs dn3 fu3 r3))) (hf3 : Fine hs) (hl3 : hs.length ≤ 4611686018427387904) (hcase : (r3 = 8 ∧ dn3 = true) ∨ (r3 = 0 ∧ ∃ cs : List Fl, Fine cs ∧ cs.length ≤ 4611686018427387904 ∧ (∀ w1 a1 c1, Files w1 w1.heap.size (.slice a1 hs.length c1) hs → Below w.heap.size w w1 → Calls Try.prog 30 #[.agg #[.slice a1 hs.length c1, .bool dn3, .int .i64 fu3], .slice ka ks.length kc] w1 (DoIs w1 cs false (-1) 0)) ∧ (∀ w1 a1 c1, Files w1 w1.heap.size (.slice a1 cs.length c1) cs → Calls Try.prog 24 #[.agg #[.slice a1 cs.length c1, .bool false, .int .i64 (-1)], .string nm] w1 fun e w' => e = .returned (.tuple #[.string now, .int .i64 0]) ∧ Below w1.heap.size w1 w'))) :
    Calls Try.prog 8 #[.agg #[.slice a fs.length c, .bool dn, .int .i64 fu], .string nm, .string da, .string ot, .slice ka ks.length kc] w fun e w' => e = .returned (.bool true) ∧ Below w.heap.size w w' := by
  have HF := Lib.hid hf
  have HF3 := Lib.hid hf3
  have t9 : ¬ (9223372036854775807 < y.size + da.size) := by omega
  subst hot
  subst hnow
  clear hysz hf hf3
  rcases hre with rfl | rfl
  · rcases hcase with ⟨rfl, rfl⟩ | ⟨rfl, cs, hfc, hlc, hcr, hrc⟩
    · skip
      have HS0 := Lib.hid (St.made (dn := dn) (fu := fu) hv)
      have h1 := lives (w.alloc (.cells #[.slice a fs.length c, .bool dn, .int .i64 fu] 24))
      go_enter Try.func8, Try.ntmps8
      go_wp2_with (go_at_call 18; go_loud (refine h1.mono ?_; rintro e w1 ⟨rfl, hb⟩; obtain ⟨hd, d0, d1, d2, dl⟩ := HS0.out.after hb; have HD1 := Lib.hid hd; clear hb hd))
      go_wp2_with (go_at_call 24; go_loud (refine (HR1.out _ HD1.out.files).mono ?_; rintro e w2 ⟨rfl, hb⟩; obtain ⟨hd, d0, d1, d2, dl⟩ := HD1.out.after hb; have HD2 := Lib.hid hd; clear hb hd HD1))
      go_wp2_with (go_at_call 12; go_loud (refine (HA.out _ HD2.out.files).mono ?_; intro e w3 hc; obtain ⟨a3, c3, rfl, hb, hz⟩ := hc.var HD2.out.below HF.out hl; obtain ⟨hd, d0, d1, d2, dl⟩ := HD2.out.next hb (.cells #[.slice a3 gs.length c3, .bool false, .int .i64 fu2] 24); have HE3 := Lib.hid hz; have HD3 := Lib.hid hd; clear hc hb hz hd))
      go_wp2_with (go_at_call 24; go_loud (refine (HR2.out _ _ _ HE3.out.files).mono ?_; rintro e w4 ⟨rfl, hb⟩; obtain ⟨hz, e0, e1, e2, el⟩ := HE3.out.after hb; obtain ⟨hd, d0, d1, d2, dl⟩ := HD3.out.after hb; have HE4 := Lib.hid hz; have HD4 := Lib.hid hd; clear hb hz hd HE3 HD3))
      go_wp2_with (go_at_call 24; go_loud (refine (HRX.out _ HD4.out.files).mono ?_; rintro e w5 ⟨rfl, hb⟩; obtain ⟨hz, e0, e1, e2, el⟩ := HE4.out.after hb; have HE5 := Lib.hid hz; clear hb hz HE4 HD4))
      go_wp2_with (go_at_call 24; go_loud (refine (HRY.out _ _ _ HE5.out.files).mono ?_; rintro e w6 ⟨rfl, hb⟩; obtain ⟨hz, e0, e1, e2, el⟩ := HE5.out.after hb; have HE6 := Lib.hid hz; clear hb hz HE5))
      go_wp2_with (go_at_call 14; go_loud (refine (HSY.out _ _ _ HE6.out.files).mono ?_; intro e w7 hc; obtain ⟨a7, c7, rfl, hb, hz⟩ := hc.var HE6.out.below HF3.out hl3; have HF7 := Lib.hid hz; have HB7 := Lib.hid hz.below; clear hc hb hz))
      go_ret
      exact ⟨by rfl, HB7.out⟩
    · have HFC := Lib.hid hfc
      have HCR := Lib.hid hcr
      have HRC := Lib.hid hrc
      clear hfc hcr hrc
      have HS0 := Lib.hid (St.made (dn := dn) (fu := fu) hv)
      have h1 := lives (w.alloc (.cells #[.slice a fs.length c, .bool dn, .int .i64 fu] 24))
      go_enter Try.func8, Try.ntmps8
      go_wp2_with (go_at_call 18; go_loud (refine h1.mono ?_; rintro e w1 ⟨rfl, hb⟩; obtain ⟨hd, d0, d1, d2, dl⟩ := HS0.out.after hb; have HD1 := Lib.hid hd; clear hb hd))
      go_wp2_with (go_at_call 24; go_loud (refine (HR1.out _ HD1.out.files).mono ?_; rintro e w2 ⟨rfl, hb⟩; obtain ⟨hd, d0, d1, d2, dl⟩ := HD1.out.after hb; have HD2 := Lib.hid hd; clear hb hd HD1))
      go_wp2_with (go_at_call 12; go_loud (refine (HA.out _ HD2.out.files).mono ?_; intro e w3 hc; obtain ⟨a3, c3, rfl, hb, hz⟩ := hc.var HD2.out.below HF.out hl; obtain ⟨hd, d0, d1, d2, dl⟩ := HD2.out.next hb (.cells #[.slice a3 gs.length c3, .bool false, .int .i64 fu2] 24); have HE3 := Lib.hid hz; have HD3 := Lib.hid hd; clear hc hb hz hd))
      go_wp2_with (go_at_call 24; go_loud (refine (HR2.out _ _ _ HE3.out.files).mono ?_; rintro e w4 ⟨rfl, hb⟩; obtain ⟨hz, e0, e1, e2, el⟩ := HE3.out.after hb; obtain ⟨hd, d0, d1, d2, dl⟩ := HD3.out.after hb; have HE4 := Lib.hid hz; have HD4 := Lib.hid hd; clear hb hz hd HE3 HD3))
      go_wp2_with (go_at_call 24; go_loud (refine (HRX.out _ HD4.out.files).mono ?_; rintro e w5 ⟨rfl, hb⟩; obtain ⟨hz, e0, e1, e2, el⟩ := HE4.out.after hb; have HE5 := Lib.hid hz; clear hb hz HE4 HD4))
      go_wp2_with (go_at_call 24; go_loud (refine (HRY.out _ _ _ HE5.out.files).mono ?_; rintro e w6 ⟨rfl, hb⟩; obtain ⟨hz, e0, e1, e2, el⟩ := HE5.out.after hb; have HE6 := Lib.hid hz; clear hb hz HE5))
      go_wp2_with (go_at_call 14; go_loud (refine (HSY.out _ _ _ HE6.out.files).mono ?_; intro e w7 hc; obtain ⟨a7, c7, rfl, hb, hz⟩ := hc.var HE6.out.below HF3.out hl3; have HF7 := Lib.hid hz; have HB7 := Lib.hid hz.below; clear hc hb hz))
      go_wp2_with (go_at_call 30; go_loud (refine (HCR.out _ _ _ HF7.out.files HF7.out.below).mono ?_; intro e w8 hc; obtain ⟨v8, rfl, ⟨a8, c8, rfl⟩, hs8, hS, -⟩ := HF7.out.step hc HFC.out hlc; obtain ⟨d0, d1, d2, d3, d4, d5⟩ := hs8.dx; have HS8 := Lib.hid hS; unfold st3 at HS8; clear hS hs8 hc))
      go_wp2_with (go_at_call 24; go_loud (refine (HRC.out _ _ _ HS8.out.files).mono ?_; rintro e w9 ⟨rfl, hb⟩; have HB9 := Lib.hid (HS8.out.keep hb).below; clear hb HS8))
      go_ret
      exact ⟨by rfl, HB9.out⟩
  · rcases hcase with ⟨rfl, rfl⟩ | ⟨rfl, cs, hfc, hlc, hcr, hrc⟩
    · skip
      have HS0 := Lib.hid (St.made (dn := dn) (fu := fu) hv)
      have h1 := lives (w.alloc (.cells #[.slice a fs.length c, .bool dn, .int .i64 fu] 24))
      go_enter Try.func8, Try.ntmps8
      go_wp2_with (go_at_call 18; go_loud (refine h1.mono ?_; rintro e w1 ⟨rfl, hb⟩; obtain ⟨hd, d0, d1, d2, dl⟩ := HS0.out.after hb; have HD1 := Lib.hid hd; clear hb hd))
      go_wp2_with (go_at_call 24; go_loud (refine (HR1.out _ HD1.out.files).mono ?_; rintro e w2 ⟨rfl, hb⟩; obtain ⟨hd, d0, d1, d2, dl⟩ := HD1.out.after hb; have HD2 := Lib.hid hd; clear hb hd HD1))
      go_wp2_with (go_at_call 12; go_loud (refine (HA.out _ HD2.out.files).mono ?_; intro e w3 hc; obtain ⟨a3, c3, rfl, hb, hz⟩ := hc.var HD2.out.below HF.out hl; obtain ⟨hd, d0, d1, d2, dl⟩ := HD2.out.next hb (.cells #[.slice a3 gs.length c3, .bool false, .int .i64 fu2] 24); have HE3 := Lib.hid hz; have HD3 := Lib.hid hd; clear hc hb hz hd))
      go_wp2_with (go_at_call 24; go_loud (refine (HR2.out _ _ _ HE3.out.files).mono ?_; rintro e w4 ⟨rfl, hb⟩; obtain ⟨hz, e0, e1, e2, el⟩ := HE3.out.after hb; obtain ⟨hd, d0, d1, d2, dl⟩ := HD3.out.after hb; have HE4 := Lib.hid hz; have HD4 := Lib.hid hd; clear hb hz hd HE3 HD3))
      go_wp2_with (go_at_call 24; go_loud (refine (HRX.out _ HD4.out.files).mono ?_; rintro e w5 ⟨rfl, hb⟩; obtain ⟨hz, e0, e1, e2, el⟩ := HE4.out.after hb; have HE5 := Lib.hid hz; clear hb hz HE4 HD4))
      go_wp2_with (go_at_call 24; go_loud (refine (HRY.out _ _ _ HE5.out.files).mono ?_; rintro e w6 ⟨rfl, hb⟩; obtain ⟨hz, e0, e1, e2, el⟩ := HE5.out.after hb; have HE6 := Lib.hid hz; clear hb hz HE5))
      go_wp2_with (go_at_call 14; go_loud (refine (HSY.out _ _ _ HE6.out.files).mono ?_; intro e w7 hc; obtain ⟨a7, c7, rfl, hb, hz⟩ := hc.var HE6.out.below HF3.out hl3; have HF7 := Lib.hid hz; have HB7 := Lib.hid hz.below; clear hc hb hz))
      go_ret
      exact ⟨by rfl, HB7.out⟩
    · have HFC := Lib.hid hfc
      have HCR := Lib.hid hcr
      have HRC := Lib.hid hrc
      clear hfc hcr hrc
      have HS0 := Lib.hid (St.made (dn := dn) (fu := fu) hv)
      have h1 := lives (w.alloc (.cells #[.slice a fs.length c, .bool dn, .int .i64 fu] 24))
      go_enter Try.func8, Try.ntmps8
      go_wp2_with (go_at_call 18; go_loud (refine h1.mono ?_; rintro e w1 ⟨rfl, hb⟩; obtain ⟨hd, d0, d1, d2, dl⟩ := HS0.out.after hb; have HD1 := Lib.hid hd; clear hb hd))
      go_wp2_with (go_at_call 24; go_loud (refine (HR1.out _ HD1.out.files).mono ?_; rintro e w2 ⟨rfl, hb⟩; obtain ⟨hd, d0, d1, d2, dl⟩ := HD1.out.after hb; have HD2 := Lib.hid hd; clear hb hd HD1))
      go_wp2_with (go_at_call 12; go_loud (refine (HA.out _ HD2.out.files).mono ?_; intro e w3 hc; obtain ⟨a3, c3, rfl, hb, hz⟩ := hc.var HD2.out.below HF.out hl; obtain ⟨hd, d0, d1, d2, dl⟩ := HD2.out.next hb (.cells #[.slice a3 gs.length c3, .bool false, .int .i64 fu2] 24); have HE3 := Lib.hid hz; have HD3 := Lib.hid hd; clear hc hb hz hd))
      go_wp2_with (go_at_call 24; go_loud (refine (HR2.out _ _ _ HE3.out.files).mono ?_; rintro e w4 ⟨rfl, hb⟩; obtain ⟨hz, e0, e1, e2, el⟩ := HE3.out.after hb; obtain ⟨hd, d0, d1, d2, dl⟩ := HD3.out.after hb; have HE4 := Lib.hid hz; have HD4 := Lib.hid hd; clear hb hz hd HE3 HD3))
      go_wp2_with (go_at_call 24; go_loud (refine (HRX.out _ HD4.out.files).mono ?_; rintro e w5 ⟨rfl, hb⟩; obtain ⟨hz, e0, e1, e2, el⟩ := HE4.out.after hb; have HE5 := Lib.hid hz; clear hb hz HE4 HD4))
      go_wp2_with (go_at_call 24; go_loud (refine (HRY.out _ _ _ HE5.out.files).mono ?_; rintro e w6 ⟨rfl, hb⟩; obtain ⟨hz, e0, e1, e2, el⟩ := HE5.out.after hb; have HE6 := Lib.hid hz; clear hb hz HE5))
      go_wp2_with (go_at_call 14; go_loud (refine (HSY.out _ _ _ HE6.out.files).mono ?_; intro e w7 hc; obtain ⟨a7, c7, rfl, hb, hz⟩ := hc.var HE6.out.below HF3.out hl3; have HF7 := Lib.hid hz; have HB7 := Lib.hid hz.below; clear hc hb hz))
      go_wp2_with (go_at_call 30; go_loud (refine (HCR.out _ _ _ HF7.out.files HF7.out.below).mono ?_; intro e w8 hc; obtain ⟨v8, rfl, ⟨a8, c8, rfl⟩, hs8, hS, -⟩ := HF7.out.step hc HFC.out hlc; obtain ⟨d0, d1, d2, d3, d4, d5⟩ := hs8.dx; have HS8 := Lib.hid hS; unfold st3 at HS8; clear hS hs8 hc))
      go_wp2_with (go_at_call 24; go_loud (refine (HRC.out _ _ _ HS8.out.files).mono ?_; rintro e w9 ⟨rfl, hb⟩; have HB9 := Lib.hid (HS8.out.keep hb).below; clear hb HS8))
      go_ret
      exact ⟨by rfl, HB9.out⟩

set_option maxRecDepth 100000 in
set_option maxHeartbeats 4000000 in
theorem behind_else (a : Option Addr) (c : Nat) (ka : Option Addr) (kc : Nat) (dn : Bool) (fu : Int) (fs : List Fl) (ks : List Int) (nm da ot : ByteArray) (w : World) (hv : Files w w.heap.size (.slice a fs.length c) fs) (_hk : Ints w w.heap.size (.slice ka ks.length kc) ks) (y : ByteArray) (re : Nat) (hre : re = 0 ∨ re = 6) (HR1 : Hid (∀ w1, Files w1 w1.heap.size (.slice a fs.length c) fs → Calls Try.prog 24 #[.agg #[.slice a fs.length c, .bool dn, .int .i64 fu], .string nm] w1 fun e w' => e = .returned (.tuple #[.string y, .int .i64 (re : Nat)]) ∧ Below w1.heap.size w1 w')) (gs : List Fl) (fu2 : Int)  (HA : Hid (∀ w1, Files w1 w1.heap.size (.slice a fs.length c) fs → Calls Try.prog 12 #[.agg #[.slice a fs.length c, .bool dn, .int .i64 fu], .string nm, .string da] w1 (DoIs w1 gs false fu2 0))) (now : ByteArray) (hnow : y ++ da = now) (hysz : y.size + da.size ≤ 9223372036854775807) (HR2 : Hid (∀ w1 a1 c1, Files w1 w1.heap.size (.slice a1 (gs).length c1) gs → Calls Try.prog 24 #[.agg #[.slice a1 (gs).length c1, .bool false, .int .i64 fu2], .string nm] w1 fun e w' => e = .returned (.tuple #[.string now, .int .i64 (0 : Nat)]) ∧ Below w1.heap.size w1 w')) (x : ByteArray) (rx : Nat) (HRX : Hid (∀ w1, Files w1 w1.heap.size (.slice a fs.length c) fs → Calls Try.prog 24 #[.agg #[.slice a fs.length c, .bool dn, .int .i64 fu], .string ot] w1 fun e w' => e = .returned (.tuple #[.string x, .int .i64 (rx : Nat)]) ∧ Below w1.heap.size w1 w')) (HRY : Hid (∀ w1 a1 c1, Files w1 w1.heap.size (.slice a1 (gs).length c1) gs → Calls Try.prog 24 #[.agg #[.slice a1 (gs).length c1, .bool false, .int .i64 fu2], .string ot] w1 fun e w' => e = .returned (.tuple #[.string x, .int .i64 (rx : Nat)]) ∧ Below w1.heap.size w1 w')) (hot : ot ≠ nm) (hf : Fine gs) (hl : gs.length ≤ 4611686018427387904) (hs : List Fl) (dn3 : Bool) (fu3 : Int) (r3 : Nat) (HSY : Hid (∀ w1 a1 c1, Files w1 w1.heap.size (.slice a1 gs.length c1) gs → Calls Try.prog 14 #[.agg #[.slice a1 gs.length c1, .bool false, .int .i64 fu2], .string nm] w1 (DoIs w1 hs dn3 fu3 r3))) (hf3 : Fine hs) (hl3 : hs.length ≤ 4611686018427387904) (hcase : (r3 = 8 ∧ dn3 = true) ∨ (r3 = 0 ∧ ∃ cs : List Fl, Fine cs ∧ cs.length ≤ 4611686018427387904 ∧ (∀ w1 a1 c1, Files w1 w1.heap.size (.slice a1 hs.length c1) hs → Below w.heap.size w w1 → Calls Try.prog 30 #[.agg #[.slice a1 hs.length c1, .bool dn3, .int .i64 fu3], .slice ka ks.length kc] w1 (DoIs w1 cs false (-1) 0)) ∧ (∀ w1 a1 c1, Files w1 w1.heap.size (.slice a1 cs.length c1) cs → Calls Try.prog 24 #[.agg #[.slice a1 cs.length c1, .bool false, .int .i64 (-1)], .string nm] w1 fun e w' => e = .returned (.tuple #[.string now, .int .i64 0]) ∧ Below w1.heap.size w1 w'))) :
    Calls Try.prog 8 #[.agg #[.slice a fs.length c, .bool dn, .int .i64 fu], .string nm, .string da, .string ot, .slice ka ks.length kc] w fun e w' => e = .returned (.bool true) ∧ Below w.heap.size w w' := by
  have HF := Lib.hid hf
  have HF3 := Lib.hid hf3
  have t9 : ¬ (9223372036854775807 < y.size + da.size) := by omega
  have t8 : (ot.toList == nm.toList) = false := by
    cases hb : ot.toList == nm.toList with
    | false => rfl
    | true => exact absurd (toList_inj (by simpa using hb)) hot
  clear hot
  subst hnow
  clear hysz hf hf3
  rcases hre with rfl | rfl
  · rcases hcase with ⟨rfl, rfl⟩ | ⟨rfl, cs, hfc, hlc, hcr, hrc⟩
    · skip
      have HS0 := Lib.hid (St.made (dn := dn) (fu := fu) hv)
      have h1 := lives (w.alloc (.cells #[.slice a fs.length c, .bool dn, .int .i64 fu] 24))
      go_enter Try.func8, Try.ntmps8
      go_wp2_with (go_at_call 18; go_loud (refine h1.mono ?_; rintro e w1 ⟨rfl, hb⟩; obtain ⟨hd, d0, d1, d2, dl⟩ := HS0.out.after hb; have HD1 := Lib.hid hd; clear hb hd))
      go_wp2_with (go_at_call 24; go_loud (refine (HR1.out _ HD1.out.files).mono ?_; rintro e w2 ⟨rfl, hb⟩; obtain ⟨hd, d0, d1, d2, dl⟩ := HD1.out.after hb; have HD2 := Lib.hid hd; clear hb hd HD1))
      go_wp2_with (go_at_call 12; go_loud (refine (HA.out _ HD2.out.files).mono ?_; intro e w3 hc; obtain ⟨a3, c3, rfl, hb, hz⟩ := hc.var HD2.out.below HF.out hl; obtain ⟨hd, d0, d1, d2, dl⟩ := HD2.out.next hb (.cells #[.slice a3 gs.length c3, .bool false, .int .i64 fu2] 24); have HE3 := Lib.hid hz; have HD3 := Lib.hid hd; clear hc hb hz hd))
      go_wp2_with (go_at_call 24; go_loud (refine (HR2.out _ _ _ HE3.out.files).mono ?_; rintro e w4 ⟨rfl, hb⟩; obtain ⟨hz, e0, e1, e2, el⟩ := HE3.out.after hb; obtain ⟨hd, d0, d1, d2, dl⟩ := HD3.out.after hb; have HE4 := Lib.hid hz; have HD4 := Lib.hid hd; clear hb hz hd HE3 HD3))
      go_wp2_with (go_at_call 24; go_loud (refine (HRX.out _ HD4.out.files).mono ?_; rintro e w5 ⟨rfl, hb⟩; obtain ⟨hz, e0, e1, e2, el⟩ := HE4.out.after hb; have HE5 := Lib.hid hz; clear hb hz HE4 HD4))
      go_wp2_with (go_at_call 24; go_loud (refine (HRY.out _ _ _ HE5.out.files).mono ?_; rintro e w6 ⟨rfl, hb⟩; obtain ⟨hz, e0, e1, e2, el⟩ := HE5.out.after hb; have HE6 := Lib.hid hz; clear hb hz HE5))
      go_wp2_with (go_at_call 14; go_loud (refine (HSY.out _ _ _ HE6.out.files).mono ?_; intro e w7 hc; obtain ⟨a7, c7, rfl, hb, hz⟩ := hc.var HE6.out.below HF3.out hl3; have HF7 := Lib.hid hz; have HB7 := Lib.hid hz.below; clear hc hb hz))
      go_ret
      exact ⟨by rfl, HB7.out⟩
    · have HFC := Lib.hid hfc
      have HCR := Lib.hid hcr
      have HRC := Lib.hid hrc
      clear hfc hcr hrc
      have HS0 := Lib.hid (St.made (dn := dn) (fu := fu) hv)
      have h1 := lives (w.alloc (.cells #[.slice a fs.length c, .bool dn, .int .i64 fu] 24))
      go_enter Try.func8, Try.ntmps8
      go_wp2_with (go_at_call 18; go_loud (refine h1.mono ?_; rintro e w1 ⟨rfl, hb⟩; obtain ⟨hd, d0, d1, d2, dl⟩ := HS0.out.after hb; have HD1 := Lib.hid hd; clear hb hd))
      go_wp2_with (go_at_call 24; go_loud (refine (HR1.out _ HD1.out.files).mono ?_; rintro e w2 ⟨rfl, hb⟩; obtain ⟨hd, d0, d1, d2, dl⟩ := HD1.out.after hb; have HD2 := Lib.hid hd; clear hb hd HD1))
      go_wp2_with (go_at_call 12; go_loud (refine (HA.out _ HD2.out.files).mono ?_; intro e w3 hc; obtain ⟨a3, c3, rfl, hb, hz⟩ := hc.var HD2.out.below HF.out hl; obtain ⟨hd, d0, d1, d2, dl⟩ := HD2.out.next hb (.cells #[.slice a3 gs.length c3, .bool false, .int .i64 fu2] 24); have HE3 := Lib.hid hz; have HD3 := Lib.hid hd; clear hc hb hz hd))
      go_wp2_with (go_at_call 24; go_loud (refine (HR2.out _ _ _ HE3.out.files).mono ?_; rintro e w4 ⟨rfl, hb⟩; obtain ⟨hz, e0, e1, e2, el⟩ := HE3.out.after hb; obtain ⟨hd, d0, d1, d2, dl⟩ := HD3.out.after hb; have HE4 := Lib.hid hz; have HD4 := Lib.hid hd; clear hb hz hd HE3 HD3))
      go_wp2_with (go_at_call 24; go_loud (refine (HRX.out _ HD4.out.files).mono ?_; rintro e w5 ⟨rfl, hb⟩; obtain ⟨hz, e0, e1, e2, el⟩ := HE4.out.after hb; have HE5 := Lib.hid hz; clear hb hz HE4 HD4))
      go_wp2_with (go_at_call 24; go_loud (refine (HRY.out _ _ _ HE5.out.files).mono ?_; rintro e w6 ⟨rfl, hb⟩; obtain ⟨hz, e0, e1, e2, el⟩ := HE5.out.after hb; have HE6 := Lib.hid hz; clear hb hz HE5))
      go_wp2_with (go_at_call 14; go_loud (refine (HSY.out _ _ _ HE6.out.files).mono ?_; intro e w7 hc; obtain ⟨a7, c7, rfl, hb, hz⟩ := hc.var HE6.out.below HF3.out hl3; have HF7 := Lib.hid hz; have HB7 := Lib.hid hz.below; clear hc hb hz))
      go_wp2_with (go_at_call 30; go_loud (refine (HCR.out _ _ _ HF7.out.files HF7.out.below).mono ?_; intro e w8 hc; obtain ⟨v8, rfl, ⟨a8, c8, rfl⟩, hs8, hS, -⟩ := HF7.out.step hc HFC.out hlc; obtain ⟨d0, d1, d2, d3, d4, d5⟩ := hs8.dx; have HS8 := Lib.hid hS; unfold st3 at HS8; clear hS hs8 hc))
      go_wp2_with (go_at_call 24; go_loud (refine (HRC.out _ _ _ HS8.out.files).mono ?_; rintro e w9 ⟨rfl, hb⟩; have HB9 := Lib.hid (HS8.out.keep hb).below; clear hb HS8))
      go_ret
      exact ⟨by rfl, HB9.out⟩
  · rcases hcase with ⟨rfl, rfl⟩ | ⟨rfl, cs, hfc, hlc, hcr, hrc⟩
    · skip
      have HS0 := Lib.hid (St.made (dn := dn) (fu := fu) hv)
      have h1 := lives (w.alloc (.cells #[.slice a fs.length c, .bool dn, .int .i64 fu] 24))
      go_enter Try.func8, Try.ntmps8
      go_wp2_with (go_at_call 18; go_loud (refine h1.mono ?_; rintro e w1 ⟨rfl, hb⟩; obtain ⟨hd, d0, d1, d2, dl⟩ := HS0.out.after hb; have HD1 := Lib.hid hd; clear hb hd))
      go_wp2_with (go_at_call 24; go_loud (refine (HR1.out _ HD1.out.files).mono ?_; rintro e w2 ⟨rfl, hb⟩; obtain ⟨hd, d0, d1, d2, dl⟩ := HD1.out.after hb; have HD2 := Lib.hid hd; clear hb hd HD1))
      go_wp2_with (go_at_call 12; go_loud (refine (HA.out _ HD2.out.files).mono ?_; intro e w3 hc; obtain ⟨a3, c3, rfl, hb, hz⟩ := hc.var HD2.out.below HF.out hl; obtain ⟨hd, d0, d1, d2, dl⟩ := HD2.out.next hb (.cells #[.slice a3 gs.length c3, .bool false, .int .i64 fu2] 24); have HE3 := Lib.hid hz; have HD3 := Lib.hid hd; clear hc hb hz hd))
      go_wp2_with (go_at_call 24; go_loud (refine (HR2.out _ _ _ HE3.out.files).mono ?_; rintro e w4 ⟨rfl, hb⟩; obtain ⟨hz, e0, e1, e2, el⟩ := HE3.out.after hb; obtain ⟨hd, d0, d1, d2, dl⟩ := HD3.out.after hb; have HE4 := Lib.hid hz; have HD4 := Lib.hid hd; clear hb hz hd HE3 HD3))
      go_wp2_with (go_at_call 24; go_loud (refine (HRX.out _ HD4.out.files).mono ?_; rintro e w5 ⟨rfl, hb⟩; obtain ⟨hz, e0, e1, e2, el⟩ := HE4.out.after hb; have HE5 := Lib.hid hz; clear hb hz HE4 HD4))
      go_wp2_with (go_at_call 24; go_loud (refine (HRY.out _ _ _ HE5.out.files).mono ?_; rintro e w6 ⟨rfl, hb⟩; obtain ⟨hz, e0, e1, e2, el⟩ := HE5.out.after hb; have HE6 := Lib.hid hz; clear hb hz HE5))
      go_wp2_with (go_at_call 14; go_loud (refine (HSY.out _ _ _ HE6.out.files).mono ?_; intro e w7 hc; obtain ⟨a7, c7, rfl, hb, hz⟩ := hc.var HE6.out.below HF3.out hl3; have HF7 := Lib.hid hz; have HB7 := Lib.hid hz.below; clear hc hb hz))
      go_ret
      exact ⟨by rfl, HB7.out⟩
    · have HFC := Lib.hid hfc
      have HCR := Lib.hid hcr
      have HRC := Lib.hid hrc
      clear hfc hcr hrc
      have HS0 := Lib.hid (St.made (dn := dn) (fu := fu) hv)
      have h1 := lives (w.alloc (.cells #[.slice a fs.length c, .bool dn, .int .i64 fu] 24))
      go_enter Try.func8, Try.ntmps8
      go_wp2_with (go_at_call 18; go_loud (refine h1.mono ?_; rintro e w1 ⟨rfl, hb⟩; obtain ⟨hd, d0, d1, d2, dl⟩ := HS0.out.after hb; have HD1 := Lib.hid hd; clear hb hd))
      go_wp2_with (go_at_call 24; go_loud (refine (HR1.out _ HD1.out.files).mono ?_; rintro e w2 ⟨rfl, hb⟩; obtain ⟨hd, d0, d1, d2, dl⟩ := HD1.out.after hb; have HD2 := Lib.hid hd; clear hb hd HD1))
      go_wp2_with (go_at_call 12; go_loud (refine (HA.out _ HD2.out.files).mono ?_; intro e w3 hc; obtain ⟨a3, c3, rfl, hb, hz⟩ := hc.var HD2.out.below HF.out hl; obtain ⟨hd, d0, d1, d2, dl⟩ := HD2.out.next hb (.cells #[.slice a3 gs.length c3, .bool false, .int .i64 fu2] 24); have HE3 := Lib.hid hz; have HD3 := Lib.hid hd; clear hc hb hz hd))
      go_wp2_with (go_at_call 24; go_loud (refine (HR2.out _ _ _ HE3.out.files).mono ?_; rintro e w4 ⟨rfl, hb⟩; obtain ⟨hz, e0, e1, e2, el⟩ := HE3.out.after hb; obtain ⟨hd, d0, d1, d2, dl⟩ := HD3.out.after hb; have HE4 := Lib.hid hz; have HD4 := Lib.hid hd; clear hb hz hd HE3 HD3))
      go_wp2_with (go_at_call 24; go_loud (refine (HRX.out _ HD4.out.files).mono ?_; rintro e w5 ⟨rfl, hb⟩; obtain ⟨hz, e0, e1, e2, el⟩ := HE4.out.after hb; have HE5 := Lib.hid hz; clear hb hz HE4 HD4))
      go_wp2_with (go_at_call 24; go_loud (refine (HRY.out _ _ _ HE5.out.files).mono ?_; rintro e w6 ⟨rfl, hb⟩; obtain ⟨hz, e0, e1, e2, el⟩ := HE5.out.after hb; have HE6 := Lib.hid hz; clear hb hz HE5))
      go_wp2_with (go_at_call 14; go_loud (refine (HSY.out _ _ _ HE6.out.files).mono ?_; intro e w7 hc; obtain ⟨a7, c7, rfl, hb, hz⟩ := hc.var HE6.out.below HF3.out hl3; have HF7 := Lib.hid hz; have HB7 := Lib.hid hz.below; clear hc hb hz))
      go_wp2_with (go_at_call 30; go_loud (refine (HCR.out _ _ _ HF7.out.files HF7.out.below).mono ?_; intro e w8 hc; obtain ⟨v8, rfl, ⟨a8, c8, rfl⟩, hs8, hS, -⟩ := HF7.out.step hc HFC.out hlc; obtain ⟨d0, d1, d2, d3, d4, d5⟩ := hs8.dx; have HS8 := Lib.hid hS; unfold st3 at HS8; clear hS hs8 hc))
      go_wp2_with (go_at_call 24; go_loud (refine (HRC.out _ _ _ HS8.out.files).mono ?_; rintro e w9 ⟨rfl, hb⟩; have HB9 := Lib.hid (HS8.out.keep hb).below; clear hb HS8))
      go_ret
      exact ⟨by rfl, HB9.out⟩
end Dk
end Go.Proofs.Ytohhiheebhcgeaa
