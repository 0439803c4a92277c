/-
  Crash as a whole, the program's and the document's; variables that hold what a call answered; LAW: DiskCrashes.
-/
import Derived.Test.YtohhiheebhcgeaaDiskCrashT
import Derived.Test.YtohhiheebhcgeaaDiskAsks
namespace Go.Proofs.Ytohhiheebhcgeaa
open Go.RowKit Go.Lib Go.Sort
namespace Dk
def crV (fs : List Fl) (ks : List Int) : List Fl := if chkN fs = 0 then crS fs ks fs.length else []
def crU (fs : List Fl) : Int := if chkN fs = 0 then -1 else 0
def crE (fs : List Fl) : Nat := if chkN fs = 0 then 0 else 10
theorem crash_all (v kv : Value) (dn : Bool) (fu : Int) (fs : List Fl) (ks : List Int) (w : World) (hv : Files w w.heap.size v fs) (hk : Ints w w.heap.size kv ks) :
    Calls Try.prog 30 #[.agg #[v, .bool dn, .int .i64 fu], kv] w (DoIs w (crV fs ks) false (crU fs) (crE fs)) := by
  unfold crV crU crE
  by_cases h : chkN fs = 0
  · rw [if_pos h, if_pos h, if_pos h]; exact crash_own v kv dn fu fs ks w hv hk h
  · rw [if_neg h, if_neg h, if_neg h]; exact crash_bad v kv dn fu fs w hv h
theorem crashR_all (v kv : Value) (dn : Bool) (fu : Int) (fs : List Fl) (ks : List Int) (w : World) (hv : Files w w.heap.size v fs) (hk : Ints w w.heap.size kv ks) :
    Calls Try.prog 31 #[.agg #[v, .bool dn, .int .i64 fu], kv] w (DoIs w (crV fs ks) false (crU fs) (crE fs)) := by
  unfold crV crU crE
  by_cases h : chkN fs = 0
  · rw [if_pos h, if_pos h, if_pos h]; exact crashR_ok v kv dn fu fs ks w hv hk h
  · rw [if_neg h, if_neg h, if_neg h]; exact crashR_bad v kv dn fu fs w hv h
theorem crN_le (f : Fl) (o : Option Int) (h : 0 ≤ f.sy ∧ f.sy ≤ f.da.size) : f.sy ≤ (crN f o : Nat) ∧ crN f o ≤ f.da.size := by
  unfold crN
  cases o with
  | none => simp; omega
  | some k =>
    simp only
    split
    · omega
    · split <;> omega
theorem crM_at (fs : List Fl) (ks : List Int) (k i : Nat) (h : i < k) (hk : k ≤ fs.length) : (crM fs ks k)[i]'(by rw [crM_len]; exact h) = crF (fs[i]'(by omega)) (crN (fs[i]'(by omega)) ks[i]?) := by
  simp only [crM, List.getElem_map, List.getElem_range]
  rw [List.getElem?_eq_getElem (by omega)]
theorem crV_fine (fs : List Fl) (ks : List Int) (hf : Fine fs) : Fine (crV fs ks) := by
  unfold crV
  by_cases h : chkN fs = 0
  · rw [if_pos h, crS_crM]
    intro f hm
    obtain ⟨i, hi, rfl⟩ := List.getElem_of_mem hm
    rw [crM_len] at hi
    rw [crM_at fs ks _ i hi (Nat.le_refl _)]
    have h1 := sy_fine fs (chk_fine fs h).2 i hi
    have h2 := crN_le fs[i] ks[i]? h1
    have h3 := (hf _ (List.getElem_mem hi)).1
    simp only [crF, maxLen] at *
    refine ⟨?_, by omega, by omega⟩
    rw [ByteArray.size_extract]
    omega
  · rw [if_neg h]; intro f hm; simp at hm
theorem crV_len (fs : List Fl) (ks : List Int) (hl : fs.length ≤ 4611686018427387904) : (crV fs ks).length ≤ 4611686018427387904 := by
  unfold crV
  split
  · rw [crS_len]; exact hl
  · simp
theorem Ints.keep {w w' : World} {B : Nat} {v : Value} {ks : List Int} (h : Ints w B v ks) (hb : Below B w w') : Ints w' B v ks := by
  obtain ⟨a, c, rfl, h1, h2, h3⟩ := h
  refine ⟨a, c, rfl, h1, h2, fun hp => ?_⟩
  obtain ⟨b, off, rfl, hlt, hc⟩ := h3 hp
  exact ⟨b, off, rfl, hlt, fun i hi => (hb.cell (by exact hlt)).trans (hc i hi)⟩
theorem Ints.more {w : World} {B B' : Nat} {v : Value} {ks : List Int} (h : Ints w B v ks) (hb : B ≤ B') : Ints w B' v ks := by
  obtain ⟨a, c, rfl, h1, h2, h3⟩ := h
  refine ⟨a, c, rfl, h1, h2, fun hp => ?_⟩
  obtain ⟨b, off, rfl, hlt, hc⟩ := h3 hp
  exact ⟨b, off, rfl, by omega, hc⟩
theorem Ints.on {w w' : World} {v : Value} {ks : List Int} (h : Ints w w.heap.size v ks) (hb : Below w.heap.size w w') : Ints w' w'.heap.size v ks := (h.keep hb).more hb.size
theorem Files.fine {w : World} {B : Nat} {v : Value} {fs : List Fl} (h : Files w B v fs) : Fine fs := by obtain ⟨_, _, _, _, h, _⟩ := h; exact h
theorem Files.len {w : World} {B : Nat} {v : Value} {fs : List Fl} (h : Files w B v fs) : fs.length ≤ 4611686018427387904 := by obtain ⟨_, _, _, h, _⟩ := h; exact h
/-- What a copy leaves, laid into a variable of its own. -/
theorem CopyIs.var {w x x' : World} {fs : List Fl} {dn : Bool} {fu : Int} {e : Ending} (h : CopyIs x fs dn fu e x') (hw : Below w.heap.size w x) (hf : Fine fs) (hl : fs.length ≤ 4611686018427387904) :
    ∃ a c, e = .returned (.agg #[.slice a fs.length c, .bool dn, .int .i64 fu]) ∧ Below x.heap.size x x' ∧ St w x'.heap.size (x'.alloc (.cells #[.slice a fs.length c, .bool dn, .int .i64 fu] 24)) (.slice a fs.length c) dn fu fs := by
  obtain ⟨v', rfl, ho, hb⟩ := h
  obtain ⟨a, c, rfl⟩ := ho.slice
  exact ⟨a, c, rfl, hb, Nat.le_trans hw.size hb.size, by simp, (hw.trans (hb.mono hw.size)).alloc (Nat.le_trans hw.size hb.size) _, Dx.made _ _ _ _, (ho.files hf hl).al _⟩
theorem DoIs.var {w x x' : World} {fs : List Fl} {dn : Bool} {fu : Int} {r : Nat} {e : Ending} (h : DoIs x fs dn fu r e x') (hw : Below w.heap.size w x) (hf : Fine fs) (hl : fs.length ≤ 4611686018427387904) :
    ∃ a c, e = .returned (.tuple #[.agg #[.slice a fs.length c, .bool dn, .int .i64 fu], .int .i64 (r : Nat)]) ∧ Below x.heap.size x x' ∧ St w x'.heap.size (x'.alloc (.cells #[.slice a fs.length c, .bool dn, .int .i64 fu] 24)) (.slice a fs.length c) dn fu fs := by
  obtain ⟨v', rfl, ho, hb⟩ := h
  obtain ⟨a, c, rfl⟩ := ho.slice
  exact ⟨a, c, rfl, hb, Nat.le_trans hw.size hb.size, by simp, (hw.trans (hb.mono hw.size)).alloc (Nat.le_trans hw.size hb.size) _, Dx.made _ _ _ _, (ho.files hf hl).al _⟩
/-- Behind a call, and a variable laid behind it. -/
theorem St.next {w x x' : World} {B : Nat} {a : Option Addr} {c : Nat} {dn : Bool} {fu : Int} {fs : List Fl} (h : St w B x (.slice a fs.length c) dn fu fs) (hb : Below x.heap.size x x') (o : Obj) :
    St w B (x'.alloc o) (.slice a fs.length c) dn fu fs ∧ x'.cell? ⟨B, 0, none⟩ = some (.slice a fs.length c) ∧ x'.cell? ⟨B, 1, none⟩ = some (.bool dn) ∧ x'.cell? ⟨B, 2, none⟩ = some (.int .i64 fu) ∧ B < x'.heap.size :=
  ⟨h.keep (hb.alloc hb.size _), (h.keep hb).dx.d0, (h.keep hb).dx.d1, (h.keep hb).dx.d2, (h.keep hb).hi⟩
theorem St.after {w x x' : World} {B : Nat} {a : Option Addr} {c : Nat} {dn : Bool} {fu : Int} {fs : List Fl} (h : St w B x (.slice a fs.length c) dn fu fs) (hb : Below x.heap.size x x') :
    St w B x' (.slice a fs.length c) dn fu fs ∧ x'.cell? ⟨B, 0, none⟩ = some (.slice a fs.length c) ∧ x'.cell? ⟨B, 1, none⟩ = some (.bool dn) ∧ x'.cell? ⟨B, 2, none⟩ = some (.int .i64 fu) ∧ B < x'.heap.size :=
  ⟨h.keep hb, (h.keep hb).dx.d0, (h.keep hb).dx.d1, (h.keep hb).dx.d2, (h.keep hb).hi⟩

set_option maxRecDepth 100000 in
set_option maxHeartbeats 4000000 in
theorem diskCrashes (v kv : Value) (dn : Bool) (fu : Int) (fs : List Fl) (ks : List Int) (w : World) (hv : Files w w.heap.size v fs) (hk : Ints w w.heap.size kv ks) (h40 : fs.length * 40 ≤ 140737488355328) :
    Calls Try.prog 6 #[.agg #[v, .bool dn, .int .i64 fu], kv] w fun e w' => e = .returned (.bool true) ∧ Below w.heap.size w w' := by
  have HV := Lib.hid hv
  have HK := Lib.hid hk
  obtain ⟨a, c, rfl, -⟩ := hv
  obtain ⟨ka, kc, rfl, -⟩ := hk
  have HS0 := Lib.hid (St.made (dn := dn) (fu := fu) HV.out)
  have h1 := copy_ref _ dn fu fs _ HS0.out.files h40
  have HF := Lib.hid HV.out.fine
  have HL := Lib.hid HV.out.len
  have HCO : Hid (∀ w1 a1 c1, Files w1 w1.heap.size (.slice a1 fs.length c1) fs → Below w.heap.size w w1 → Calls Try.prog 30 #[.agg #[.slice a1 fs.length c1, .bool dn, .int .i64 fu], .slice ka ks.length kc] w1 (DoIs w1 (crV fs ks) false (crU fs) (crE fs))) := fun w1 _ _ hf hb => crash_all _ _ dn fu fs ks w1 hf (HK.out.on hb)
  have HCR : Hid (∀ w1 a1 c1, Files w1 w1.heap.size (.slice a1 fs.length c1) fs → Below w.heap.size w w1 → Calls Try.prog 31 #[.agg #[.slice a1 fs.length c1, .bool dn, .int .i64 fu], .slice ka ks.length kc] w1 (DoIs w1 (crV fs ks) false (crU fs) (crE fs))) := fun w1 _ _ hf hb => crashR_all _ _ dn fu fs ks w1 hf (HK.out.on hb)
  have HVF := Lib.hid (crV_fine fs ks HF.out)
  have HVL := Lib.hid (crV_len fs ks HL.out)
  generalize crV fs ks = vs at *
  generalize crU fs = vu at *
  generalize crE fs = ve at *
  clear h40
  go_enter Try.func6, Try.ntmps6
  go_wp2_with (go_at_call 11; go_loud (refine h1.mono ?_; intro e w1 hc; obtain ⟨a1, c1, rfl, hb, hg⟩ := hc.var HS0.out.below HF.out HL.out; obtain ⟨hd, d0, d1, d2, dl⟩ := HS0.out.next hb (.cells #[.slice a1 fs.length c1, .bool dn, .int .i64 fu] 24); have HG1 := Lib.hid hg; have HD1 := Lib.hid hd; clear hc hb hg hd))
  go_wp2_with (go_at_call 30; go_loud (refine (HCO.out _ _ _ HG1.out.files HG1.out.below).mono ?_; intro e w2 hc; obtain ⟨a2, c2, rfl, hb, ha⟩ := hc.var HG1.out.below HVF.out HVL.out; obtain ⟨hd, d0, d1, d2, dl⟩ := HD1.out.next hb (.cells #[.slice a2 vs.length c2, .bool false, .int .i64 vu] 24); obtain ⟨hg, g0, g1, g2, gl⟩ := HG1.out.next hb (.cells #[.slice a2 vs.length c2, .bool false, .int .i64 vu] 24); have HA2 := Lib.hid ha; have HD2 := Lib.hid hd; have HG2 := Lib.hid hg; clear hc hb ha hg hd))
  go_wp2_with (go_at_call 31; go_loud (refine (HCR.out _ _ _ HD2.out.files HD2.out.below).mono ?_; intro e w3 hc; obtain ⟨a3, c3, rfl, hb, hz⟩ := hc.var HD2.out.below HVF.out HVL.out; obtain ⟨hd, d0, d1, d2, dl⟩ := HD2.out.next hb (.cells #[.slice a3 vs.length c3, .bool false, .int .i64 vu] 24); obtain ⟨hg, g0, g1, g2, gl⟩ := HG2.out.next hb (.cells #[.slice a3 vs.length c3, .bool false, .int .i64 vu] 24); obtain ⟨ha, p0, p1, p2, pl⟩ := HA2.out.next hb (.cells #[.slice a3 vs.length c3, .bool false, .int .i64 vu] 24); have HA3 := Lib.hid ha; have HD3 := Lib.hid hd; have HG3 := Lib.hid hg; have HB3 := Lib.hid hz; clear hc hb ha hg hd hz))
  go_wp2_with (first
    | (go_at_call 18; go_loud (refine (lives _).mono ?_; rintro e w4 ⟨rfl, hb⟩; obtain ⟨hd, d0, d1, d2, dl⟩ := HD3.out.after hb; obtain ⟨hg, g0, g1, g2, gl⟩ := HG3.out.after hb; obtain ⟨ha, p0, p1, p2, pl⟩ := HA3.out.after hb; obtain ⟨hz, q0, q1, q2, ql⟩ := HB3.out.after hb; have HA4 := Lib.hid ha; have HD4 := Lib.hid hd; have HG4 := Lib.hid hg; have HB4 := Lib.hid hz; clear hb ha hg hd hz))
    | (go_at_call 19; go_loud (refine (same_ref _ _ _ _ _ _ _ _ _ HA4.out.files HB4.out.files).mono ?_; rintro e w5 ⟨⟨b, rfl, hbt⟩, hb⟩; obtain rfl : b = true := hbt.2 ⟨rfl, rfl, rfl⟩; obtain ⟨hd, d0, d1, d2, dl⟩ := HD4.out.after hb; obtain ⟨hg, g0, g1, g2, gl⟩ := HG4.out.after hb; have HD5 := Lib.hid hd; have HG5 := Lib.hid hg; clear hb hg hd hbt HA4))
    | (go_at_call 19; go_loud (refine (same_ref _ _ _ _ _ _ _ _ _ HG5.out.files HD5.out.files).mono ?_; rintro e w6 ⟨⟨b, rfl, hbt⟩, hb⟩; obtain rfl : b = true := hbt.2 ⟨rfl, rfl, rfl⟩; have HB6 := Lib.hid (HD5.out.keep hb).below; clear hb hbt)))
  go_ret
  exact ⟨by rfl, HB6.out⟩
end Dk
end Go.Proofs.Ytohhiheebhcgeaa
