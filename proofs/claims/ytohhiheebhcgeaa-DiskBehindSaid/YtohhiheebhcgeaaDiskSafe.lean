/-
  LAW: DiskSafe.
-/
import Derived.Test.YtohhiheebhcgeaaDiskCr
namespace Go.Proofs.Ytohhiheebhcgeaa
open Go.RowKit Go.Lib Go.Sort
namespace Dk
theorem chk_same (fs gs : List Fl) (h : chkN fs = 0) (hl : gs.length = fs.length) (hn : ∀ i (h1 : i < gs.length) (h2 : i < fs.length), gs[i].nm = fs[i].nm) (hb : ∀ i (h1 : i < gs.length), 0 ≤ gs[i].sy ∧ gs[i].sy ≤ gs[i].da.size) : chkN gs = 0 := by
  obtain ⟨h4, hok⟩ := chk_fine fs h
  refine chk_good gs (by omega) ?_
  unfold okTo
  rw [List.all_eq_true]
  intro i hi
  have hi := List.mem_range.1 hi
  have h2 : i < fs.length := by omega
  have hf := okAt_of fs hok i h2
  obtain ⟨b1, b2⟩ := hb i hi
  cases i with
  | zero =>
    rw [okAt_zero gs hi]
    simp; omega
  | succ j =>
    rw [okAt_succ fs j h2] at hf
    rw [okAt_succ gs j hi, hn j (by omega) (by omega), hn (j + 1) hi h2]
    simp at hf ⊢
    exact ⟨⟨hf.1.1, by omega⟩, by omega⟩
/-- What a crash leaves of a right disk, file by file. -/
theorem crS_each (fs : List Fl) (ks : List Int) (h : chkN fs = 0) (i : Nat) (hi : i < fs.length) (hi2 : i < (crS fs ks fs.length).length) :
    ∃ D : ByteArray, (crS fs ks fs.length)[i] = ⟨fs[i].nm, D, (D.size : Nat)⟩ ∧ fs[i].sy ≤ (D.size : Nat) ∧ D.size ≤ fs[i].da.size ∧ fs[i].da.extract 0 D.size = D := by
  have h1 := sy_fine fs (chk_fine fs h).2 i hi
  have h2 := crN_le fs[i] ks[i]? h1
  have e : (crS fs ks fs.length)[i] = crF fs[i] (crN fs[i] ks[i]?) := by
    have := crM_at fs ks _ i hi (Nat.le_refl _)
    rw [← this]
    congr 1
    exact crS_crM fs ks
  have hs : (fs[i].da.extract 0 (crN fs[i] ks[i]?)).size = crN fs[i] ks[i]? := by rw [ByteArray.size_extract]; omega
  refine ⟨fs[i].da.extract 0 (crN fs[i] ks[i]?), ?_, ?_, ?_, ?_⟩
  · rw [e, hs]; rfl
  · rw [hs]; exact h2.1
  · rw [hs]; exact h2.2
  · rw [hs]
theorem crS_again (gs : List Fl) (ks : List Int) (h : ∀ i (h1 : i < gs.length), gs[i].sy = (gs[i].da.size : Nat)) : crS gs ks gs.length = gs := by
  rw [crS_crM]
  apply List.ext_getElem (crM_len _ _ _)
  intro i h1 h2
  rw [crM_at gs ks _ i h2 (Nat.le_refl _)]
  have e := h i h2
  have hn : crN gs[i] ks[i]? = gs[i].da.size := by
    have := crN_le gs[i] ks[i]? ⟨by omega, by omega⟩
    omega
  rw [hn]
  unfold crF
  rw [ext_all]
  rcases hg : gs[i] with ⟨a, b, c⟩
  rw [hg] at e
  simp at e ⊢
  omega

set_option maxRecDepth 100000 in
set_option maxHeartbeats 4000000 in
theorem diskSafe (v kv kv2 : Value) (dn : Bool) (fu : Int) (fs : List Fl) (ks ks2 : List Int) (w : World) (hv : Files w w.heap.size v fs) (hk : Ints w w.heap.size kv ks) (hk2 : Ints w w.heap.size kv2 ks2) :
    Calls Try.prog 7 #[.agg #[v, .bool dn, .int .i64 fu], kv, kv2] w fun e w' => e = .returned (.bool true) ∧ Below w.heap.size w w' := by
  have HV := Lib.hid hv
  have HK := Lib.hid hk
  have HK2 := Lib.hid hk2
  obtain ⟨a, c, rfl, hl, hfi, hc⟩ := hv
  have HC := Lib.hid hc
  have HFI := Lib.hid hfi
  clear hc hfi
  obtain ⟨ka, kc, rfl, -⟩ := hk
  obtain ⟨ka2, kc2, rfl, -⟩ := hk2
  have HS0 := Lib.hid (St.made (dn := dn) (fu := fu) HV.out)
  have h1 := lives (w.alloc (.cells #[.slice a fs.length c, .bool dn, .int .i64 fu] 24))
  have HF := Lib.hid HV.out.fine
  have HCK : Hid (∀ w1 a1 c1, Files w1 w1.heap.size (.slice a1 fs.length c1) fs → Calls Try.prog 28 #[.agg #[.slice a1 fs.length c1, .bool dn, .int .i64 fu]] w1 fun e w' => e = .returned (.int .i64 (chkN fs : Nat)) ∧ Below w1.heap.size w1 w') := fun w1 _ _ hf => check_own _ dn fu fs w1 hf
  by_cases h0 : chkN fs = 0
  · have HCO : Hid (∀ w1, Files w1 w1.heap.size (.slice a fs.length c) fs → Below w.heap.size w w1 → Calls Try.prog 30 #[.agg #[.slice a fs.length c, .bool dn, .int .i64 fu], .slice ka ks.length kc] w1 (DoIs w1 (crS fs ks fs.length) false (-1) 0)) := fun w1 hf hb => crash_own _ _ dn fu fs ks w1 hf (HK.out.on hb) h0
    have hgl := crS_len fs ks fs.length
    have HG : Hid (∀ i (hi : i < fs.length) (hi2 : i < (crS fs ks fs.length).length), ∃ D : ByteArray, (crS fs ks fs.length)[i] = ⟨fs[i].nm, D, (D.size : Nat)⟩ ∧ fs[i].sy ≤ (D.size : Nat) ∧ D.size ≤ fs[i].da.size ∧ fs[i].da.extract 0 D.size = D) := fun i hi hi2 => crS_each fs ks h0 i hi hi2
    have HGF := Lib.hid (by have := crV_fine fs ks HF.out; unfold crV at this; rw [if_pos h0] at this; exact this)
    generalize crS fs ks fs.length = gs at *
    have h9 : chkN gs = 0 := chk_same fs gs h0 hgl (fun i i1 i2 => by obtain ⟨D, e, -⟩ := HG.out i i2 i1; rw [e]) (fun i i1 => by obtain ⟨D, e, -⟩ := HG.out i (by omega) i1; rw [e]; simp)
    have h8 : ∀ ks3, crS gs ks3 gs.length = gs := fun ks3 => crS_again gs ks3 (fun i i1 => by obtain ⟨D, e, -⟩ := HG.out i (by omega) i1; rw [e])
    have HC2 : Hid (∀ w1 a1 c1, Files w1 w1.heap.size (.slice a1 gs.length c1) gs → Below w.heap.size w w1 → Calls Try.prog 30 #[.agg #[.slice a1 gs.length c1, .bool false, .int .i64 (-1)], .slice ka2 ks2.length kc2] w1 (DoIs w1 gs false (-1) 0)) := fun w1 a1 c1 hf hb => by
      have := crash_own (.slice a1 gs.length c1) _ false (-1) gs ks2 w1 hf (HK2.out.on hb) h9
      rw [h8] at this
      exact this
    have HC3 : Hid (∀ w1 a1 c1, Files w1 w1.heap.size (.slice a1 gs.length c1) gs → Calls Try.prog 28 #[.agg #[.slice a1 gs.length c1, .bool false, .int .i64 (-1)]] w1 fun e w' => e = .returned (.int .i64 0) ∧ Below w1.heap.size w1 w') := fun w1 a1 c1 hf => by
      have := check_own (.slice a1 gs.length c1) false (-1) gs w1 hf
      rw [h9] at this
      exact this
    have HSM : Hid (∀ w1 a1 c1 a2 c2, Files w1 w1.heap.size (.slice a1 gs.length c1) gs → Files w1 w1.heap.size (.slice a2 gs.length c2) gs → Calls Try.prog 19 #[.agg #[.slice a1 gs.length c1, .bool false, .int .i64 (-1)], .agg #[.slice a2 gs.length c2, .bool false, .int .i64 (-1)]] w1 fun e w' => e = .returned (.bool true) ∧ Below w1.heap.size w1 w') := fun w1 a1 c1 a2 c2 hf hf2 =>
      (same_ref _ _ false false (-1) (-1) gs gs w1 hf hf2).mono (by rintro e w5 ⟨⟨b, rfl, hbt⟩, hb⟩; obtain rfl : b = true := hbt.2 ⟨rfl, rfl, rfl⟩; exact ⟨rfl, hb⟩)
    have HGL := Lib.hid hgl
    have hll : gs.length ≤ 4611686018427387904 := by omega
    have t0 : (gs.length : Int) = (fs.length : Int) := by omega
    clear h9 h8 hgl h0 HCK
    go_enter Try.func7, Try.ntmps7
    go_wp2_with (go_at_call 18; go_loud (refine h1.mono ?_; rintro e w1 ⟨rfl, hb⟩; obtain ⟨hd, d0, d1, d2, dl⟩ := HS0.out.after hb; have HD1 := Lib.hid hd; clear hb hd))
    go_wp2_with (go_at_call 30; go_loud (refine (HCO.out _ HD1.out.files HD1.out.below).mono ?_; intro e w2 hc; obtain ⟨a2, c2, rfl, hb, hz⟩ := hc.var HD1.out.below HGF.out hll; obtain ⟨hd, d0, d1, d2, dl⟩ := HD1.out.next hb (.cells #[.slice a2 gs.length c2, .bool false, .int .i64 (-1)] 24); have HE2 := Lib.hid hz; have HD2 := Lib.hid hd; clear hc hb hd hz))
    go_wp2_with (go_at_call 28; go_loud (refine (HC3.out _ _ _ HE2.out.files).mono ?_; rintro e w3 ⟨rfl, hb⟩; obtain ⟨hd, d0, d1, d2, dl⟩ := HD2.out.after hb; obtain ⟨hz, e0, e1, e2, el⟩ := HE2.out.after hb; have HE3 := Lib.hid hz; have HD3 := Lib.hid hd; clear hb hd hz))
    go_loopg [58] fs.length (fun g i wx => ∃ k : Nat, k + g = fs.length ∧ i = .int .i64 k ∧ Below w3.heap.size w3 wx)
    case atStart => exact ⟨0, by omega, rfl, Below.refl _ _⟩
    case round =>
      obtain ⟨k, hkg, rfl, hbx⟩ := hrel
      have HX := Lib.hid hbx
      obtain ⟨hd, d0, d1, d2, dl⟩ := HD3.out.after hbx
      obtain ⟨hz, e0, e1, e2, el⟩ := HE3.out.after hbx
      have HE4 := Lib.hid hz
      have HD4 := Lib.hid hd
      cases gk with
      | zero =>
        obtain rfl : k = fs.length := by omega
        clear hkg hbx hd hz
        go_wp2_with (first
          | (go_at_call 30; go_loud (refine (HC2.out _ _ _ HE4.out.files HE4.out.below).mono ?_; intro e w5 hc; obtain ⟨a5, c5, rfl, hb, hq⟩ := hc.var HE4.out.below HGF.out hll; obtain ⟨hz, e0, e1, e2, el⟩ := HE4.out.next hb (.cells #[.slice a5 gs.length c5, .bool false, .int .i64 (-1)] 24); have HE5 := Lib.hid hz; have HQ5 := Lib.hid hq; clear hc hb hz hq))
          | (go_at_call 19; go_loud (refine (HSM.out _ _ _ _ _ HE5.out.files HQ5.out.files).mono ?_; rintro e w6 ⟨rfl, hb⟩; have HB6 := Lib.hid (HE5.out.keep hb).below; clear hb)))
        go_ret
        exact ⟨by rfl, HB6.out⟩
      | succ g =>
        have hlk : k < fs.length := by omega
        have hlg : k < gs.length := by have := HGL.out; omega
        have HGG := Lib.hid hkg
        obtain ⟨b, off, rfl, hblt, hcc⟩ := HC.out (by omega)
        obtain ⟨a9, c9, hq, -, -, hcE⟩ := HE4.out.files
        simp only [Value.slice.injEq] at hq
        obtain ⟨rfl, -, rfl⟩ := hq
        obtain ⟨b2, off2, rfl, hblt2, hcE⟩ := hcE (by omega)
        obtain ⟨c1, c2', c3⟩ := hcc k hlk
        obtain ⟨r1, r2, r3⟩ := hcE k hlg
        obtain ⟨D, hD, hD1, hD2, hD3⟩ := HG.out k hlk hlg
        have k1 := (HD4.out.below.cell hblt).trans c1
        have k2 := (HD4.out.below.cell hblt).trans c2'
        have k3 := (HD4.out.below.cell hblt).trans c3
        rw [hD] at r1 r2 r3
        obtain ⟨hy, hs1, hs2⟩ := HFI.out _ (List.getElem_mem hlk)
        have hbl : b < wr.heap.size := by have := HD4.out.below.size; omega
        clear hkg hbx hd hz hcc hcE c1 c2' c3 hD
        generalize fs[k] = f at *
        rcases f with ⟨nm, y, s⟩
        simp only at k1 k2 k3 r1 r2 r3 hD1 hD2 hD3 hy hs1 hs2
        have hy' : y.size ≤ 9223372036854775807 := by simpa [maxLen] using hy
        have t1 : (k : Int) < (fs.length : Int) := by omega
        have t2 : (0 : Int) ≤ (k : Int) := by omega
        have t3 : decide ((D.size : Int) < s) = false := by simp; omega
        have t4 : decide ((y.size : Int) < (D.size : Int)) = false := by simp; omega
        have t5 : decide (y.size < D.size) = false := by simp; omega
        have t6 : (D.size : Int) ≤ (y.size : Int) := by omega
        have t7 : (0 : Int) ≤ (D.size : Int) := by omega
        go_wp2
        go_quiet (fail)
        go_wp2
        go_roundg g
        case measure => omega
        case rel => exact ⟨k + 1, by have := HGG.out; omega, by go_num, bdN (((HX.out.alloc HX.out.size _).alloc (by simp; have := HX.out.size; omega) _)) _⟩
  · have HCB : Hid (∀ w1, Files w1 w1.heap.size (.slice a fs.length c) fs → Calls Try.prog 30 #[.agg #[.slice a fs.length c, .bool dn, .int .i64 fu], .slice ka ks.length kc] w1 (DoIs w1 [] false 0 10)) := fun w1 hf => crash_bad _ _ dn fu fs w1 hf h0
    have h10 : chkN fs = 10 := by
      unfold chkN at h0 ⊢
      split
      · rfl
      · split
        · rename_i h1 h2; rw [if_neg h1, if_pos h2] at h0; exact absurd rfl h0
        · rfl
    rw [h10] at HCK
    clear h0 h10
    go_enter Try.func7, Try.ntmps7
    go_wp2_with (go_at_call 18; go_loud (refine h1.mono ?_; rintro e w1 ⟨rfl, hb⟩; obtain ⟨hd, d0, d1, d2, dl⟩ := HS0.out.after hb; have HD1 := Lib.hid hd; clear hb hd))
    go_wp2_with (first
      | (go_at_call 30; go_loud (refine (HCB.out _ HD1.out.files).mono ?_; intro e w2 hc; obtain ⟨a2, c2, rfl, hb, hz⟩ := hc.var HD1.out.below (by intro f hf; simp at hf) (by simp); obtain ⟨hd, d0, d1, d2, dl⟩ := HD1.out.next hb (.cells #[.slice a2 0 c2, .bool false, .int .i64 0] 24); have HD2 := Lib.hid hd; clear hc hb hd hz))
      | (go_at_call 28; go_loud (refine (HCK.out _ _ _ HD2.out.files).mono ?_; rintro e w3 ⟨rfl, hb⟩; have HB3 := Lib.hid (HD2.out.keep hb).below; clear hb)))
    go_ret
    exact ⟨by rfl, HB3.out⟩
end Dk
end Go.Proofs.Ytohhiheebhcgeaa
