/-
  The document's Crash.
-/
import Derived.Test.YtpncflgcfndhmaaDiskCopy
namespace Go.Proofs.Ytpncflgcfndhmaa
open Go.RowKit Go.Lib Go.Sort
namespace Dk
/-- What is left of the first k files. -/
def crM (fs : List Fl) (ks : List Int) (k : Nat) : List Fl := (List.range k).map fun i => match fs[i]? with | none => ⟨⟨#[]⟩, ⟨#[]⟩, 0⟩ | some f => crF f (crN f ks[i]?)
theorem crM_len (fs : List Fl) (ks : List Int) (k : Nat) : (crM fs ks k).length = k := by simp [crM]
theorem crM_next (fs : List Fl) (ks : List Int) (k : Nat) (h : k < fs.length) : crM fs ks (k + 1) = crM fs ks k ++ [crF fs[k] (crN fs[k] ks[k]?)] := by
  unfold crM
  rw [List.range_succ, List.map_append]
  simp [List.getElem?_eq_getElem h]
theorem crS_at (fs : List Fl) (ks : List Int) : ∀ k i, i < k → k ≤ fs.length → (crS fs ks k)[i]? = (crM fs ks fs.length)[i]?
  | 0, i, h, _ => absurd h (Nat.not_lt_zero _)
  | k + 1, i, h, hk => by
    have hl : k < fs.length := by omega
    rw [crS_next fs ks k hl]
    by_cases hi : i = k
    · subst hi
      rw [List.getElem?_set_self (by rw [crS_len]; exact hl)]
      unfold crM
      rw [List.getElem?_map, List.getElem?_range hl]
      simp [List.getElem?_eq_getElem hl]
    · rw [List.getElem?_set_ne (by omega)]
      exact crS_at fs ks k i (by omega) (by omega)
theorem crS_crM (fs : List Fl) (ks : List Int) : crS fs ks fs.length = crM fs ks fs.length := by
  apply List.ext_getElem?
  intro i
  by_cases h : i < fs.length
  · exact crS_at fs ks _ i h (Nat.le_refl _)
  · rw [List.getElem?_eq_none (by rw [crS_len]; omega), List.getElem?_eq_none (by rw [crM_len]; omega)]
theorem Dx.set0 {B : Nat} {w : World} {v v' : Value} {dn : Bool} {fu : Int} (h : Dx B w v dn fu) : Dx B (w.setCell ⟨B, 0, none⟩ v') v' dn fu := by
  obtain ⟨h0, h1, h2, g0, g1, g2⟩ := h
  have n01 : (⟨B, 0, none⟩ : Addr) ≠ ⟨B, 1, none⟩ := by simp
  have n02 : (⟨B, 0, none⟩ : Addr) ≠ ⟨B, 2, none⟩ := by simp
  refine ⟨World.cell?_setCell_same _ _ _ h0, ?_, ?_, by simp [g0], by simp [g1], by simp [g2]⟩
  · rw [World.cell?_setCell_other _ _ _ _ n01]; exact h1
  · rw [World.cell?_setCell_other _ _ _ _ n02]; exact h2
/-- One file more behind a row of the call's own: what the append leaves. -/
theorem Own.more {w : World} {base : Nat} {v : Value} {fs : List Fl} {f : Fl} (h : w.ownsRow base 59 3 v (fs.length + 1) (flat fs ++ encF f)) : Own w base v (fs ++ [f]) := by
  unfold Own
  rw [flat_app, List.length_append]
  simpa [flat] using h

set_option maxRecDepth 100000 in
set_option maxHeartbeats 4000000 in
theorem crash_bad (v kv : Value) (dn : Bool) (fu : Int) (fs : List Fl) (w : World) (hv : Files w w.heap.size v fs) (h0 : chkN fs ≠ 0) :
    Calls Try.prog 17 #[.agg #[v, .bool dn, .int .i64 fu], kv] w (DoIs w [] false 0 10) := by
  have HV := Lib.hid hv
  obtain ⟨a, c, rfl, -⟩ := hv
  have h10 : chkN fs = 10 := by
    unfold chkN at h0 ⊢
    split
    · rfl
    · split
      · rename_i h1 h2; rw [if_neg h1, if_pos h2] at h0; exact absurd rfl h0
      · rfl
  have h1 := check_own _ dn fu fs _ ((HV.out.al (.cells #[.slice a fs.length c, .bool dn, .int .i64 fu] 24)).al (.cells #[.slice none 0 0, .bool false, .int .i64 0] 24))
  rw [h10] at h1
  have hk := boxes2 w (.slice a fs.length c) (.slice none 0 0) dn false fu 0 #[] 24
  have HW : Hid (Below w.heap.size w ((w.alloc (.cells #[.slice a fs.length c, .bool dn, .int .i64 fu] 24)).alloc (.cells #[.slice none 0 0, .bool false, .int .i64 0] 24))) := ((Below.refl _ _).alloc (Nat.le_refl _) _).alloc (by simp) _
  have HDX : Hid (Dx (w.heap.size + 1) ((w.alloc (.cells #[.slice a fs.length c, .bool dn, .int .i64 fu] 24)).alloc (.cells #[.slice none 0 0, .bool false, .int .i64 0] 24)) (.slice none 0 0) false 0) := by constructor <;> simp [go_sem]
  clear h0 h10 hk
  unfold DoIs
  go_enter Try.func17, Try.ntmps17
  go_wp2
  go_step3
  go_wp2_with (go_at_call 30; go_loud (refine h1.mono ?_; rintro e w1 ⟨rfl, hb⟩; simp only [World.size_alloc] at hb; obtain ⟨d0, d1, d2, f0, f1, f2⟩ := HDX.out.keep hb (by omega); have HB1 := Lib.hid (HW.out.trans (hb.mono (by omega))); have HS1 := Lib.hid (show w.heap.size + 2 ≤ w1.heap.size by have := hb.size; simp at this; omega); clear hb))
  rw [Exit.noGoto_ret]
  refine bodyPost_disk rfl (w.heap.size + 1) (.slice none 0 0) false 0 rfl rfl ?_ ?_ ?_ ?_
  case refine_1 => go_simp
  case refine_2 => go_simp
  case refine_3 => go_simp
  case refine_4 =>
    refine ⟨_, rfl, World.ownsRow_nil _ _ _ _, ?_⟩
    · repeat (first | exact HB1.out | refine bset ?_ (show w.heap.size ≤ w.heap.size + 1 by omega) _)

end Dk
end Go.Proofs.Ytpncflgcfndhmaa
