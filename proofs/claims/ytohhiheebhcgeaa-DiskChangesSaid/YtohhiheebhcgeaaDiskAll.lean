/-
  Add, Sync, Cut, Swap, Drop, whatever the disk is.
-/
import Derived.Test.YtohhiheebhcgeaaDiskMath
import Derived.Test.YtohhiheebhcgeaaDiskRefs
namespace Go.Proofs.Ytohhiheebhcgeaa
open Go.RowKit Go.Lib Go.Sort
namespace Dk
structure Out where
  fs : List Fl
  dn : Bool
  fu : Int
  r : Nat
/-- What a change comes to: r why it is refused, ch what the files are then. -/
def outO (fs : List Fl) (dn : Bool) (fu : Int) (r : Nat) (ch : List Fl) (ad : Bool) : Out :=
  if chkN fs = 0 then (if dn then ⟨fs, true, fu, 8⟩ else if r = 0 then (if fu = 0 then ⟨if ad then ch else fs, true, 0, 8⟩ else ⟨ch, false, if 0 < fu then fu - 1 else fu, 0⟩) else ⟨fs, false, fu, r⟩) else ⟨[], false, 0, 10⟩
theorem do_all (v : Value) (fs : List Fl) (dn : Bool) (fu k : Int) (nm da : ByteArray) (sz : Int) (to : ByteArray) (r : Nat) (ch : List Fl) (hf : Fine fs) (hlo : -9223372036854775808 ≤ fu) (hhi : fu ≤ 9223372036854775807)
    (HR : chkN fs = 0 → Refuses fs k nm da sz to r) (HC : chkN fs = 0 → r = 0 → Changes fs ch k nm da sz to) :
    DoC v dn fu (.agg #[.int .u8 k, .string nm, .string da, .int .i64 sz, .string to]) fs (outO fs dn fu r ch (decide (k = 0))).fs (outO fs dn fu r ch (decide (k = 0))).dn (outO fs dn fu r ch (decide (k = 0))).fu (outO fs dn fu r ch (decide (k = 0))).r := by
  intro w hv
  unfold outO
  by_cases h0 : chkN fs = 0
  · rw [if_pos h0]
    cases dn with
    | true => exact do_down v fs fu k nm da sz to h0 w hv
    | false =>
      rw [if_neg (by simp)]
      by_cases hr : r = 0
      · subst hr
        rw [if_pos rfl]
        by_cases hfu : fu = 0
        · subst hfu
          rw [if_pos rfl]
          by_cases hk : k = 0
          · subst hk
            exact do_fused_add v fs ch nm da sz to hf h0 (HR h0) (HC h0 rfl) w hv
          · simp only [hk, decide_false]
            exact do_fused v fs k nm da sz to hk hf h0 (HR h0) w hv
        · rw [if_neg hfu]
          exact do_ok v fs ch fu k nm da sz to hf h0 hfu hlo hhi (HR h0) (HC h0 rfl) w hv
      · rw [if_neg hr]
        exact do_refused v fs fu k nm da sz to r hr hf h0 (HR h0) w hv
  · rw [if_neg h0]
    exact do_bad v fs dn fu k nm da sz to ((chk_two fs).resolve_left h0) w hv

def addF (fs : List Fl) (nm da : ByteArray) : Fl := match look fs nm with | some f => ⟨nm, f.da ++ da, f.sy⟩ | none => ⟨nm, da, 0⟩
def synF (fs : List Fl) (nm : ByteArray) : Fl := match look fs nm with | some f => ⟨nm, f.da, (f.da.size : Nat)⟩ | none => ⟨nm, ⟨#[]⟩, 0⟩
def cutF (fs : List Fl) (nm : ByteArray) (sz : Int) : Fl := match look fs nm with | some f => ⟨nm, f.da.extract 0 sz.toNat, min f.sy sz⟩ | none => ⟨nm, ⟨#[]⟩, 0⟩
def swpF (fs : List Fl) (nm to : ByteArray) : Fl := match look fs nm with | some f => ⟨to, f.da, f.sy⟩ | none => ⟨to, ⟨#[]⟩, 0⟩
def addO (fs : List Fl) (dn : Bool) (fu : Int) (nm da : ByteArray) : Out := outO fs dn fu (raN fs.length nm (hasN fs nm)) (putF fs (addF fs nm da)) true
def synO (fs : List Fl) (dn : Bool) (fu : Int) (nm : ByteArray) : Out := outO fs dn fu (rsN fs nm) (putF fs (synF fs nm)) false
def cutO (fs : List Fl) (dn : Bool) (fu : Int) (nm : ByteArray) (sz : Int) : Out := outO fs dn fu (rcN fs nm sz) (putF fs (cutF fs nm sz)) false
def swpO (fs : List Fl) (dn : Bool) (fu : Int) (nm to : ByteArray) : Out := outO fs dn fu (rwN fs nm to) (putF (fs.eraseIdx (idxN fs nm)) (swpF fs nm to)) false
def drpO (fs : List Fl) (dn : Bool) (fu : Int) (nm : ByteArray) : Out := outO fs dn fu (rsN fs nm) (fs.eraseIdx (idxN fs nm)) false
theorem look_at (fs : List Fl) (nm : ByteArray) (hn : idxN fs nm < fs.length) : look fs nm = some fs[idxN fs nm] := List.getElem?_eq_getElem hn
theorem look_miss (fs : List Fl) (nm : ByteArray) (hn : ¬ idxN fs nm < fs.length) : look fs nm = none := List.getElem?_eq_none (by omega)

theorem add_all (v : Value) (fs : List Fl) (dn : Bool) (fu : Int) (nm da : ByteArray) (hlo : -9223372036854775808 ≤ fu) (hhi : fu ≤ 9223372036854775807) (hz0 : da.size ≤ 9223372036854775807) (hz : ∀ f ∈ fs, f.da.size + da.size ≤ 9223372036854775807) (w : World) (hv : Files w w.heap.size v fs) :
    Calls Try.prog 12 #[.agg #[v, .bool dn, .int .i64 fu], .string nm, .string da] w (DoIs w (addO fs dn fu nm da).fs (addO fs dn fu nm da).dn (addO fs dn fu nm da).fu (addO fs dn fu nm da).r) := by
  refine add_of v dn fu fs _ _ _ _ nm da ?_ w hv
  refine do_all v fs dn fu 0 nm da 0 ByteArray.empty _ _ hv.fine hlo hhi (fun h0 => ?_) (fun h0 _ => ?_)
  · obtain ⟨h4, hok⟩ := chk_fine fs h0
    exact fun w1 v1 hv1 => refuse_add v1 fs nm da _ 0 w1 hv1 h4 hok
  · obtain ⟨h4, hok⟩ := chk_fine fs h0
    intro base w1 v1 hb ho
    by_cases hn : idxN fs nm < fs.length
    · refine (changed_add_hit v1 fs nm da _ 0 base w1 hb ho hv.fine h4 hok hn (hz _ (List.getElem_mem hn))).mono ?_
      rintro e w' ⟨rfl, h1, h2⟩
      refine ⟨_, rfl, ?_, h2⟩
      unfold putF addF
      rw [look_at fs nm hn]
      simp only
      rw [if_pos hn]
      have e := idx_nm fs nm hn
      generalize fs[idxN fs nm] = f at *
      rcases f with ⟨a, b, c⟩
      simp only at e
      subst e
      exact h1
    · refine (changed_add_miss v1 fs nm da _ 0 base w1 hb ho hv.fine h4 hok hn hz0).mono ?_
      rintro e w' ⟨v', rfl, h1, h2⟩
      refine ⟨_, rfl, ?_, h2⟩
      unfold putF addF
      rw [look_miss fs nm hn]
      simp only
      rw [if_neg hn]
      exact h1
theorem sync_all (v : Value) (fs : List Fl) (dn : Bool) (fu : Int) (nm : ByteArray) (hlo : -9223372036854775808 ≤ fu) (hhi : fu ≤ 9223372036854775807) (w : World) (hv : Files w w.heap.size v fs) :
    Calls Try.prog 14 #[.agg #[v, .bool dn, .int .i64 fu], .string nm] w (DoIs w (synO fs dn fu nm).fs (synO fs dn fu nm).dn (synO fs dn fu nm).fu (synO fs dn fu nm).r) := by
  refine sync_of v dn fu fs _ _ _ _ nm ?_ w hv
  refine do_all v fs dn fu 1 nm ByteArray.empty 0 ByteArray.empty _ _ hv.fine hlo hhi (fun h0 => ?_) (fun h0 hr => ?_)
  · obtain ⟨h4, hok⟩ := chk_fine fs h0
    exact fun w1 v1 hv1 => refuse_sync v1 fs nm _ _ 0 w1 hv1 h4 hok
  · obtain ⟨h4, hok⟩ := chk_fine fs h0
    have hn : idxN fs nm < fs.length := by
      unfold rsN at hr
      split at hr
      · assumption
      · cases hr
    intro base w1 v1 hb ho
    refine (changed_sync_hit v1 fs nm _ _ 0 base w1 hb ho hv.fine h4 hok hn).mono ?_
    rintro e w' ⟨rfl, h1, h2⟩
    refine ⟨_, rfl, ?_, h2⟩
    unfold putF synF
    rw [look_at fs nm hn]
    simp only
    rw [if_pos hn]
    have e := idx_nm fs nm hn
    generalize fs[idxN fs nm] = f at *
    rcases f with ⟨a, b, c⟩
    simp only at e
    subst e
    exact h1
theorem cut_all (v : Value) (fs : List Fl) (dn : Bool) (fu : Int) (nm : ByteArray) (sz : Int) (hlo : -9223372036854775808 ≤ fu) (hhi : fu ≤ 9223372036854775807) (w : World) (hv : Files w w.heap.size v fs) :
    Calls Try.prog 16 #[.agg #[v, .bool dn, .int .i64 fu], .string nm, .int .i64 sz] w (DoIs w (cutO fs dn fu nm sz).fs (cutO fs dn fu nm sz).dn (cutO fs dn fu nm sz).fu (cutO fs dn fu nm sz).r) := by
  refine cut_of v dn fu fs _ _ _ _ nm sz ?_ w hv
  refine do_all v fs dn fu 2 nm ByteArray.empty sz ByteArray.empty _ _ hv.fine hlo hhi (fun h0 => ?_) (fun h0 hr => ?_)
  · obtain ⟨h4, hok⟩ := chk_fine fs h0
    exact fun w1 v1 hv1 => refuse_cut v1 fs nm _ _ sz w1 hv1 h4 hok
  · obtain ⟨h4, hok⟩ := chk_fine fs h0
    have hn : idxN fs nm < fs.length ∧ 0 ≤ sz ∧ sz ≤ (fs[idxN fs nm]?.map (fun f => (f.da.size : Int))).getD 0 := by
      unfold rcN at hr
      by_cases hn : idxN fs nm < fs.length
      · rw [List.getElem?_eq_getElem hn] at hr ⊢
        simp only at hr
        split at hr
        · cases hr
        · rename_i h9
          simp
          exact ⟨hn, by omega, by omega⟩
      · rw [List.getElem?_eq_none (by omega)] at hr
        cases hr
    obtain ⟨hn, h5, h6⟩ := hn
    rw [List.getElem?_eq_getElem hn] at h6
    simp at h6
    obtain ⟨s, rfl⟩ : ∃ s : Nat, sz = s := ⟨sz.toNat, by omega⟩
    intro base w1 v1 hb ho
    refine (changed_cut v1 fs nm _ _ s base w1 hb ho hv.fine h4 hok hn (by omega)).mono ?_
    rintro e w' ⟨v', rfl, h1, h2⟩
    refine ⟨_, rfl, ?_, h2⟩
    unfold putF cutF
    rw [look_at fs nm hn]
    simp only [Int.toNat_natCast]
    rw [if_pos hn]
    have e := idx_nm fs nm hn
    generalize fs[idxN fs nm] = f at *
    rcases f with ⟨a, b, c⟩
    simp only at e
    subst e
    exact h1
theorem rw_zero {fs : List Fl} {nm to : ByteArray} (hr : rwN fs nm to = 0) : idxN fs nm < fs.length := by
  unfold rwN at hr
  by_cases hn : idxN fs nm < fs.length
  · exact hn
  · rw [List.getElem?_eq_none (by omega)] at hr
    cases hr
theorem rs_zero {fs : List Fl} {nm : ByteArray} (hr : rsN fs nm = 0) : idxN fs nm < fs.length := by
  unfold rsN at hr
  split at hr
  · assumption
  · cases hr
theorem swap_all (v : Value) (fs : List Fl) (dn : Bool) (fu : Int) (nm to : ByteArray) (hlo : -9223372036854775808 ≤ fu) (hhi : fu ≤ 9223372036854775807) (w : World) (hv : Files w w.heap.size v fs) :
    Calls Try.prog 20 #[.agg #[v, .bool dn, .int .i64 fu], .string nm, .string to] w (DoIs w (swpO fs dn fu nm to).fs (swpO fs dn fu nm to).dn (swpO fs dn fu nm to).fu (swpO fs dn fu nm to).r) := by
  refine swap_of v dn fu fs _ _ _ _ nm to ?_ w hv
  refine do_all v fs dn fu 3 nm ByteArray.empty 0 to _ _ hv.fine hlo hhi (fun h0 => ?_) (fun h0 hr => ?_)
  · obtain ⟨h4, hok⟩ := chk_fine fs h0
    exact fun w1 v1 hv1 => refuse_swap v1 fs nm _ to 0 w1 hv1 h4 hok
  · obtain ⟨h4, hok⟩ := chk_fine fs h0
    have hn := rw_zero hr
    intro base w1 v1 hb ho
    refine (changed_swap v1 fs nm _ to 0 base w1 hb ho hv.fine h4 hok hn (del_ok hok _)).mono ?_
    rintro e w' ⟨v', rfl, h1, h2⟩
    refine ⟨_, rfl, ?_, h2⟩
    unfold swpF
    rw [look_at fs nm hn]
    exact h1
theorem drop_all (v : Value) (fs : List Fl) (dn : Bool) (fu : Int) (nm : ByteArray) (hlo : -9223372036854775808 ≤ fu) (hhi : fu ≤ 9223372036854775807) (w : World) (hv : Files w w.heap.size v fs) :
    Calls Try.prog 22 #[.agg #[v, .bool dn, .int .i64 fu], .string nm] w (DoIs w (drpO fs dn fu nm).fs (drpO fs dn fu nm).dn (drpO fs dn fu nm).fu (drpO fs dn fu nm).r) := by
  refine drop_of v dn fu fs _ _ _ _ nm ?_ w hv
  refine do_all v fs dn fu 4 nm ByteArray.empty 0 ByteArray.empty _ _ hv.fine hlo hhi (fun h0 => ?_) (fun h0 hr => ?_)
  · obtain ⟨h4, hok⟩ := chk_fine fs h0
    exact fun w1 v1 hv1 => refuse_drop v1 fs nm _ _ 0 w1 hv1 h4 hok
  · obtain ⟨h4, hok⟩ := chk_fine fs h0
    exact fun base w1 v1 hb ho => changed_drop v1 fs nm _ _ 0 base w1 hb ho hv.fine h4 hok (rs_zero hr)
end Dk
end Go.Proofs.Ytohhiheebhcgeaa
