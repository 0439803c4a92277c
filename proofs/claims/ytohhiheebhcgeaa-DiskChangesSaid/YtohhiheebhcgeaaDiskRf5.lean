/-
  The document's Sync, Cut and Add, whatever the disk is.
-/
import Derived.Test.YtohhiheebhcgeaaDiskSyn
import Derived.Test.YtohhiheebhcgeaaDiskCtr
import Derived.Test.YtohhiheebhcgeaaDiskAdr
namespace Go.Proofs.Ytohhiheebhcgeaa
open Go.RowKit Go.Lib Go.Sort
namespace Dk
theorem sync_ref (v : Value) (fs : List Fl) (dn : Bool) (fu : Int) (nm : ByteArray) (hlo : -9223372036854775808 ≤ fu) (hhi : fu ≤ 9223372036854775807) (h40 : fs.length * 40 ≤ 140737488355328) (w : World) (hv : Files w w.heap.size v fs) :
    Calls Try.prog 15 #[.agg #[v, .bool dn, .int .i64 fu], .string nm] w (DoIs w (synO fs dn fu nm).fs (synO fs dn fu nm).dn (synO fs dn fu nm).fu (synO fs dn fu nm).r) := by
  by_cases hr0 : rdN fs dn = 0
  · obtain ⟨h0, rfl⟩ := rd_chk fs dn hr0
    by_cases hn : idxN fs nm < fs.length
    · by_cases hf0 : fu = 0
      · subst hf0; exact sync_fus v fs nm h40 h0 hn w hv
      · exact sync_run v fs fu nm hlo hhi h40 h0 hn hf0 w hv
    · exact sync_none v fs fu nm hlo hhi h40 h0 hn w hv
  · exact sync_bad v fs dn fu nm hlo hhi h40 hr0 w hv
theorem cut_ref (v : Value) (fs : List Fl) (dn : Bool) (fu : Int) (nm : ByteArray) (sz : Int) (hlo : -9223372036854775808 ≤ fu) (hhi : fu ≤ 9223372036854775807) (h40 : fs.length * 40 ≤ 140737488355328) (w : World) (hv : Files w w.heap.size v fs) :
    Calls Try.prog 17 #[.agg #[v, .bool dn, .int .i64 fu], .string nm, .int .i64 sz] w (DoIs w (cutO fs dn fu nm sz).fs (cutO fs dn fu nm sz).dn (cutO fs dn fu nm sz).fu (cutO fs dn fu nm sz).r) := by
  by_cases hr0 : rdN fs dn = 0
  · obtain ⟨h0, rfl⟩ := rd_chk fs dn hr0
    by_cases hn : idxN fs nm < fs.length
    · by_cases hz : sz < 0
      · exact cutr_low v fs fu nm sz hlo hhi h40 h0 hn hz w hv
      · by_cases hz2 : (fs[idxN fs nm].da.size : Int) < sz
        · exact cutr_high v fs fu nm sz hlo hhi h40 h0 hn hz2 w hv
        · obtain ⟨s, rfl⟩ : ∃ s : Nat, sz = s := ⟨sz.toNat, by omega⟩
          by_cases hf0 : fu = 0
          · subst hf0; exact cutr_fus v fs nm s h40 h0 hn (by omega) w hv
          · by_cases hm : (s : Int) < fs[idxN fs nm].sy
            · exact cutr_run1 v fs fu nm s hlo hhi h40 h0 hn (by omega) hf0 hm w hv
            · exact cutr_run2 v fs fu nm s hlo hhi h40 h0 hn (by omega) hf0 hm w hv
    · exact cutr_none v fs fu nm sz hlo hhi h40 h0 hn w hv
  · exact cutr_bad v fs dn fu nm sz hlo hhi h40 hr0 w hv
theorem add_ref (v : Value) (fs : List Fl) (dn : Bool) (fu : Int) (nm da : ByteArray) (hlo : -9223372036854775808 ≤ fu) (hhi : fu ≤ 9223372036854775807) (h40 : fs.length * 40 ≤ 140737488355328) (hz0 : da.size ≤ 9223372036854775807) (hzz : ∀ f ∈ fs, f.da.size + da.size ≤ 9223372036854775807) (w : World) (hv : Files w w.heap.size v fs) :
    Calls Try.prog 13 #[.agg #[v, .bool dn, .int .i64 fu], .string nm, .string da] w (DoIs w (addO fs dn fu nm da).fs (addO fs dn fu nm da).dn (addO fs dn fu nm da).fu (addO fs dn fu nm da).r) := by
  by_cases hr0 : rdN fs dn = 0
  · obtain ⟨h0, rfl⟩ := rd_chk fs dn hr0
    cases hm : nmOk nm with
    | false => exact addr_name v fs fu nm da hlo hhi h40 h0 hm w hv
    | true =>
      by_cases hn : idxN fs nm < fs.length
      · by_cases hf0 : fu = 0
        · subst hf0; exact addr_hit_fus v fs nm da h40 h0 hm hn hzz w hv
        · exact addr_hit_run v fs fu nm da hlo hhi h40 h0 hm hn hzz hf0 w hv
      · by_cases hz : 4096 ≤ fs.length
        · exact addr_full v fs fu nm da hlo hhi h40 h0 hn hm hz w hv
        · by_cases hf0 : fu = 0
          · subst hf0; exact addr_miss_fus v fs nm da h40 h0 hm hn hz hz0 w hv
          · exact addr_miss_run v fs fu nm da hlo hhi h40 h0 hm hn hz hz0 hf0 w hv
  · exact addr_bad v fs dn fu nm da hlo hhi h40 hr0 w hv
theorem outO_fine {fs : List Fl} {dn : Bool} {fu : Int} {r : Nat} {ch : List Fl} {ad : Bool} (hf : Fine fs) (hl : fs.length ≤ 4611686018427387904) (hc : chkN fs = 0 → r = 0 → Fine ch ∧ ch.length ≤ 4611686018427387904) :
    Fine (outO fs dn fu r ch ad).fs ∧ (outO fs dn fu r ch ad).fs.length ≤ 4611686018427387904 := by
  unfold outO
  by_cases h0 : chkN fs = 0
  · rw [if_pos h0]
    cases dn with
    | true => exact ⟨hf, hl⟩
    | false =>
      rw [if_neg (by simp)]
      by_cases hr : r = 0
      · rw [if_pos hr]
        by_cases hfu : fu = 0
        · rw [if_pos hfu]
          cases ad
          · exact ⟨hf, hl⟩
          · exact hc h0 hr
        · rw [if_neg hfu]; exact hc h0 hr
      · rw [if_neg hr]; exact ⟨hf, hl⟩
  · rw [if_neg h0]; exact ⟨fun f hf => by simp at hf, by simp⟩
theorem put_both {fs : List Fl} (hf : Fine fs) (h0 : chkN fs = 0) (f : Fl) (h1 : f.da.size ≤ maxLen ∧ -9223372036854775808 ≤ f.sy ∧ f.sy ≤ 9223372036854775807) : Fine (putF fs f) ∧ (putF fs f).length ≤ 4611686018427387904 := by
  obtain ⟨h4, hok⟩ := chk_fine fs h0
  refine ⟨put_fine hf hok f h1, ?_⟩
  rw [put_len _ hok]; split <;> omega
theorem addO_fine {fs : List Fl} {dn : Bool} {fu : Int} {nm da : ByteArray} (hf : Fine fs) (hl : fs.length ≤ 4611686018427387904) (hz0 : da.size ≤ 9223372036854775807) (hz : ∀ f ∈ fs, f.da.size + da.size ≤ 9223372036854775807) : Fine (addO fs dn fu nm da).fs ∧ (addO fs dn fu nm da).fs.length ≤ 4611686018427387904 := by
  refine outO_fine hf hl (fun h0 _ => put_both hf h0 _ ?_)
  unfold addF
  cases hl : look fs nm with
  | none => simp only [maxLen]; exact ⟨by omega, by omega, by omega⟩
  | some f =>
    obtain ⟨hm, -⟩ := look_mem hl
    have h1 := hz f hm
    have h2 := hf f hm
    simp only [maxLen]
    rw [ByteArray.size_append]
    exact ⟨by omega, h2.2⟩
theorem synO_fine {fs : List Fl} {dn : Bool} {fu : Int} {nm : ByteArray} (hf : Fine fs) (hl : fs.length ≤ 4611686018427387904) : Fine (synO fs dn fu nm).fs ∧ (synO fs dn fu nm).fs.length ≤ 4611686018427387904 := by
  refine outO_fine hf hl (fun h0 _ => put_both hf h0 _ ?_)
  unfold synF
  cases hl : look fs nm with
  | none => simp only [maxLen]; exact ⟨by show (0 : Nat) ≤ _; omega, by omega, by omega⟩
  | some f =>
    have h2 := (hf f (look_mem hl).1).1
    simp only [maxLen] at *
    exact ⟨h2, by omega, by omega⟩
theorem cutO_fine {fs : List Fl} {dn : Bool} {fu : Int} {nm : ByteArray} {sz : Int} (hf : Fine fs) (hl : fs.length ≤ 4611686018427387904) : Fine (cutO fs dn fu nm sz).fs ∧ (cutO fs dn fu nm sz).fs.length ≤ 4611686018427387904 := by
  refine outO_fine hf hl (fun h0 hr => put_both hf h0 _ ?_)
  unfold cutF
  cases hl : look fs nm with
  | none => simp only [maxLen]; exact ⟨by show (0 : Nat) ≤ _; omega, by omega, by omega⟩
  | some f =>
    have h2 := hf f (look_mem hl).1
    unfold rcN at hr
    have hl' : fs[idxN fs nm]? = some f := hl
    rw [hl'] at hr
    simp only at hr
    split at hr
    · cases hr
    · rename_i h9
      simp only [maxLen] at *
      rw [ByteArray.size_extract]
      exact ⟨by omega, by omega, by omega⟩
end Dk
end Go.Proofs.Ytohhiheebhcgeaa
