/-
  The document's Swap and Drop, whatever the disk is.
-/
import Derived.Test.YtohhiheebhcgeaaDiskSwr
import Derived.Test.YtohhiheebhcgeaaDiskDrp
namespace Go.Proofs.Ytohhiheebhcgeaa
open Go.RowKit Go.Lib Go.Sort
namespace Dk
theorem drop_ref (v : Value) (fs : List Fl) (dn : Bool) (fu : Int) (nm : ByteArray) (hlo : -9223372036854775808 ≤ fu) (hhi : fu ≤ 9223372036854775807) (h40 : fs.length * 40 ≤ 140737488355328) (w : World) (hv : Files w w.heap.size v fs) :
    Calls Try.prog 23 #[.agg #[v, .bool dn, .int .i64 fu], .string nm] w (DoIs w (drpO fs dn fu nm).fs (drpO fs dn fu nm).dn (drpO fs dn fu nm).fu (drpO fs dn fu nm).r) := by
  by_cases hr0 : rdN fs dn = 0
  · obtain ⟨h0, rfl⟩ := rd_chk fs dn hr0
    by_cases hn : idxN fs nm < fs.length
    · by_cases hf0 : fu = 0
      · subst hf0; exact drop_fus v fs nm h40 h0 hn w hv
      · exact drop_run v fs fu nm hlo hhi h40 h0 hn hf0 w hv
    · exact drop_none v fs fu nm hlo hhi h40 h0 hn w hv
  · exact drop_bad v fs dn fu nm hlo hhi h40 hr0 w hv
theorem swap_ref (v : Value) (fs : List Fl) (dn : Bool) (fu : Int) (nm to : ByteArray) (hlo : -9223372036854775808 ≤ fu) (hhi : fu ≤ 9223372036854775807) (h40 : fs.length * 40 ≤ 140737488355328) (w : World) (hv : Files w w.heap.size v fs) :
    Calls Try.prog 21 #[.agg #[v, .bool dn, .int .i64 fu], .string nm, .string to] w (DoIs w (swpO fs dn fu nm to).fs (swpO fs dn fu nm to).dn (swpO fs dn fu nm to).fu (swpO fs dn fu nm to).r) := by
  by_cases hr0 : rdN fs dn = 0
  · obtain ⟨h0, rfl⟩ := rd_chk fs dn hr0
    by_cases hn : idxN fs nm < fs.length
    · by_cases hz : fs[idxN fs nm].sy < (fs[idxN fs nm].da.size : Int)
      · exact swpr_wet v fs fu nm to hlo hhi h40 h0 hn hz w hv
      · cases hm : nmOk to with
        | false => exact swpr_name v fs fu nm to hlo hhi h40 h0 hn hz hm w hv
        | true =>
          by_cases hf0 : fu = 0
          · subst hf0; exact swpr_fus v fs nm to h40 h0 hn hz hm w hv
          · exact swpr_run v fs fu nm to hlo hhi h40 h0 hn hz hm hf0 w hv
    · exact swpr_none v fs fu nm to hlo hhi h40 h0 hn w hv
  · exact swpr_bad v fs dn fu nm to hlo hhi h40 hr0 w hv
theorem outO_fine2 {fs : List Fl} {dn : Bool} {fu : Int} {r : Nat} {ch : List Fl} {ad : Bool} (hf : Fine fs) (hl : fs.length ≤ 4611686018427387904) (hc : chkN fs = 0 → r = 0 → Fine ch ∧ ch.length ≤ 4611686018427387904) :
    Fine (outO fs dn fu r ch ad).fs ∧ (outO fs dn fu r ch ad).fs.length ≤ 4611686018427387904 := by
  unfold outO
  by_cases h0 : chkN fs = 0
  · rw [if_pos h0]
    cases dn with
    | true => exact ⟨hf, hl⟩
    | false =>
      rw [if_neg (by simp)]
      by_cases hr : r = 0
      · rw [if_pos hr]
        by_cases hfu : fu = 0
        · rw [if_pos hfu]
          cases ad
          · exact ⟨hf, hl⟩
          · exact hc h0 hr
        · rw [if_neg hfu]; exact hc h0 hr
      · rw [if_neg hr]; exact ⟨hf, hl⟩
  · rw [if_neg h0]; exact ⟨fun f hf => by simp at hf, by simp⟩
theorem put_both2 {fs : List Fl} (hf : Fine fs) (h0 : chkN fs = 0) (f : Fl) (h1 : f.da.size ≤ maxLen ∧ -9223372036854775808 ≤ f.sy ∧ f.sy ≤ 9223372036854775807) : Fine (putF fs f) ∧ (putF fs f).length ≤ 4611686018427387904 := by
  obtain ⟨h4, hok⟩ := chk_fine fs h0
  refine ⟨put_fine hf hok f h1, ?_⟩
  rw [put_len _ hok]; split <;> omega
theorem swpO_fine {fs : List Fl} {dn : Bool} {fu : Int} {nm to : ByteArray} (hf : Fine fs) (hl : fs.length ≤ 4611686018427387904) : Fine (swpO fs dn fu nm to).fs ∧ (swpO fs dn fu nm to).fs.length ≤ 4611686018427387904 := by
  refine outO_fine2 hf hl (fun h0 hr => ?_)
  obtain ⟨h4, hok⟩ := chk_fine fs h0
  have hn := rw_zero hr
  have hsw : swpF fs nm to = ⟨to, fs[idxN fs nm].da, fs[idxN fs nm].sy⟩ := by unfold swpF; rw [look_at fs nm hn]
  have hok2 := del_ok hok (idxN fs nm)
  have hel : (fs.eraseIdx (idxN fs nm)).length = fs.length - 1 := List.length_eraseIdx_of_lt hn
  rw [hsw]
  refine ⟨put_fine (fun x hx => hf x (List.mem_of_mem_eraseIdx hx)) hok2 _ (hf fs[idxN fs nm] (List.getElem_mem hn)), ?_⟩
  rw [put_len _ hok2]; split <;> omega
theorem drpO_fine {fs : List Fl} {dn : Bool} {fu : Int} {nm : ByteArray} (hf : Fine fs) (hl : fs.length ≤ 4611686018427387904) : Fine (drpO fs dn fu nm).fs ∧ (drpO fs dn fu nm).fs.length ≤ 4611686018427387904 :=
  outO_fine2 hf hl (fun _ _ => ⟨fun x hx => hf x (List.mem_of_mem_eraseIdx hx), Nat.le_trans (List.length_eraseIdx_le _ _) hl⟩)
end Dk
end Go.Proofs.Ytohhiheebhcgeaa
