/-
  lives: a disk that does what the document says.
-/
import Derived.Test.YtjgdmdgiicpemaaDiskCrash
namespace Go.Proofs.Ytjgdmdgiicpemaa
open Go.RowKit Go.Lib Go.Sort
namespace Dk
def F1 : List Fl := [⟨⟨#[97]⟩, ⟨#[120, 121]⟩, 0⟩]
def F2 : List Fl := [⟨⟨#[97]⟩, ⟨#[120, 121]⟩, 2⟩]
def F3 : List Fl := [⟨⟨#[97]⟩, ⟨#[120, 121, 122, 119]⟩, 2⟩]
def F4 : List Fl := [⟨⟨#[97]⟩, ⟨#[120, 121, 122]⟩, 3⟩]
theorem app_zw : (⟨#[120, 121]⟩ : ByteArray) ++ ⟨#[122, 119]⟩ = ⟨#[120, 121, 122, 119]⟩ := by decide
theorem ext_xyz : (⟨#[120, 121, 122, 119]⟩ : ByteArray).extract 0 3 = ⟨#[120, 121, 122]⟩ := by decide
theorem chk_one (f : Fl) (h : 0 ≤ f.sy ∧ f.sy ≤ f.da.size) : chkN [f] = 0 := by
  apply chk_good
  · simp
  · show okTo [f] 1 = true
    rw [okTo_succ]
    have : okAt [f] 0 = true := by rw [okAt_zero [f] (by simp)]; simp; omega
    rw [this]; rfl
theorem ok_one (f : Fl) (h : 0 ≤ f.sy ∧ f.sy ≤ f.da.size) : okTo [f] [f].length = true := (chk_fine [f] (chk_one f h)).2
theorem idx_one (f : Fl) (nm : ByteArray) (h : f.nm = nm) : idxN [f] nm = 0 := by unfold idxN; simp [List.findIdx_cons, h]
theorem fine_one (f : Fl) (h : f.da.size ≤ maxLen ∧ -9223372036854775808 ≤ f.sy ∧ f.sy ≤ 9223372036854775807) : Fine [f] := by
  intro x hx; simp at hx; subst hx; exact h
theorem ok_a : nmOk ⟨#[97]⟩ = true := by unfold nmOk; rw [Lib.toList_data]; rfl
theorem nil_files (w : World) : Files w w.heap.size (.slice none 0 0) [] := ⟨none, 0, rfl, by simp, by simp, by simp⟩
theorem chk_nil : chkN [] = 0 := by decide

/-- A file put onto nothing. -/
theorem add_first (v : Value) (fu : Int) (nm da : ByteArray) (hfu : fu ≠ 0) (hlo : -9223372036854775808 ≤ fu) (hhi : fu ≤ 9223372036854775807) (hn : nmOk nm = true) (hd : da.size ≤ 9223372036854775807) (w : World) (hv : Files w w.heap.size v []) :
    Calls Try.prog 9 #[.agg #[v, .bool false, .int .i64 fu], .string nm, .string da] w (DoIs w [⟨nm, da, 0⟩] false (if 0 < fu then fu - 1 else fu) 0) := by
  refine add_of v false fu [] _ false _ 0 nm da ?_ w hv
  intro w1 hf
  refine do_ok v [] _ fu 0 nm da 0 ByteArray.empty (by intro f h; simp at h) chk_nil hfu hlo hhi ?_ ?_ w1 hf
  · intro w2 v2 hf2
    have := refuse_add v2 [] nm da ByteArray.empty 0 w2 hf2 (by simp) (by decide)
    rw [show raN ([] : List Fl).length nm (hasN [] nm) = 0 by unfold raN; rw [hn]; rfl] at this
    exact this
  · intro base w2 v2 hb ho
    exact changed_add_end v2 [] nm da ByteArray.empty 0 base w2 hb ho (by intro f h; simp at h) (by simp) (by decide) (by simp) rfl hd
/-- More put behind a disk's only file. -/
theorem add_more (v : Value) (fu : Int) (f : Fl) (da : ByteArray) (hfu : fu ≠ 0) (hlo : -9223372036854775808 ≤ fu) (hhi : fu ≤ 9223372036854775807) (hn : nmOk f.nm = true) (hs : 0 ≤ f.sy ∧ f.sy ≤ f.da.size) (hm : f.da.size ≤ maxLen) (hd : f.da.size + da.size ≤ 9223372036854775807) (w : World) (hv : Files w w.heap.size v [f]) :
    Calls Try.prog 9 #[.agg #[v, .bool false, .int .i64 fu], .string f.nm, .string da] w (DoIs w [⟨f.nm, f.da ++ da, f.sy⟩] false (if 0 < fu then fu - 1 else fu) 0) := by
  have hfi : Fine [f] := fine_one f ⟨hm, by omega, by have := hs.2; simp only [maxLen] at hm; omega⟩
  have hi : idxN [f] f.nm = 0 := idx_one f f.nm rfl
  refine add_of v false fu [f] _ false _ 0 f.nm da ?_ w hv
  intro w1 hf
  refine do_ok v [f] _ fu 0 f.nm da 0 ByteArray.empty hfi (chk_one f hs) hfu hlo hhi ?_ ?_ w1 hf
  · intro w2 v2 hf2
    have := refuse_add v2 [f] f.nm da ByteArray.empty 0 w2 hf2 (by simp) (ok_one f hs)
    rw [show raN [f].length f.nm (hasN [f] f.nm) = 0 by unfold raN hasN; rw [hn, hi]; rfl] at this
    exact this
  · intro base w2 v2 hb ho
    have := changed_add_hit v2 [f] f.nm da ByteArray.empty 0 base w2 hb ho hfi (by simp) (ok_one f hs) (by rw [hi]; simp) (by simp only [hi]; simpa using hd)
    simp only [hi] at this
    exact this.mono fun e w' ⟨h1, h2, h3⟩ => ⟨v2, h1, h2, h3⟩
theorem sync_one (v : Value) (fu : Int) (f : Fl) (hfu : fu ≠ 0) (hlo : -9223372036854775808 ≤ fu) (hhi : fu ≤ 9223372036854775807) (hs : 0 ≤ f.sy ∧ f.sy ≤ f.da.size) (hm : f.da.size ≤ maxLen) (w : World) (hv : Files w w.heap.size v [f]) :
    Calls Try.prog 36 #[.agg #[v, .bool false, .int .i64 fu], .string f.nm] w (DoIs w [⟨f.nm, f.da, (f.da.size : Int)⟩] false (if 0 < fu then fu - 1 else fu) 0) := by
  have hfi : Fine [f] := fine_one f ⟨hm, by omega, by have := hs.2; simp only [maxLen] at hm; omega⟩
  have hi : idxN [f] f.nm = 0 := idx_one f f.nm rfl
  refine sync_of v false fu [f] _ false _ 0 f.nm ?_ w hv
  intro w1 hf
  refine do_ok v [f] _ fu 1 f.nm ByteArray.empty 0 ByteArray.empty hfi (chk_one f hs) hfu hlo hhi ?_ ?_ w1 hf
  · intro w2 v2 hf2
    have := refuse_sync v2 [f] f.nm ByteArray.empty ByteArray.empty 0 w2 hf2 (by simp) (ok_one f hs)
    rw [show rsN [f] f.nm = 0 by unfold rsN; rw [hi]; rfl] at this
    exact this
  · intro base w2 v2 hb ho
    have := changed_sync_hit v2 [f] f.nm ByteArray.empty ByteArray.empty 0 base w2 hb ho hfi (by simp) (ok_one f hs) (by rw [hi]; simp)
    simp only [hi] at this
    exact this.mono fun e w' ⟨h1, h2, h3⟩ => ⟨v2, h1, h2, h3⟩
theorem swap_wet (v : Value) (fu : Int) (f : Fl) (to : ByteArray) (hs : 0 ≤ f.sy ∧ f.sy < f.da.size) (hm : f.da.size ≤ maxLen) (w : World) (hv : Files w w.heap.size v [f]) :
    Calls Try.prog 38 #[.agg #[v, .bool false, .int .i64 fu], .string f.nm, .string to] w (DoIs w [f] false fu 9) := by
  have hfi : Fine [f] := fine_one f ⟨hm, by omega, by have := hs.2; simp only [maxLen] at hm; omega⟩
  have hi : idxN [f] f.nm = 0 := idx_one f f.nm rfl
  refine swap_of v false fu [f] _ false _ 9 f.nm to ?_ w hv
  intro w1 hf
  refine do_refused v [f] fu 3 f.nm ByteArray.empty 0 to 9 (by omega) hfi (chk_one f ⟨hs.1, by omega⟩) ?_ w1 hf
  intro w2 v2 hf2
  have := refuse_swap v2 [f] f.nm ByteArray.empty to 0 w2 hf2 (by simp) (ok_one f ⟨hs.1, by omega⟩)
  rw [show rwN [f] f.nm to = 9 by unfold rwN; rw [hi]; simp [hs.2]] at this
  exact this
end Dk
end Go.Proofs.Ytjgdmdgiicpemaa
