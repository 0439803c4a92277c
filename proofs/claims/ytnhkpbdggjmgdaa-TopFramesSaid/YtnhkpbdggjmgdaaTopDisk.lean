/-
  One file of frames: what is put, synced, crashed, read.
-/
import Derived.Test.YtnhkpbdggjmgdaaTopBegins
import Derived.Test.YtnhkpbdggjmgdaaTopMath
namespace Go.Proofs.Ytnhkpbdggjmgdaa
open Go.RowKit Go.Lib Go.Sort
namespace Dk
open TopMath
def nF : ByteArray := ⟨#[102]⟩
theorem ok_f : nmOk nF = true := by unfold nmOk nF; rw [Lib.toList_data]; rfl
/-- The frames put, the first k of them synced. -/
def fsOf (ps : List ByteArray) (k : Nat) : List Fl := if ps = [] then [] else [⟨nF, PM.bs (cat ps), ((cat (ps.take k)).length : Nat)⟩]
theorem fsOf_nil (k : Nat) : fsOf [] k = [] := by unfold fsOf; rw [if_pos rfl]
theorem fsOf_some (ps : List ByteArray) (k : Nat) (h : ps ≠ []) : fsOf ps k = [⟨nF, PM.bs (cat ps), ((cat (ps.take k)).length : Nat)⟩] := by unfold fsOf; rw [if_neg h]
theorem cat_take_le (ps : List ByteArray) (k : Nat) : (cat (ps.take k)).length ≤ (cat ps).length := by
  rw [cat_split ps k, List.length_append]; omega
theorem fsOf_fine (ps : List ByteArray) (k : Nat) (h : (cat ps).length ≤ 1099511627776) : Fine (fsOf ps k) := by
  by_cases e : ps = []
  · subst e; rw [fsOf_nil]; intro f hf; simp at hf
  · rw [fsOf_some ps k e]
    have := cat_take_le ps k
    exact fine_one _ ⟨by rw [PM.bs_size]; unfold maxLen; omega, by show (-9223372036854775808 : Int) ≤ ((cat (ps.take k)).length : Nat); omega, by show (((cat (ps.take k)).length : Nat) : Int) ≤ 9223372036854775807; omega⟩
theorem fsOf_len (ps : List ByteArray) (k : Nat) : (fsOf ps k).length ≤ 4611686018427387904 := by
  unfold fsOf; split <;> simp

theorem add_any (v : Value) (ps : List ByteArray) (k : Nat) (p : ByteArray) (hk : k ≤ ps.length) (hp : ¬ 65536 < p.size) (hl : (cat ps).length ≤ 1099511627776) (w : World) (hv : Files w w.heap.size v (fsOf ps k)) :
    Calls Try.prog 6 #[.agg #[v, .bool false, .int .i64 (-1)], .string nF, .string (PM.bs (PM.frm p.data.toList))] w (DoIs w (fsOf (ps ++ [p]) k) false (-1) 0) := by
  have hz : (PM.bs (PM.frm p.data.toList)).size ≤ 65542 := by
    rw [PM.bs_size, PM.frm_length]
    have : p.data.toList.length = p.size := rfl
    omega
  by_cases e : ps = []
  · subst e
    obtain rfl : k = 0 := by simpa using hk
    rw [fsOf_nil] at hv
    have := add_first v (-1) nF (PM.bs (PM.frm p.data.toList)) (by omega) (by omega) (by omega) ok_f (by omega) w hv
    rw [fsOf_some _ _ (by simp), List.nil_append, List.take_zero]
    simpa [cat] using this
  · rw [fsOf_some ps k e] at hv
    have h1 := cat_take_le ps k
    have := add_more v (-1) ⟨nF, PM.bs (cat ps), ((cat (ps.take k)).length : Nat)⟩ (PM.bs (PM.frm p.data.toList)) (by omega) (by omega) (by omega) ok_f (by simp only [PM.bs_size]; omega) (by simp only [PM.bs_size]; unfold maxLen; omega) (by simp only [PM.bs_size] at hz ⊢; omega) w hv
    rw [fsOf_some _ _ (by simp), List.take_append_of_le_length hk, cat_snoc, ← PM.bs_append]
    exact this
theorem sync_any (v : Value) (ps : List ByteArray) (k : Nat) (e : ps ≠ []) (hl : (cat ps).length ≤ 1099511627776) (w : World) (hv : Files w w.heap.size v (fsOf ps k)) :
    Calls Try.prog 7 #[.agg #[v, .bool false, .int .i64 (-1)], .string nF] w (DoIs w (fsOf ps ps.length) false (-1) 0) := by
  rw [fsOf_some ps k e] at hv
  have h1 := cat_take_le ps k
  have := sync_one v (-1) ⟨nF, PM.bs (cat ps), ((cat (ps.take k)).length : Nat)⟩ (by omega) (by omega) (by omega) (by simp only [PM.bs_size]; omega) (by simp only [PM.bs_size]; unfold maxLen; omega) w hv
  rw [fsOf_some ps _ e, cat_all]
  rw [PM.bs_size] at this
  exact this

/-- How many bytes a crash leaves. -/
def crC (ps : List ByteArray) (k : Nat) (ks : List Int) : Nat := crN ⟨nF, PM.bs (cat ps), ((cat (ps.take k)).length : Nat)⟩ ks[0]?
theorem crC_within (ps : List ByteArray) (k : Nat) (ks : List Int) : (cat (ps.take k)).length ≤ crC ps k ks ∧ crC ps k ks ≤ (cat ps).length := by
  have h1 := cat_take_le ps k
  unfold crC crN
  split
  · simp; exact h1
  · simp only [PM.bs_size]
    split
    · simp; exact h1
    · split
      · omega
      · omega
theorem crash_nil (v kv : Value) (ks : List Int) (w : World) (hv : Files w w.heap.size v []) (hkv : Ints w w.heap.size kv ks) :
    Calls Try.prog 8 #[.agg #[v, .bool false, .int .i64 (-1)], kv] w (DoIs w [] false (-1) 0) :=
  crash_own v kv false (-1) [] ks w hv hkv chk_nil
theorem crash_some (v kv : Value) (ps : List ByteArray) (k : Nat) (ks : List Int) (e : ps ≠ []) (w : World) (hv : Files w w.heap.size v (fsOf ps k)) (hkv : Ints w w.heap.size kv ks) :
    Calls Try.prog 8 #[.agg #[v, .bool false, .int .i64 (-1)], kv] w (DoIs w [⟨nF, PM.bs ((cat ps).take (crC ps k ks)), (crC ps k ks : Nat)⟩] false (-1) 0) := by
  have h1 := cat_take_le ps k
  rw [fsOf_some ps k e] at hv
  have := crash_own v kv false (-1) _ ks w hv hkv (chk_one _ (by simp only [PM.bs_size]; omega))
  have e2 : crS [⟨nF, PM.bs (cat ps), ((cat (ps.take k)).length : Nat)⟩] ks 1 = [⟨nF, PM.bs ((cat ps).take (crC ps k ks)), (crC ps k ks : Nat)⟩] := by
    show [crF ⟨nF, PM.bs (cat ps), ((cat (ps.take k)).length : Nat)⟩ (crC ps k ks)] = _
    unfold crF
    rw [PM.extract_bs, PM.bs_data, List.drop_zero, Nat.sub_zero]
  rw [← e2]
  exact this
theorem read_left (v : Value) (l : List UInt8) (c : Nat) (hc : c ≤ l.length) (w : World) (hv : Files w w.heap.size v [⟨nF, PM.bs l, (c : Nat)⟩]) :
    Calls Try.prog 9 #[.agg #[v, .bool false, .int .i64 (-1)], .string nF] w fun e w' => e = .returned (.tuple #[.string (PM.bs l), .int .i64 0]) ∧ Below w.heap.size w w' := by
  have h := read_own v false (-1) _ nF w hv
  have hi : idxN [⟨nF, PM.bs l, (c : Nat)⟩] nF = 0 := idx_one _ _ rfl
  have hk : chkN [⟨nF, PM.bs l, (c : Nat)⟩] = 0 := chk_one _ (by simp only [PM.bs_size]; omega)
  unfold ReadIs rdS rdE rdN at h
  rw [hk, hi] at h
  exact h
theorem read_nothing (v : Value) (w : World) (hv : Files w w.heap.size v []) :
    Calls Try.prog 9 #[.agg #[v, .bool false, .int .i64 (-1)], .string nF] w fun e w' => e = .returned (.tuple #[.string ⟨#[]⟩, .int .i64 6]) ∧ Below w.heap.size w w' := by
  have h := read_own v false (-1) [] nF w hv
  exact h
end Dk
end Go.Proofs.Ytnhkpbdggjmgdaa
