/-
  WHAT IS ASKED OF A DISK: whether it is ready, where a file is (the document's own search), what is read.
-/
import Derived.Test.YtjgdmdgiicpemaaDiskRef
import Derived.Test.YtjgdmdgiicpemaaDiskFind
namespace Go.Proofs.Ytjgdmdgiicpemaa
open Go.RowKit Go.Lib Go.Sort
namespace Dk

theorem Files.on {w w' : World} {B : Nat} {v : Value} {fs : List Fl} (h : Files w B v fs) (hb : Below B w w') (hB : B ≤ w'.heap.size) : Files w' w'.heap.size v fs := (h.keep hb).more hB
theorem Files.al {w : World} {v : Value} {fs : List Fl} (h : Files w w.heap.size v fs) (o : Obj) : Files (w.alloc o) (w.alloc o).heap.size v fs := h.on ((Below.refl _ _).alloc (Nat.le_refl _) _) (by simp)
theorem chk_two (fs : List Fl) : chkN fs = 0 ∨ chkN fs = 10 := by unfold chkN; split <;> (try split) <;> simp
theorem chk_fine (fs : List Fl) (h : chkN fs = 0) : fs.length ≤ 4096 ∧ okTo fs fs.length = true := by
  unfold chkN at h
  split at h
  · omega
  · split at h
    · exact ⟨by omega, by assumption⟩
    · omega
/-- Why one does not do what it is asked. -/
def rdN (fs : List Fl) (dn : Bool) : Nat := if chkN fs = 0 then (if dn then 8 else 0) else 10

theorem own_ok (v : Value) (dn : Bool) (fu : Int) (fs : List Fl) (w : World) (hv : Files w w.heap.size v fs) (h : chkN fs = 0) :
    Calls Try.prog 19 #[.agg #[v, .bool dn, .int .i64 fu]] w fun e w' => e = .returned (.int .i64 0) ∧ Below w.heap.size w w' := by
  have := check_own v dn fu fs w hv; rw [h] at this; exact this
theorem own_bad (v : Value) (dn : Bool) (fu : Int) (fs : List Fl) (w : World) (hv : Files w w.heap.size v fs) (h : chkN fs = 10) :
    Calls Try.prog 19 #[.agg #[v, .bool dn, .int .i64 fu]] w fun e w' => e = .returned (.int .i64 10) ∧ Below w.heap.size w w' := by
  have := check_own v dn fu fs w hv; rw [h] at this; exact this
theorem boxD {w w' : World} {v : Value} {dn : Bool} {fu : Int} (hb : Below (w.heap.size + 1) (w.alloc (.cells #[v, .bool dn, .int .i64 fu] 27)) w') :
    w'.cell? ⟨w.heap.size, 0, none⟩ = some v ∧ w'.cell? ⟨w.heap.size, 1, none⟩ = some (.bool dn) ∧ w'.cell? ⟨w.heap.size, 2, none⟩ = some (.int .i64 fu) :=
  ⟨by rw [hb.cell (by simp)]; simp [go_sem], by rw [hb.cell (by simp)]; simp [go_sem], by rw [hb.cell (by simp)]; simp [go_sem]⟩
theorem over {w w' : World} {o : Obj} (hb : Below (w.heap.size + 1) (w.alloc o) w') : Below w.heap.size w w' := ((Below.refl _ _).alloc (Nat.le_refl _) _).trans (hb.mono (by omega))
theorem Files.up {w w' : World} {o : Obj} {v : Value} {fs : List Fl} (h : Files w w.heap.size v fs) (hb : Below (w.heap.size + 1) (w.alloc o) w') : Files w' w'.heap.size v fs :=
  h.on (over hb) (by have := hb.size; simp at this; omega)

set_option maxHeartbeats 1000000 in
theorem ready_own (v : Value) (dn : Bool) (fu : Int) (fs : List Fl) (w : World) (hv : Files w w.heap.size v fs) :
    Calls Try.prog 24 #[.agg #[v, .bool dn, .int .i64 fu]] w fun e w' => e = .returned (.int .i64 (rdN fs dn : Nat)) ∧ Below w.heap.size w w' := by
  have HV := Lib.hid hv
  obtain ⟨a, c, rfl, -⟩ := hv
  rcases chk_two fs with h | h
  · have h0 := own_ok (.slice a fs.length c) dn fu fs (w.alloc (.cells #[.slice a fs.length c, .bool dn, .int .i64 fu] 27)) (HV.out.al _) h
    rw [World.size_alloc] at h0
    cases dn
    · have HN : Hid (rdN fs false = 0) := by show _ = _; unfold rdN; rw [if_pos h]; rfl
      clear h
      go_enter Try.func24, Try.ntmps24
      go_wp2_with (go_at_call 19; refine h0.mono ?_; rintro e w' ⟨rfl, hb⟩; obtain ⟨d1, d2, d3⟩ := boxD hb; have HB := Lib.hid hb; clear hb)
      go_ret
      exact ⟨by rw [HN.out]; rfl, over HB.out⟩
    · have HN : Hid (rdN fs true = 8) := by show _ = _; unfold rdN; rw [if_pos h]; rfl
      clear h
      go_enter Try.func24, Try.ntmps24
      go_wp2_with (go_at_call 19; refine h0.mono ?_; rintro e w' ⟨rfl, hb⟩; obtain ⟨d1, d2, d3⟩ := boxD hb; have HB := Lib.hid hb; clear hb)
      go_ret
      exact ⟨by rw [HN.out]; rfl, over HB.out⟩
  · have h0 := own_bad (.slice a fs.length c) dn fu fs (w.alloc (.cells #[.slice a fs.length c, .bool dn, .int .i64 fu] 27)) (HV.out.al _) h
    rw [World.size_alloc] at h0
    have HN : Hid (rdN fs dn = 10) := by show _ = _; unfold rdN; rw [if_neg (by omega)]
    clear h
    go_enter Try.func24, Try.ntmps24
    go_wp2_with (go_at_call 19; refine h0.mono ?_; rintro e w' ⟨rfl, hb⟩; obtain ⟨d1, d2, d3⟩ := boxD hb; have HB := Lib.hid hb; clear hb)
    go_ret
    exact ⟨by rw [HN.out]; rfl, over HB.out⟩

/-- The document's own search: the first file of that name, or -1. -/
def ixZ (fs : List Fl) (nm : ByteArray) : Int := if idxN fs nm < fs.length then (idxN fs nm : Int) else -1
theorem idx_here (fs : List Fl) (nm : ByteArray) (k : Nat) (hk : k ≤ idxN fs nm) (hl : k < fs.length) (he : (fs[k].nm.toList == nm.toList) = true) : ixZ fs nm = k := by
  have : idxN fs nm = k := by
    by_cases h : k < idxN fs nm
    · have h2 : (fs[k].nm.toList == nm.toList) = false := List.not_of_lt_findIdx (p := fun f : Fl => f.nm.toList == nm.toList) h
      rw [he] at h2; cases h2
    · omega
  unfold ixZ; rw [this, if_pos hl]
theorem idx_next (fs : List Fl) (nm : ByteArray) (k : Nat) (hk : k ≤ idxN fs nm) (hl : k < fs.length) (he : (fs[k].nm.toList == nm.toList) = false) : k + 1 ≤ idxN fs nm := by
  by_cases h : k < idxN fs nm
  · omega
  · have e : idxN fs nm = k := by omega
    have := idx_at fs nm (by omega)
    simp only [e] at this
    rw [this] at he; simp at he
theorem idx_out (fs : List Fl) (nm : ByteArray) (hk : fs.length ≤ idxN fs nm) : ixZ fs nm = -1 := by unfold ixZ; rw [if_neg (by omega)]

/-- What is read, and why not. -/
def rdS (fs : List Fl) (dn : Bool) (nm : ByteArray) : ByteArray := if rdN fs dn = 0 then (match fs[idxN fs nm]? with | none => ⟨#[]⟩ | some f => f.da) else ⟨#[]⟩
def rdE (fs : List Fl) (dn : Bool) (nm : ByteArray) : Nat := if rdN fs dn = 0 then (if idxN fs nm < fs.length then 0 else 6) else rdN fs dn
def ReadIs (fs : List Fl) (dn : Bool) (nm : ByteArray) (e : Ending) : Prop := e = .returned (.tuple #[.string (rdS fs dn nm), .int .i64 (rdE fs dn nm : Nat)])
theorem read_not (fs : List Fl) (dn : Bool) (nm : ByteArray) (k : Nat) (h : rdN fs dn = k) (h0 : k ≠ 0) : ReadIs fs dn nm (.returned (.tuple #[.string ⟨#[]⟩, .int .i64 k])) := by
  unfold ReadIs rdS rdE; rw [h, if_neg h0, if_neg h0]
theorem read_none (fs : List Fl) (dn : Bool) (nm : ByteArray) (h : rdN fs dn = 0) (hn : ¬ idxN fs nm < fs.length) : ReadIs fs dn nm (.returned (.tuple #[.string ⟨#[]⟩, .int .i64 6])) := by
  unfold ReadIs rdS rdE; rw [h, if_pos rfl, if_pos rfl, List.getElem?_eq_none (by omega), if_neg hn]; rfl
theorem read_some (fs : List Fl) (dn : Bool) (nm : ByteArray) (h : rdN fs dn = 0) (hn : idxN fs nm < fs.length) : ReadIs fs dn nm (.returned (.tuple #[.string fs[idxN fs nm].da, .int .i64 0])) := by
  unfold ReadIs rdS rdE; rw [h, if_pos rfl, if_pos rfl, List.getElem?_eq_getElem hn, if_pos hn]; rfl
theorem rd_chk (fs : List Fl) (dn : Bool) (h : rdN fs dn = 0) : chkN fs = 0 ∧ dn = false := by
  unfold rdN at h
  split at h
  · refine ⟨by assumption, ?_⟩
    cases dn
    · rfl
    · simp at h
  · omega
theorem rd_cases (fs : List Fl) (dn : Bool) : (chkN fs = 10 ∧ rdN fs dn = 10) ∨ (chkN fs = 0 ∧ dn = true ∧ rdN fs dn = 8) ∨ (chkN fs = 0 ∧ dn = false ∧ rdN fs dn = 0) := by
  unfold rdN
  rcases chk_two fs with h | h <;> cases dn <;> simp [h]
end Dk
end Go.Proofs.Ytjgdmdgiicpemaa
