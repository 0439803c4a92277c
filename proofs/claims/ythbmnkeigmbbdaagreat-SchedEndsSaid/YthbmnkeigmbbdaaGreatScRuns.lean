/-
  A PLAN'S STEPS, done in order, as plain data.
-/
import Derived.Test.YthbmnkeigmbbdaaGreatScPl
namespace Go.Proofs.YthbmnkeigmbbdaaGreat
open Go.RowKit Go.Lib
namespace Bo
open Rw
set_option linter.unusedVariables false
/-- Each step can be done behind the one ahead of it. -/
def Runs : Bk → List Rg.Pr → Prop
  | _, [] => True
  | c, p :: q => canE c p.k p.v = 0 ∧ chkB (biB c p.k p.v c.fe).1 = true ∧ (biB c p.k p.v c.fe).1.fe = c.fe ∧ Runs (biB c p.k p.v c.fe).1 q
theorem pl_runs : ∀ (r : List Hd.Td) (c : Bk) (s q : List Rg.Pr), chkB c = true → (plG c r s).2 = s ++ q → Runs c q
  | [], c, s, q, _, h => by
    rw [pl_nil] at h
    have hq : q = [] := by simpa using h
    rw [hq]; trivial
  | t :: r, c, s, q, hc, h => by
    by_cases h8 : s.length = 8
    · rw [pl_full h8] at h
      have hq : q = [] := by simpa using h
      rw [hq]; trivial
    · by_cases ho : bstV c t = ⟨#[]⟩
      · rw [pl_skip h8 ho] at h
        exact pl_runs r c s q hc h
      · obtain ⟨h1, -, h2, -, h4⟩ := step_done hc ho
        rw [pl_step h8 ho] at h
        obtain ⟨q2, hq2⟩ := pl_pre r (biB c t.n (bstV c t) c.fe).1 (s ++ [⟨t.n, bstV c t⟩])
        rw [hq2, List.append_assoc] at h
        have hq : q = ⟨t.n, bstV c t⟩ :: q2 := (List.append_cancel_left h).symm
        rw [hq]
        exact ⟨h1, h2, h4, pl_runs r _ _ q2 h2 hq2⟩
theorem plan_runs {b : Bk} (hc : chkB b = true) : Runs b (planV b) := by
  unfold planV
  rw [if_pos hc]
  exact pl_runs (wtV b) b [] _ hc (List.nil_append _).symm
/-- What a bind with a fence that is not below the book's comes to; and with one that is. -/
theorem bi_above {c : Bk} {k v : ByteArray} {f : Nat} (h : c.fe ≤ f) (h0 : canE c k v = 0) : biB c k v f = ((biB c k v c.fe).1, 0) := by
  unfold biB
  rw [if_neg (by omega), if_pos h0, if_neg (Nat.lt_irrefl _)]
theorem bi_below {c : Bk} {k v : ByteArray} {f : Nat} (h : f < c.fe) : biB c k v f = (c, 14) := by
  unfold biB
  rw [if_pos h]
/-- A step's bind is one more. -/
theorem bi_more {c : Bk} {k v : ByteArray} (h0 : canE c k v = 0) : (biB c k v c.fe).1.bs.length = c.bs.length + 1 ∧ (biB c k v c.fe).1.ns = c.ns ∧ (biB c k v c.fe).1.ts = c.ts := by
  unfold biB
  rw [if_neg (Nat.lt_irrefl _), if_pos h0]
  refine ⟨?_, rfl, rfl⟩
  have hle : lbB c.bs k ≤ c.bs.length := by have := lb_le (c.bs.map (·.k)) k; rw [List.length_map] at this; exact this
  exact insR_len _ _ _ hle
/-- What the names of a step are. -/
theorem step_fit {c : Bk} {k v : ByteArray} (hf : Fine c) (h0 : canE c k v = 0) : FitB ⟨k, v⟩ := by
  obtain ⟨⟨c1, c2⟩, -, -⟩ := can0.1 h0
  obtain ⟨t, ht, hk⟩ := has_mem (f := fun t : Hd.Td => t.n) c1
  obtain ⟨n, hn, hv⟩ := has_mem (f := fun n : Hd.Nd => n.n) c2
  refine ⟨?_, ?_⟩
  · have h := (hf.ft t ht).1.1
    have hk : t.n = k := hk
    rw [hk] at h
    exact h
  · have h := (hf.fn n hn).1
    have hv : n.n = v := hv
    rw [hv] at h
    exact h
/-- A plan with no step is one of a quiet book. -/
theorem quiet_iff {b : Bk} (hc : chkB b = true) : quiV b = decide ((planV b).length = 0) := by
  have hr := rb_of_chk hc
  unfold quiV planV
  rw [if_pos hc, if_pos hc]
  generalize wtV b = r
  induction r with
  | nil => rfl
  | cons t r ih =>
    by_cases hf : frV b t.n = []
    · rw [first_skip hf, ← ih, List.any_cons, bst_none hf]
      simp
    · obtain ⟨v, q, hq⟩ := first_step (r := r) hr hf
      rw [hq, List.any_cons, decide_eq_true (bst_ne hr hf)]
      simp
end Bo
end Go.Proofs.YthbmnkeigmbbdaaGreat
