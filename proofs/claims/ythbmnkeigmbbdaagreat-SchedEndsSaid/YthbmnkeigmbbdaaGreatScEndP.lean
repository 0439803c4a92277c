/-
  WHAT A PLAN'S STEPS COME TO.
-/
import Derived.Test.YthbmnkeigmbbdaaGreatScRuns
import Derived.Test.YthbmnkeigmbbdaaGreatScQuiet
namespace Go.Proofs.YthbmnkeigmbbdaaGreat
open Go.RowKit Go.Lib
namespace Bo
open Rw
set_option linter.unusedVariables false
theorem pl_len8 : ∀ (r : List Hd.Td) (c : Bk) (s : List Rg.Pr), s.length ≤ 8 → (plG c r s).2.length ≤ 8
  | [], _, _, h => h
  | t :: r, c, s, h => by
    by_cases h8 : s.length = 8
    · rw [pl_full h8]; exact h
    · by_cases ho : bstV c t = ⟨#[]⟩
      · rw [pl_skip h8 ho]; exact pl_len8 r c s h
      · rw [pl_step h8 ho]; exact pl_len8 r _ _ (by rw [List.length_append]; simp; omega)
theorem plan_len8 (b : Bk) : (planV b).length ≤ 8 := by
  unfold planV
  split
  · exact pl_len8 _ _ _ (Nat.zero_le _)
  · exact Nat.zero_le _
theorem runs_fitB : ∀ {q : List Rg.Pr} {c : Bk}, Runs c q → (∀ n ∈ c.ns, FitN n) → (∀ t ∈ c.ts, FitT t) → ∀ p ∈ q, FitB p
  | [], _, _, _, _, p, hp => by cases hp
  | p0 :: q, c, h, hn, ht, p, hp => by
    obtain ⟨h0, -, -, h3⟩ := h
    obtain ⟨-, e1, e2⟩ := bi_more h0
    rcases List.mem_cons.1 hp with rfl | hp
    · obtain ⟨⟨c1, c2⟩, -, -⟩ := can0.1 h0
      obtain ⟨t, ht', hk⟩ := has_mem (f := fun t : Hd.Td => t.n) c1
      obtain ⟨n, hn', hv⟩ := has_mem (f := fun n : Hd.Nd => n.n) c2
      refine ⟨?_, ?_⟩
      · have h := (ht t ht').1.1
        have hk : t.n = p.k := hk
        rw [hk] at h
        exact h
      · have h := (hn n hn').1
        have hv : n.n = p.v := hv
        rw [hv] at h
        exact h
    · exact runs_fitB h3 (by rw [e1]; exact hn) (by rw [e2]; exact ht) p hp
/-- The plan of a right book, where it has k steps. -/
theorem plan_at {c : Bk} (hc : chkB c = true) {k : Nat} (hk : (planV c).length = k) (vn vt vb : Value) (f : Nat) (w : World) (hB : Books w w.heap.size vn vt vb c) : Calls Tryz.prog 22 #[.agg #[vn, vt, vb, .int .u64 (c.fe : Nat)], .int .u64 (f : Nat)] w fun e w' => ∃ (a : Option Addr) (cp : Nat), e = .returned (.tuple #[.slice a k cp, .int .i64 0]) ∧ Own w' w.heap.size 55 (.slice a k cp) ((planV c).map (stp f)) ∧ Below w.heap.size w w' := by
  refine (plan_any c vn vt vb f w hB).mono ?_
  rintro e w' ⟨v, he, ho, hb⟩
  obtain ⟨a, cp, rfl⟩ := ho.slice
  rw [List.length_map, hk] at he ho
  rw [hc] at he
  exact ⟨a, cp, he, ho, hb⟩
theorem quiet_at {c : Bk} (hc : chkB c = true) (hk : (planV c).length = 0) (vn vt vb : Value) (w : World) (hB : Books w w.heap.size vn vt vb c) : Calls Tryz.prog 24 #[.agg #[vn, vt, vb, .int .u64 (c.fe : Nat)]] w fun e w' => e = .returned (.tuple #[.bool true, .int .i64 0]) ∧ Below w.heap.size w w' := by
  have h := quiet_any c vn vt vb w hB
  rw [quiet_iff hc, decide_eq_true hk, hc] at h
  exact h
theorem check_at {c : Bk} (hc : chkB c = true) (vn vt vb : Value) (w : World) (hB : Books w w.heap.size vn vt vb c) : Calls Tryz.prog 28 #[.agg #[vn, vt, vb, .int .u64 (c.fe : Nat)]] w fun e w' => e = .returned (.int .i64 0) ∧ Below w.heap.size w w' := by
  have h := check_any c vn vt vb w hB
  rw [hc] at h
  exact h
end Bo
end Go.Proofs.YthbmnkeigmbbdaaGreat
