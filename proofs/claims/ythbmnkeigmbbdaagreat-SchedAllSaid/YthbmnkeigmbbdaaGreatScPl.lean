/-
  A PLAN, as plain data.
-/
import Derived.Test.YthbmnkeigmbbdaaGreatScQuiet
namespace Go.Proofs.YthbmnkeigmbbdaaGreat
open Go.RowKit Go.Lib
namespace Bo
open Rw
set_option linter.unusedVariables false
theorem pl_pre : ∀ (r : List Hd.Td) (c : Bk) (s : List Rg.Pr), ∃ q, (plG c r s).2 = s ++ q
  | [], _, s => ⟨[], (List.append_nil s).symm⟩
  | t :: r, c, s => by
    by_cases h8 : s.length = 8
    · exact ⟨[], by rw [pl_full h8, List.append_nil]⟩
    · by_cases ho : bstV c t = ⟨#[]⟩
      · rw [pl_skip h8 ho]; exact pl_pre r c s
      · rw [pl_step h8 ho]
        obtain ⟨q, hq⟩ := pl_pre r (biB c t.n (bstV c t) c.fe).1 (s ++ [⟨t.n, bstV c t⟩])
        exact ⟨⟨t.n, bstV c t⟩ :: q, by rw [hq, List.append_assoc]; rfl⟩
theorem bst_ne {b : Bk} (h : RB b) {t : Hd.Td} (hf : frV b t.n ≠ []) : ¬ bstV b t = ⟨#[]⟩ := by
  intro e
  have h1 := (fr_sub (bst_some (t := t) hf)).1
  rw [e] at h1
  obtain ⟨n, hn, hne⟩ := List.mem_map.1 h1
  have h2 : Rg.nodeE n.n n.z0 n.z1 n.z2 n.ls n.ts = 0 := of_decide_eq_true (h.kn n hn)
  have hne : n.n = ⟨#[]⟩ := hne
  rw [hne] at h2
  unfold Rg.nodeE at h2
  have h3 : Rg.nameB ⟨#[]⟩ = false := by decide
  rw [h3, if_neg (by decide)] at h2
  cases h2
/-- The first that can go somewhere goes first. -/
theorem first_step {b : Bk} {t : Hd.Td} {r : List Hd.Td} (h : RB b) (hf : frV b t.n ≠ []) : ∃ v q, (plG b (t :: r) []).2 = ⟨t.n, v⟩ :: q := by
  rw [pl_step (by decide) (bst_ne h hf)]
  obtain ⟨q, hq⟩ := pl_pre r (biB b t.n (bstV b t) b.fe).1 ([] ++ [⟨t.n, bstV b t⟩])
  exact ⟨_, q, hq⟩
theorem first_skip {b : Bk} {t : Hd.Td} {r : List Hd.Td} (hf : frV b t.n = []) : plG b (t :: r) [] = plG b r [] := pl_skip (by decide) (bst_none hf)
end Bo
end Go.Proofs.YthbmnkeigmbbdaaGreat
