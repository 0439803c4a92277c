/-
  SCORES: the plain mathematics: which load is right, what a score is, which one is the best.
-/
import Derived.Test.YthnajkpnchaciaaRigCheckR
import Derived.Test.YthnajkpnchaciaaRigRoom
import Derived.Test.YthnajkpnchaciaaRigSuit2
namespace Go.Proofs.Ythnajkpnchaciaa
open Go.RowKit
namespace Rg
def usedB (x0 x1 x2 u0 u1 u2 : Int) : Bool := inB u0 x0 && (inB u1 x1 && inB u2 x2)
def usedT (x0 x1 x2 u0 u1 u2 : Int) : Nat → Bool
  | 0 => true
  | 1 => inB u0 x0
  | 2 => inB u0 x0 && inB u1 x1
  | _ => usedB x0 x1 x2 u0 u1 u2
def usedE (x0 x1 x2 u0 u1 u2 : Int) : Nat := if usedB x0 x1 x2 u0 u1 u2 = true then 0 else 1
theorem used_no0 (x0 x1 x2 u0 u1 u2 : Int) (h : u0 < 0 ∨ x0 < u0) : usedB x0 x1 x2 u0 u1 u2 = false := by unfold usedB; rw [inB_no _ _ h]; rfl
theorem used_no1 (x0 x1 x2 u0 u1 u2 : Int) (h : u1 < 0 ∨ x1 < u1) : usedB x0 x1 x2 u0 u1 u2 = false := by unfold usedB; rw [inB_no u1 _ h]; simp
theorem used_no2 (x0 x1 x2 u0 u1 u2 : Int) (h : u2 < 0 ∨ x2 < u2) : usedB x0 x1 x2 u0 u1 u2 = false := by unfold usedB; rw [inB_no u2 _ h]; simp
def loadE (n : ByteArray) (x0 x1 x2 : Int) (ls ts : List Pr) (u0 u1 u2 : Int) : Nat := if nodeE n x0 x1 x2 ls ts = 0 then usedE x0 x1 x2 u0 u1 u2 else nodeE n x0 x1 x2 ls ts
theorem nodeE_lt (n : ByteArray) (x0 x1 x2 : Int) (ls ts : List Pr) : nodeE n x0 x1 x2 ls ts ≤ 5 := by unfold nodeE; (repeat' split) <;> omega
theorem usedE_lt (x0 x1 x2 u0 u1 u2 : Int) : usedE x0 x1 x2 u0 u1 u2 ≤ 1 := by unfold usedE; split <;> omega
theorem loadE_lt (n : ByteArray) (x0 x1 x2 : Int) (ls ts : List Pr) (u0 u1 u2 : Int) : loadE n x0 x1 x2 ls ts u0 u1 u2 ≤ 5 := by
  unfold loadE
  have := nodeE_lt n x0 x1 x2 ls ts
  have := usedE_lt x0 x1 x2 u0 u1 u2
  split <;> omega
theorem taskE_lt (n g a : ByteArray) (x0 x1 x2 r : Int) (ws bs : List Pr) : taskE n g a x0 x1 x2 r ws bs ≤ 5 := by unfold taskE; (repeat' split) <;> omega
/-- What one kind is worth. -/
def kS (h u n : Int) : Int := if 0 < h then 1000 * (u + n) / h else 0
def sumS (x0 x1 x2 u0 u1 u2 n0 n1 n2 : Int) : Int := kS x0 u0 n0 + kS x1 u1 n1 + kS x2 u2 n2
def sumT (x0 x1 x2 u0 u1 u2 n0 n1 n2 : Int) : Nat → Int
  | 0 => 0
  | 1 => kS x0 u0 n0
  | 2 => kS x0 u0 n0 + kS x1 u1 n1
  | _ => sumS x0 x1 x2 u0 u1 u2 n0 n1 n2
theorem kS_in (h u n : Int) (h0 : 0 ≤ u + n) (h1 : u + n ≤ h) : 0 ≤ kS h u n ∧ kS h u n ≤ 1000 := by
  unfold kS
  split
  · rename_i hp
    refine ⟨Int.ediv_nonneg (by omega) (by omega), ?_⟩
    have : 1000 * (u + n) / h ≤ 1000 * h / h := Int.ediv_le_ediv hp (by omega)
    rwa [Int.mul_ediv_cancel _ (by omega)] at this
  · omega
theorem kS_up (h u v n : Int) (hh : u ≤ v) : kS h u n ≤ kS h v n := by
  unfold kS
  split
  · rename_i hp
    exact Int.ediv_le_ediv hp (by omega)
  · omega
theorem room_in (x0 x1 x2 u0 u1 u2 n0 n1 n2 : Int) (h : roomB x0 x1 x2 u0 u1 u2 n0 n1 n2 = true) :
    (0 ≤ u0 ∧ 0 ≤ n0 ∧ u0 + n0 ≤ x0 ∧ x0 ≤ 1099511627776) ∧ (0 ≤ u1 ∧ 0 ≤ n1 ∧ u1 + n1 ≤ x1 ∧ x1 ≤ 1099511627776) ∧ (0 ≤ u2 ∧ 0 ≤ n2 ∧ u2 + n2 ≤ x2 ∧ x2 ≤ 1099511627776) := by
  unfold roomB fitsB at h
  simp only [Bool.and_eq_true, decide_eq_true_eq] at h
  obtain ⟨h1, h2, h3, h4, h5, h6⟩ := h
  have a := upto_in _ _ _ _ h1
  have b := upto_in _ _ _ _ h2
  have c := upto_in _ _ _ _ h3
  omega
theorem sumS_in (x0 x1 x2 u0 u1 u2 n0 n1 n2 : Int) (h : roomB x0 x1 x2 u0 u1 u2 n0 n1 n2 = true) : 0 ≤ sumS x0 x1 x2 u0 u1 u2 n0 n1 n2 ∧ sumS x0 x1 x2 u0 u1 u2 n0 n1 n2 ≤ 3000 := by
  have := room_in _ _ _ _ _ _ _ _ _ h
  have a := kS_in x0 u0 n0 (by omega) (by omega)
  have b := kS_in x1 u1 n1 (by omega) (by omega)
  have c := kS_in x2 u2 n2 (by omega) (by omega)
  unfold sumS
  omega
/-- The error of a score: te the task's, le the load's. -/
def fitE (te le : Nat) (s r : Bool) : Nat := if te = 0 then (if le = 0 then (if s = true then (if r = true then 0 else 13) else 13) else le) else te
theorem fitE_0 (te le : Nat) (s r : Bool) : fitE te le s r = 0 ↔ te = 0 ∧ le = 0 ∧ s = true ∧ r = true := by
  unfold fitE
  cases s <;> cases r <;> by_cases h1 : te = 0 <;> by_cases h2 : le = 0 <;> simp [h1, h2]
def fitV (e : Nat) (v : Int) : Int := if e = 0 then v else 0
/-- The best of the first k: ok whether one has a place, v its score, lt whose name is less. -/
def bestK (ok : Nat → Bool) (v : Nat → Int) (lt : Nat → Nat → Bool) : Nat → Option Nat
  | 0 => none
  | k + 1 => if ok k = true then (match bestK ok v lt k with
    | none => some k
    | some b => if v b < v k ∨ (v k = v b ∧ lt k b = true) then some k else some b) else bestK ok v lt k
theorem bestK_lt (ok : Nat → Bool) (v : Nat → Int) (lt : Nat → Nat → Bool) : ∀ k b, bestK ok v lt k = some b → b < k ∧ ok b = true
  | 0, b, h => by cases h
  | k + 1, b, h => by
    unfold bestK at h
    by_cases hk : ok k = true
    · rw [if_pos hk] at h
      cases hb : bestK ok v lt k with
      | none => rw [hb] at h; cases h; exact ⟨by omega, hk⟩
      | some c =>
        rw [hb] at h
        simp only at h
        split at h
        · cases h; exact ⟨by omega, hk⟩
        · cases h
          have := bestK_lt ok v lt k _ hb
          exact ⟨by omega, this.2⟩
    · rw [if_neg hk] at h
      have := bestK_lt ok v lt k b h
      exact ⟨by omega, this.2⟩
theorem bestK_none (ok : Nat → Bool) (v : Nat → Int) (lt : Nat → Nat → Bool) : ∀ k, bestK ok v lt k = none → ∀ i, i < k → ok i = false
  | 0, _, i, hi => absurd hi (Nat.not_lt_zero _)
  | k + 1, h, i, hi => by
    unfold bestK at h
    by_cases hk : ok k = true
    · rw [if_pos hk] at h
      cases hb : bestK ok v lt k with
      | none => rw [hb] at h; cases h
      | some c =>
        rw [hb] at h
        simp only at h
        split at h <;> cases h
    · rw [if_neg hk] at h
      by_cases hik : i = k
      · subst hik; simpa using hk
      · exact bestK_none ok v lt k h i (by omega)
/-- None has a greater score than the best. -/
theorem bestK_most (ok : Nat → Bool) (v : Nat → Int) (lt : Nat → Nat → Bool) : ∀ k b, bestK ok v lt k = some b → ∀ i, i < k → ok i = true → v i ≤ v b
  | 0, b, h, _, _, _ => by cases h
  | k + 1, b, h, i, hi, ho => by
    unfold bestK at h
    by_cases hk : ok k = true
    · rw [if_pos hk] at h
      cases hb : bestK ok v lt k with
      | none =>
        rw [hb] at h; cases h
        by_cases hik : i = k
        · subst hik; omega
        · have := bestK_none ok v lt k hb i (by omega)
          rw [this] at ho; cases ho
      | some c =>
        rw [hb] at h
        simp only at h
        by_cases hik : i = k
        · subst hik
          split at h
          · cases h; omega
          · rename_i hn; cases h; omega
        · have hm := bestK_most ok v lt k c hb i (by omega) ho
          split at h
          · rename_i hn; cases h; omega
          · cases h; exact hm
    · rw [if_neg hk] at h
      by_cases hik : i = k
      · subst hik; rw [ho] at hk; exact absurd rfl hk
      · exact bestK_most ok v lt k b h i (by omega) ho
/-- Of those of the same score none has a lesser name. -/
theorem bestK_name (ok : Nat → Bool) (v : Nat → Int) (lt : Nat → Nat → Bool) (N : Nat) (htot : ∀ i j, i < N → j < N → i ≠ j → lt i j = !(lt j i)) (htr : ∀ i j m, lt i j = true → lt j m = true → lt i m = true) :
    ∀ k, k ≤ N → ∀ b, bestK ok v lt k = some b → ∀ i, i < k → ok i = true → v i = v b → i ≠ b → lt b i = true
  | 0, _, b, h, _, _, _, _, _ => by cases h
  | k + 1, hN, b, h, i, hi, ho, hv, hne => by
    unfold bestK at h
    by_cases hk : ok k = true
    · rw [if_pos hk] at h
      cases hb : bestK ok v lt k with
      | none =>
        rw [hb] at h; cases h
        have := bestK_none ok v lt k hb i (by omega)
        rw [this] at ho; cases ho
      | some c =>
        have hc := (bestK_lt ok v lt k c hb).1
        rw [hb] at h
        simp only at h
        split at h
        · rename_i hn
          cases h
          have hm := bestK_most ok v lt k c hb i (by omega) ho
          rcases hn with hn | ⟨hn, hl⟩
          · omega
          · by_cases hic : i = c
            · subst hic; exact hl
            · exact htr _ _ _ hl (bestK_name ok v lt N htot htr k (by omega) c hb i (by omega) ho (by omega) hic)
        · rename_i hn
          cases h
          by_cases hik : i = k
          · subst hik
            rw [htot _ _ (by omega) (by omega) (Ne.symm hne)]
            have : ¬ lt i b = true := fun hl => hn (.inr ⟨hv, hl⟩)
            simpa using this
          · exact bestK_name ok v lt N htot htr k (by omega) b hb i (by omega) ho hv hne
    · rw [if_neg hk] at h
      by_cases hik : i = k
      · subst hik; rw [ho] at hk; exact absurd rfl hk
      · exact bestK_name ok v lt N htot htr k (by omega) b h i (by omega) ho hv hne
end Rg
end Go.Proofs.Ythnajkpnchaciaa
