/-
  WHAT JOINING COMES TO: the mathematics.
-/
import Derived.Test.YtjalmciaaenmjaaLogJn2
namespace Go.Proofs.Ytjalmciaaenmjaa
open Go.RowKit Go.Lib
namespace Lo
theorem tmE_in {b n x : Nat} (h1 : b ≤ x) (h2 : x ≤ b + n) : tmE b n x = 0 := by
  unfold tmE
  rw [if_neg (by omega), if_neg (by omega)]
theorem tmE_0 {b n x : Nat} (h : tmE b n x = 0) : b ≤ x ∧ x ≤ b + n := by
  unfold tmE at h
  split at h
  · cases h
  · split at h
    · cases h
    · omega
theorem tmV_in {b t : Nat} {l : List En} {j : Nat} (h : j < l.length) : tmV b t l (b + j + 1) = l[j].t := by
  unfold tmV
  have e : b + j + 1 - b - 1 = j := by omega
  rw [if_neg (by omega), if_neg (by omega), if_neg (by omega), e, List.getElem?_eq_getElem h]
theorem tmV_b (b t : Nat) (l : List En) : tmV b t l b = t := by
  unfold tmV
  rw [if_neg (by omega), if_neg (by omega), if_pos rfl]
theorem ptB_is {b t : Nat} {l : List En} {e : En} : ptB b t l e = true ↔ tmE b l.length e.i = 0 ∧ tmV b t l e.i = e.t := by
  unfold ptB
  simp only [Bool.and_eq_true, decide_eq_true_eq]
theorem pt_nil {b t : Nat} {l : List En} : ∀ {s : List En}, (∀ e ∈ s, ptB b t l e = true) → pt b t l s = []
  | [], _ => rfl
  | e :: r, h => by
    unfold pt
    rw [if_pos (h e List.mem_cons_self)]
    exact pt_nil fun x hx => h x (List.mem_cons_of_mem _ hx)
theorem pt_is {b t : Nat} {l : List En} : ∀ (s : List En) (X : Nat), b ≤ X → (∀ j (h : j < s.length), s[j].i = X + j + 1) →
    ∃ k, k ≤ s.length ∧ pt b t l s = s.drop k ∧ ∀ j (h : j < k) (h2 : j < s.length), ∃ h3 : X - b + j < l.length, l[X - b + j].t = s[j].t
  | [], X, _, _ => ⟨0, Nat.le_refl _, rfl, fun j h => absurd h (by omega)⟩
  | e :: r, X, hX, hr => by
    unfold pt
    by_cases hp : ptB b t l e = true
    · rw [if_pos hp]
      have h0 : e.i = X + 1 := hr 0 (by simp)
      obtain ⟨k, hk, e1, e2⟩ := pt_is (b := b) (l := l) (t := t) r (X + 1) (by omega) (fun j h => by
        have := hr (j + 1) (by simpa using h)
        rw [List.getElem_cons_succ] at this
        omega)
      refine ⟨k + 1, by simpa using hk, by rw [e1]; rfl, fun j h h2 => ?_⟩
      cases j with
      | zero =>
        obtain ⟨p1, p2⟩ := ptB_is.1 hp
        have hle := (tmE_0 p1).2
        have hlt : X - b < l.length := by omega
        refine ⟨hlt, ?_⟩
        have := tmV_in (b := b) (t := t) hlt
        rw [show b + (X - b) + 1 = e.i by omega, p2] at this
        exact this.symm
      | succ j =>
        obtain ⟨h3, h4⟩ := e2 j (by omega) (by simpa using h2)
        have e3 : X + 1 - b + j = X - b + (j + 1) := by omega
        refine ⟨by omega, ?_⟩
        simp only [e3] at h4
        rw [List.getElem_cons_succ]
        exact h4
    · rw [if_neg hp]
      exact ⟨0, Nat.zero_le _, rfl, fun j h => absurd h (by omega)⟩
/-- The entries that are joined stand behind X. -/
theorem jn_row {b x : Nat} {s : List En} (hx : Lt64 x) (h : rowB x s = true) :
    b ≤ jnX b x ∧ (∀ j (h : j < (jnS b x s).length), (jnS b x s)[j].i = jnX b x + j + 1) ∧ (∀ i (h : i < s.length), b < s[i].i → ∃ j, ∃ hj : j < (jnS b x s).length, (jnS b x s)[j] = s[i]) ∧ (jnS b x s).length ≤ s.length := by
  obtain ⟨-, r2⟩ := row_is s x h hx
  unfold jnX jnS
  by_cases hlt : x < b
  · rw [if_pos hlt, if_pos hlt]
    refine ⟨Nat.le_refl _, fun j hj => ?_, fun i hi hb => ?_, by rw [List.length_drop]; omega⟩
    · rw [List.length_drop] at hj
      rw [List.getElem_drop, (r2 _ (by omega)).1]
      omega
    · rw [(r2 i hi).1] at hb
      have hm : min (b - x) s.length = b - x := by omega
      refine ⟨i - (b - x), by rw [List.length_drop]; omega, ?_⟩
      rw [List.getElem_drop]
      congr 1
      omega
  · rw [if_neg hlt, if_neg hlt]
    exact ⟨by omega, fun j hj => (r2 j hj).1, fun i hi _ => ⟨i, hi, rfl⟩, Nat.le_refl _⟩
/-- What a join that succeeds makes. -/
theorem join_is {b t x u : Nat} {l s : List En} (hb : Lt64 b) (hx : Lt64 x) (hk : okB b t l = true) (hr : rowB x s = true) (hq : rfE b t l (jnX b x) (jnU b t x u) = 0) (hj : joinB b t l (jnS b x s) = true) :
    okB b t (joinL b t l (jnS b x s)) = true ∧ jv b t (joinL b t l (jnS b x s)) x u s = (b, t, joinL b t l (jnS b x s), 0, 0) ∧ (joinF b t l (jnS b x s) = 0 → joinL b t l (jnS b x s) = l) ∧
      (∀ i (h : i < s.length), b < s[i].i → tmE b (joinL b t l (jnS b x s)).length s[i].i = 0 ∧ tmV b t (joinL b t l (jnS b x s)) s[i].i = s[i].t) ∧
      (∀ i (h : i < l.length), (joinF b t l (jnS b x s) = 0 ∨ l[i].i < joinF b t l (jnS b x s)) → tmE b (joinL b t l (jnS b x s)).length l[i].i = 0 ∧ tmV b t (joinL b t l (jnS b x s)) l[i].i = l[i].t) ∧
      (joinL b t l (jnS b x s)).length ≤ l.length + s.length := by
  obtain ⟨w1, w2, w3, w4⟩ := jn_row (b := b) hx hr
  obtain ⟨r1, r2⟩ := row_is l b (ok_is hk).2.1 hb
  have hq1 : tmE b l.length (jnX b x) = 0 ∧ tmV b t l (jnX b x) = jnU b t x u := by
    unfold rfE at hq
    split at hq
    · next h1 =>
      split at hq
      · next h2 => exact ⟨h1, h2⟩
      · cases hq
    · next h1 => exact absurd hq h1
  obtain ⟨hq1, hq2⟩ := hq1
  have hX := (tmE_0 hq1).2
  obtain ⟨k, k1, k2, k3⟩ := pt_is (b := b) (t := t) (l := l) _ _ w1 w2
  have hdef : jv b t (joinL b t l (jnS b x s)) x u s = (if okB b t (joinL b t l (jnS b x s)) = false then (0, 0, [], 0, 10) else if rowB x s = false then (0, 0, [], 0, 4) else if rfE b t (joinL b t l (jnS b x s)) (jnX b x) (jnU b t x u) = 0 then jr b t (joinL b t l (jnS b x s)) (jnS b x s) else (0, 0, [], 0, rfE b t (joinL b t l (jnS b x s)) (jnX b x) (jnU b t x u))) := rfl
  generalize jnX b x = X at *
  generalize jnS b x s = S at *
  generalize jnU b t x u = U at *
  obtain ⟨d, hd⟩ : ∃ d, X = b + d := ⟨X - b, by omega⟩
  subst hd
  have hdn : d ≤ l.length := by omega
  have e0 : b + d - b = d := by omega
  simp only [e0] at k3
  have hdk : d + k ≤ l.length := by
    cases k with
    | zero => omega
    | succ k =>
      obtain ⟨h3, -⟩ := k3 k (by omega) (by omega)
      omega
  -- the joined list: its beginning is l's, the joined ones are there
  have key : okB b t (joinL b t l S) = true ∧ d + S.length ≤ (joinL b t l S).length ∧ (joinL b t l S).length ≤ l.length + s.length ∧ (∀ i (h : i < l.length), i < d + k → ∃ h2 : i < (joinL b t l S).length, (joinL b t l S)[i] = l[i]) ∧
      (∀ j (h : j < S.length), ∃ h2 : d + j < (joinL b t l S).length, (joinL b t l S)[d + j].t = S[j].t) ∧ (joinF b t l S = 0 → joinL b t l S = l) ∧ (joinF b t l S ≠ 0 → joinF b t l S = b + d + k + 1) := by
    by_cases hkS : k = S.length
    · have hnil : pt b t l S = [] := by rw [k2, hkS]; exact List.drop_eq_nil_of_le (Nat.le_refl _)
      have eL : joinL b t l S = l := by unfold joinL; rw [hnil]
      have eF : joinF b t l S = 0 := by unfold joinF; rw [hnil]
      rw [eL, eF]
      subst hkS
      exact ⟨hk, by show d + S.length ≤ l.length; omega, by show l.length ≤ _; omega, fun i h _ => ⟨h, rfl⟩, fun j h => k3 j h h, fun _ => rfl, fun h => absurd rfl h⟩
    · have hkl : k < S.length := by omega
      have hcons : pt b t l S = S[k] :: S.drop (k + 1) := by rw [k2, List.drop_eq_getElem_cons hkl]
      have hi := w2 k hkl
      have hm : mny b l.length (S[k].i - 1) = d + k := by unfold mny; rw [hi]; split <;> omega
      have eL : joinL b t l S = l.take (d + k) ++ S.drop k := by
        unfold joinL
        rw [hcons]
        show l.take (mny b l.length (S[k].i - 1)) ++ S[k] :: S.drop (k + 1) = _
        rw [hm, ← List.drop_eq_getElem_cons hkl]
      have eF : joinF b t l S = S[k].i := by unfold joinF; rw [hcons]
      have eB : joinB b t l S = okB b t (l.take (d + k) ++ S.drop k) := by
        unfold joinB
        rw [hcons]
        show okB b t (l.take (mny b l.length (S[k].i - 1)) ++ S[k] :: S.drop (k + 1)) = _
        rw [hm, ← List.drop_eq_getElem_cons hkl]
      rw [eB] at hj
      rw [eL, eF]
      have htl : (l.take (d + k)).length = d + k := by rw [List.length_take]; omega
      have hLl : (l.take (d + k) ++ S.drop k).length = d + S.length := by rw [List.length_append, htl, List.length_drop]; omega
      refine ⟨hj, by rw [hLl]; exact Nat.le_refl _, by rw [hLl]; omega, fun i h h1 => ⟨by rw [hLl]; omega, ?_⟩, fun j h => ⟨by rw [hLl]; omega, ?_⟩, fun h => absurd h (by omega), fun _ => hi⟩
      · rw [List.getElem_append_left (by rw [htl]; exact h1), List.getElem_take]
      · by_cases hjk : j < k
        · rw [List.getElem_append_left (by rw [htl]; omega), List.getElem_take]
          exact (k3 j hjk h).2
        · rw [List.getElem_append_right (by rw [htl]; omega), List.getElem_drop]
          congr 2
          rw [htl]; omega
  generalize hL : joinL b t l S = L at *
  generalize joinF b t l S = F at *
  obtain ⟨a1, a2, a3, a4, a5, a6, a7⟩ := key
  have hs4 : ∀ j (h : j < S.length), tmE b L.length S[j].i = 0 ∧ tmV b t L S[j].i = S[j].t := by
    intro j h
    obtain ⟨h2, h3⟩ := a5 j h
    have e1 : S[j].i = b + (d + j) + 1 := by rw [w2 j h]; omega
    rw [e1]
    exact ⟨tmE_in (by omega) (by omega), by rw [tmV_in h2]; exact h3⟩
  refine ⟨a1, ?_, a6, fun i h hbi => ?_, fun i h hF => ?_, a3⟩
  · rw [hdef, if_neg (by rw [a1]; simp), if_neg (by rw [hr]; simp)]
    have hrf : rfE b t L (b + d) U = 0 := by
      have hv : tmV b t L (b + d) = U := by
        cases d with
        | zero => rw [Nat.add_zero, tmV_b] at hq2 ⊢; exact hq2
        | succ d =>
          have e1 : b + (d + 1) = b + d + 1 := by omega
          obtain ⟨h2, h3⟩ := a4 d (by omega) (by omega)
          rw [e1, tmV_in (by omega)] at hq2
          rw [e1, tmV_in h2, h3]
          exact hq2
      unfold rfE
      rw [tmE_in (by omega) (by omega), if_pos rfl, if_pos hv]
    rw [if_pos hrf]
    have hp : pt b t L S = [] := pt_nil fun e he => by
      obtain ⟨j, hj, rfl⟩ := List.getElem_of_mem he
      exact ptB_is.2 (hs4 j hj)
    unfold jr joinB joinL joinF
    rw [hp]
    rfl
  · obtain ⟨j, hj, e⟩ := w3 i h hbi
    have := hs4 j hj
    rw [e] at this
    exact this
  · have hid : i < d + k ∨ L = l := by
      by_cases hF0 : F = 0
      · exact .inr (a6 hF0)
      · have := a7 hF0
        rcases hF with h1 | h1
        · exact absurd h1 hF0
        · rw [(r2 i h).1] at h1; exact .inl (by omega)
    rw [(r2 i h).1]
    rcases hid with h1 | h1
    · obtain ⟨h2, h3⟩ := a4 i h h1
      exact ⟨tmE_in (by omega) (by omega), by rw [tmV_in h2, h3]⟩
    · rw [h1]
      exact ⟨tmE_in (by omega) (by omega), tmV_in h⟩
/-- Join's answer, by its error. -/
theorem jv_cases {b t x u : Nat} {l s : List En} : (∃ r, r ≠ 0 ∧ jv b t l x u s = (0, 0, [], 0, r)) ∨
    (okB b t l = true ∧ rowB x s = true ∧ rfE b t l (jnX b x) (jnU b t x u) = 0 ∧ joinB b t l (jnS b x s) = true ∧ jv b t l x u s = (b, t, joinL b t l (jnS b x s), joinF b t l (jnS b x s), 0)) := by
  unfold jv
  by_cases h1 : okB b t l = false
  · rw [if_pos h1]; exact .inl ⟨10, by decide, rfl⟩
  · rw [if_neg h1]
    by_cases h2 : rowB x s = false
    · rw [if_pos h2]; exact .inl ⟨4, by decide, rfl⟩
    · rw [if_neg h2]
      by_cases h3 : rfE b t l (jnX b x) (jnU b t x u) = 0
      · rw [if_pos h3]
        unfold jr
        by_cases h4 : joinB b t l (jnS b x s) = true
        · rw [if_pos h4]; exact .inr ⟨by simpa using h1, by simpa using h2, h3, h4, rfl⟩
        · rw [if_neg h4]; exact .inl ⟨17, by decide, rfl⟩
      · rw [if_neg h3]; exact .inl ⟨_, h3, rfl⟩
end Lo
end Go.Proofs.Ytjalmciaaenmjaa
