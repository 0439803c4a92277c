/-
  Merged: QeMath, QeSum.
-/
import Derived.Test.YthbmnkeigmbbdaaGreatBgZ
/-
  WHO WAITS, as plain data: the tasks that are on no node, in their order.
-/
namespace Go.Proofs.YthbmnkeigmbbdaaGreat
open Go.RowKit Go.Lib
namespace Bo
set_option linter.unusedVariables false
/-- One list in two orders, under a relation that holds one way at most. -/
theorem perm_uniq {α : Type} {R : α → α → Prop} (hR : ∀ a b, R a b → R b a → False) : ∀ {l m : List α}, l.Perm m → l.Pairwise R → m.Pairwise R → l = m := by
  intro l
  induction l with
  | nil => intro m h _ _; exact (List.Perm.nil_eq h)
  | cons a r ih =>
    intro m h hl hm
    cases m with
    | nil => exact absurd h.length_eq (by simp)
    | cons c s =>
      obtain ⟨h1, h2⟩ := List.pairwise_cons.1 hl
      obtain ⟨h3, h4⟩ := List.pairwise_cons.1 hm
      have hac : a = c := by
        have ha : a ∈ c :: s := h.mem_iff.1 (List.mem_cons_self ..)
        have hc : c ∈ a :: r := h.mem_iff.2 (List.mem_cons_self ..)
        rcases List.mem_cons.1 ha with e | ha
        · exact e
        · rcases List.mem_cons.1 hc with e | hc
          · exact e.symm
          · exact (hR _ _ (h1 c hc) (h3 a ha)).elim
      subst hac
      rw [ih ((List.perm_cons a).1 h) h2 h4]
/-- Whether s waits ahead of t. -/
def ahB (s t : Hd.Td) : Bool := decide (t.r < s.r) || (decide (s.r = t.r) && lsS s.n t.n)
theorem ah_irr (s : Hd.Td) : ahB s s = false := by unfold ahB; rw [ls_irr]; simp
theorem ah_asym {s t : Hd.Td} (h : ahB s t = true) : ahB t s = false := by
  unfold ahB at *
  simp only [Bool.or_eq_true, Bool.and_eq_true, decide_eq_true_eq] at h
  rw [← Bool.not_eq_true]
  simp only [Bool.or_eq_true, Bool.and_eq_true, decide_eq_true_eq]
  rintro (h2 | ⟨h2, h3⟩)
  · rcases h with h | ⟨h, h4⟩ <;> omega
  · rcases h with h | ⟨h, h4⟩
    · omega
    · rw [ls_asym h4] at h3; cases h3
theorem ah_trans {s t u : Hd.Td} (h : ahB s t = true) (h2 : ahB t u = true) : ahB s u = true := by
  unfold ahB at *
  simp only [Bool.or_eq_true, Bool.and_eq_true, decide_eq_true_eq] at *
  rcases h with h | ⟨h, h3⟩
  · rcases h2 with h2 | ⟨h2, h4⟩
    · exact .inl (by omega)
    · exact .inl (by omega)
  · rcases h2 with h2 | ⟨h2, h4⟩
    · exact .inl (by omega)
    · exact .inr ⟨by omega, ls_trans h3 h4⟩
theorem ah_con {s t : Hd.Td} (h : ahB s t = false) (hn : s.n ≠ t.n) : ahB t s = true := by
  unfold ahB at *
  rw [← Bool.not_eq_true] at h
  simp only [Bool.or_eq_true, Bool.and_eq_true, decide_eq_true_eq, not_or, not_and, Bool.not_eq_true] at *
  rcases Int.lt_trichotomy s.r t.r with h1 | h1 | h1
  · exact .inl h1
  · refine .inr ⟨h1.symm, ?_⟩
    have h2 := h.2 h1
    cases h3 : lsS t.n s.n with
    | true => rfl
    | false => exact absurd (ls_con h2 h3) hn
  · exact absurd h1 h.1
theorem ah_ntrans {s t u : Hd.Td} (h : ahB s t = false) (h2 : ahB t u = false) : ahB s u = false := by
  cases hs : ahB s u with
  | false => rfl
  | true =>
    by_cases h3 : s.n = t.n
    · -- equal names: the Ranks decide
      unfold ahB at *
      rw [← Bool.not_eq_true] at h h2
      simp only [Bool.or_eq_true, Bool.and_eq_true, decide_eq_true_eq, not_or, not_and, Bool.not_eq_true] at *
      rcases hs with hs | ⟨hs, h4⟩
      · have := h.1; have := h2.1; omega
      · rw [h3] at h4
        have h5 : ¬ t.r = u.r := fun e => by rw [h2.2 e] at h4; cases h4
        have := h.1; have := h2.1
        omega
    · have h4 := ah_con h h3
      rw [ah_trans h4 hs] at h2; cases h2
/-- How two whole numbers stand. -/
def ciI (x y : Int) : Int := if x < y then -1 else if y < x then 1 else 0
/-- What the comparison says. -/
def inO (s t : Hd.Td) : Int := if ciI t.r s.r = 0 then Rg.cmpS s.n t.n else ciI t.r s.r
theorem inO_lt (s t : Hd.Td) : decide (inO s t < 0) = ahB s t := by
  unfold inO ahB ciI
  rcases Int.lt_trichotomy t.r s.r with h | h | h
  · simp [h]
  · rw [h]
    simp only [Int.lt_irrefl, if_false, if_true, decide_false, Bool.false_or, decide_true, Bool.true_and]
    cases h1 : lsS s.n t.n with
    | true => rw [cmp_lt h1]; decide
    | false =>
      cases h2 : lsS t.n s.n with
      | true => rw [cmp_gt h1 h2]; decide
      | false => rw [ls_con h1 h2, cmp_eq]; decide
  · have h1 : ¬ t.r < s.r := by omega
    have h2 : ¬ s.r = t.r := by omega
    simp [h, h1, h2]
/-- One put in where it waits. -/
def insT (x : Hd.Td) : List Hd.Td → List Hd.Td
  | [] => [x]
  | y :: r => if ahB y x = true then y :: insT x r else x :: y :: r
theorem insT_perm (x : Hd.Td) (l : List Hd.Td) : (insT x l).Perm (x :: l) := by
  induction l with
  | nil => exact List.Perm.refl _
  | cons y r ih =>
    unfold insT
    split
    · exact (List.Perm.cons y ih).trans (List.Perm.swap x y r)
    · exact List.Perm.refl _
theorem insT_sorted (x : Hd.Td) : ∀ (l : List Hd.Td), l.Pairwise (fun s t => ahB s t = true) → (∀ y ∈ l, y.n ≠ x.n) → (insT x l).Pairwise (fun s t => ahB s t = true)
  | [], _, _ => List.pairwise_singleton _ _
  | y :: r, h, hn => by
    obtain ⟨h1, h2⟩ := List.pairwise_cons.1 h
    unfold insT
    split
    · rename_i hy
      rw [List.pairwise_cons]
      refine ⟨fun a ha => ?_, insT_sorted x r h2 (fun z hz => hn z (List.mem_cons_of_mem _ hz))⟩
      rcases List.mem_cons.1 ((insT_perm x r).mem_iff.1 ha) with rfl | ha
      · exact hy
      · exact h1 a ha
    · rename_i hy
      have hxy : ahB x y = true := ah_con (by simpa using hy) (hn y (List.mem_cons_self ..))
      rw [List.pairwise_cons]
      refine ⟨fun a ha => ?_, h⟩
      rcases List.mem_cons.1 ha with rfl | ha
      · exact hxy
      · exact ah_trans hxy (h1 a ha)
def srtT (l : List Hd.Td) : List Hd.Td := l.foldl (fun o t => insT t o) []
theorem srt_aux (l : List Hd.Td) : ∀ o : List Hd.Td, o.Pairwise (fun s t => ahB s t = true) → ((o ++ l).map (·.n)).Nodup → (l.foldl (fun o t => insT t o) o).Pairwise (fun s t => ahB s t = true) ∧ (l.foldl (fun o t => insT t o) o).Perm (o ++ l) := by
  induction l with
  | nil => intro o h _; exact ⟨h, by simp⟩
  | cons x r ih =>
    intro o h hn
    have hp : (insT x o ++ r).Perm (o ++ x :: r) := ((insT_perm x o).append_right r).trans (List.perm_middle (a := x) (l₁ := o) (l₂ := r)).symm
    have h1 : (insT x o).Pairwise (fun s t => ahB s t = true) := by
      refine insT_sorted x o h (fun y hy e => ?_)
      rw [List.map_append, List.map_cons, List.nodup_append] at hn
      exact hn.2.2 y.n (List.mem_map_of_mem hy) x.n (List.mem_cons_self ..) e
    obtain ⟨h2, h3⟩ := ih (insT x o) h1 ((hp.map _).nodup_iff.2 hn)
    exact ⟨h2, h3.trans hp⟩
theorem srt_sorted {l : List Hd.Td} (h : (l.map (·.n)).Nodup) : (srtT l).Pairwise (fun s t => ahB s t = true) := (srt_aux l [] List.Pairwise.nil h).1
theorem srt_perm {l : List Hd.Td} (h : (l.map (·.n)).Nodup) : (srtT l).Perm l := (srt_aux l [] List.Pairwise.nil h).2
/-- What is sorted, and is a list otherwise, is that. -/
theorem srt_uniq {l m : List Hd.Td} (h : (l.map (·.n)).Nodup) (hp : m.Perm l) (hs : ∀ i j (hi : i < j) (hj : j < m.length), ahB m[j] (m[i]'(by omega)) = false) : m = srtT l := by
  refine perm_uniq (R := fun s t => ahB s t = true) (fun a b h1 h2 => by rw [ah_asym h1] at h2; cases h2) (hp.trans (srt_perm h).symm) ?_ (srt_sorted h)
  rw [List.pairwise_iff_getElem]
  intro i j hi hj hij
  refine ah_con (hs i j hij hj) (fun e => ?_)
  have hn : (m.map (·.n)).Nodup := (hp.map _).nodup_iff.2 h
  have := (List.pairwise_iff_getElem.1 hn) i j (by simpa using hi) (by simpa using hj) hij
  simp only [List.getElem_map] at this
  exact this e.symm
theorem len_filter {α : Type} (p : α → Bool) (l : List α) : (l.filter (fun x => !p x)).length + (l.filter p).length = l.length := by
  induction l with
  | nil => rfl
  | cons x r ih =>
    cases h : p x
    · rw [List.filter_cons_of_pos (by rw [h]; rfl), List.filter_cons_of_neg (by rw [h]; decide), List.length_cons, List.length_cons]; omega
    · rw [List.filter_cons_of_neg (by rw [h]; decide), List.filter_cons_of_pos h, List.length_cons, List.length_cons]; omega
/-- Who is on no node. -/
def wtL (ts : List Hd.Td) (bs : List Rg.Pr) : List Hd.Td := ts.filter (fun t => !hasK (bs.map (·.k)) t.n)
def wtV (b : Bk) : List Hd.Td := srtT (wtL b.ts b.bs)
theorem wtL_nodup {b : Bk} (h : RB b) : ((wtL b.ts b.bs).map (·.n)).Nodup := (h.rt.nodup).sublist ((List.filter_sublist).map _)
theorem wt_mem {b : Bk} (h : RB b) {t : Hd.Td} : t ∈ wtV b ↔ t ∈ b.ts ∧ hasK (b.bs.map (·.k)) t.n = false := by
  unfold wtV
  rw [(srt_perm (wtL_nodup h)).mem_iff]
  unfold wtL
  rw [List.mem_filter]
  simp
theorem wt_nodup {b : Bk} (h : RB b) : ((wtV b).map (·.n)).Nodup := ((srt_perm (wtL_nodup h)).map _).nodup_iff.2 (wtL_nodup h)
theorem wt_sorted {b : Bk} (h : RB b) : (wtV b).Pairwise (fun s t => ahB s t = true) := srt_sorted (wtL_nodup h)
theorem wt_len {b : Bk} (h : RB b) : (wtV b).length + b.bs.length = b.ts.length := by
  have h1 : (wtV b).length = (wtL b.ts b.bs).length := (srt_perm (wtL_nodup h)).length_eq
  rw [h1]
  -- the binds' tasks are those of the tasks that are on a node, each once
  have hd := h.rt.nodup.sublist ((List.filter_sublist (p := fun t : Hd.Td => hasK (b.bs.map (·.k)) t.n) (l := b.ts)).map (·.n))
  have h3 := nodup_le _ ((b.ts.filter (fun t => hasK (b.bs.map (·.k)) t.n)).map (·.n)) h.rb.nodup (fun x hx => by
    obtain ⟨o, ho, rfl⟩ := List.mem_map.1 hx
    obtain ⟨t, ht, he⟩ := has_mem (h.on o ho).1
    exact List.mem_map.2 ⟨t, List.mem_filter.2 ⟨ht, by rw [he]; exact has_iff.2 hx⟩, he⟩)
  have h4 := nodup_le _ (b.bs.map (·.k)) hd (fun x hx => by
    obtain ⟨t, ht, rfl⟩ := List.mem_map.1 hx
    exact has_iff.1 (List.mem_filter.1 ht).2)
  rw [List.length_map, List.length_map] at h3 h4
  unfold wtL
  have := len_filter (fun t : Hd.Td => hasK (b.bs.map (·.k)) t.n) b.ts
  omega
end Bo
end Go.Proofs.YthbmnkeigmbbdaaGreat

/-
  WHAT IS USED OF ALL NODES is what the tasks on them need, as plain data.
-/
namespace Go.Proofs.YthbmnkeigmbbdaaGreat
open Go.RowKit Go.Lib
namespace Bo
open Rw
set_option linter.unusedVariables false
end Bo
end Go.Proofs.YthbmnkeigmbbdaaGreat
