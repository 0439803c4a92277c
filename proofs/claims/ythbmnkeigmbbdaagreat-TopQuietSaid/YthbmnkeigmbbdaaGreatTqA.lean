/-
  Merged: ScPl, ScRuns, ScEndP, TqP, TqDone.
-/
import Derived.Test.YthbmnkeigmbbdaaGreatScQuiet
import Derived.Test.YthbmnkeigmbbdaaGreatBgA
/- A PLAN, as plain data. -/
namespace Go.Proofs.YthbmnkeigmbbdaaGreat
open Go.RowKit Go.Lib
namespace Bo
open Rw
set_option linter.unusedVariables false
theorem pl_pre : ∀ (r : List Hd.Td) (c : Bk) (s : List Rg.Pr), ∃ q, (plG c r s).2 = s ++ q
  | [], _, s => ⟨[], (List.append_nil s).symm⟩
  | t :: r, c, s => by
    by_cases h8 : s.length = 8
    · exact ⟨[], by rw [pl_full h8, List.append_nil]⟩
    · by_cases ho : bstV c t = ⟨#[]⟩
      · rw [pl_skip h8 ho]; exact pl_pre r c s
      · rw [pl_step h8 ho]
        obtain ⟨q, hq⟩ := pl_pre r (biB c t.n (bstV c t) c.fe).1 (s ++ [⟨t.n, bstV c t⟩])
        exact ⟨⟨t.n, bstV c t⟩ :: q, by rw [hq, List.append_assoc]; rfl⟩
theorem bst_ne {b : Bk} (h : RB b) {t : Hd.Td} (hf : frV b t.n ≠ []) : ¬ bstV b t = ⟨#[]⟩ := by
  intro e
  have h1 := (fr_sub (bst_some (t := t) hf)).1
  rw [e] at h1
  obtain ⟨n, hn, hne⟩ := List.mem_map.1 h1
  have h2 : Rg.nodeE n.n n.z0 n.z1 n.z2 n.ls n.ts = 0 := of_decide_eq_true (h.kn n hn)
  have hne : n.n = ⟨#[]⟩ := hne
  rw [hne] at h2
  unfold Rg.nodeE at h2
  have h3 : Rg.nameB ⟨#[]⟩ = false := by decide
  rw [h3, if_neg (by decide)] at h2
  cases h2
/-- The first that can go somewhere goes first. -/
theorem first_step {b : Bk} {t : Hd.Td} {r : List Hd.Td} (h : RB b) (hf : frV b t.n ≠ []) : ∃ v q, (plG b (t :: r) []).2 = ⟨t.n, v⟩ :: q := by
  rw [pl_step (by decide) (bst_ne h hf)]
  obtain ⟨q, hq⟩ := pl_pre r (biB b t.n (bstV b t) b.fe).1 ([] ++ [⟨t.n, bstV b t⟩])
  exact ⟨_, q, hq⟩
theorem first_skip {b : Bk} {t : Hd.Td} {r : List Hd.Td} (hf : frV b t.n = []) : plG b (t :: r) [] = plG b r [] := pl_skip (by decide) (bst_none hf)
end Bo
end Go.Proofs.YthbmnkeigmbbdaaGreat

/- A PLAN'S STEPS, done in order, as plain data. -/
namespace Go.Proofs.YthbmnkeigmbbdaaGreat
open Go.RowKit Go.Lib
namespace Bo
open Rw
set_option linter.unusedVariables false
/-- Each step can be done behind the one ahead of it. -/
def Runs : Bk → List Rg.Pr → Prop
  | _, [] => True
  | c, p :: q => canE c p.k p.v = 0 ∧ chkB (biB c p.k p.v c.fe).1 = true ∧ (biB c p.k p.v c.fe).1.fe = c.fe ∧ Runs (biB c p.k p.v c.fe).1 q
theorem pl_runs : ∀ (r : List Hd.Td) (c : Bk) (s q : List Rg.Pr), chkB c = true → (plG c r s).2 = s ++ q → Runs c q
  | [], c, s, q, _, h => by
    rw [pl_nil] at h
    have hq : q = [] := by simpa using h
    rw [hq]; trivial
  | t :: r, c, s, q, hc, h => by
    by_cases h8 : s.length = 8
    · rw [pl_full h8] at h
      have hq : q = [] := by simpa using h
      rw [hq]; trivial
    · by_cases ho : bstV c t = ⟨#[]⟩
      · rw [pl_skip h8 ho] at h
        exact pl_runs r c s q hc h
      · obtain ⟨h1, -, h2, -, h4⟩ := step_done hc ho
        rw [pl_step h8 ho] at h
        obtain ⟨q2, hq2⟩ := pl_pre r (biB c t.n (bstV c t) c.fe).1 (s ++ [⟨t.n, bstV c t⟩])
        rw [hq2, List.append_assoc] at h
        have hq : q = ⟨t.n, bstV c t⟩ :: q2 := (List.append_cancel_left h).symm
        rw [hq]
        exact ⟨h1, h2, h4, pl_runs r _ _ q2 h2 hq2⟩
theorem plan_runs {b : Bk} (hc : chkB b = true) : Runs b (planV b) := by
  unfold planV
  rw [if_pos hc]
  exact pl_runs (wtV b) b [] _ hc (List.nil_append _).symm
/-- What a bind with a fence that is not below the book's comes to; and with one that is. -/
theorem bi_above {c : Bk} {k v : ByteArray} {f : Nat} (h : c.fe ≤ f) (h0 : canE c k v = 0) : biB c k v f = ((biB c k v c.fe).1, 0) := by
  unfold biB
  rw [if_neg (by omega), if_pos h0, if_neg (Nat.lt_irrefl _)]
theorem bi_below {c : Bk} {k v : ByteArray} {f : Nat} (h : f < c.fe) : biB c k v f = (c, 14) := by
  unfold biB
  rw [if_pos h]
/-- A step's bind is one more. -/
theorem bi_more {c : Bk} {k v : ByteArray} (h0 : canE c k v = 0) : (biB c k v c.fe).1.bs.length = c.bs.length + 1 ∧ (biB c k v c.fe).1.ns = c.ns ∧ (biB c k v c.fe).1.ts = c.ts := by
  unfold biB
  rw [if_neg (Nat.lt_irrefl _), if_pos h0]
  refine ⟨?_, rfl, rfl⟩
  have hle : lbB c.bs k ≤ c.bs.length := by have := lb_le (c.bs.map (·.k)) k; rw [List.length_map] at this; exact this
  exact insR_len _ _ _ hle
/-- What the names of a step are. -/
theorem step_fit {c : Bk} {k v : ByteArray} (hf : Fine c) (h0 : canE c k v = 0) : FitB ⟨k, v⟩ := by
  obtain ⟨⟨c1, c2⟩, -, -⟩ := can0.1 h0
  obtain ⟨t, ht, hk⟩ := has_mem (f := fun t : Hd.Td => t.n) c1
  obtain ⟨n, hn, hv⟩ := has_mem (f := fun n : Hd.Nd => n.n) c2
  refine ⟨?_, ?_⟩
  · have h := (hf.ft t ht).1.1
    have hk : t.n = k := hk
    rw [hk] at h
    exact h
  · have h := (hf.fn n hn).1
    have hv : n.n = v := hv
    rw [hv] at h
    exact h
/-- A plan with no step is one of a quiet book. -/
theorem quiet_iff {b : Bk} (hc : chkB b = true) : quiV b = decide ((planV b).length = 0) := by
  have hr := rb_of_chk hc
  unfold quiV planV
  rw [if_pos hc, if_pos hc]
  generalize wtV b = r
  induction r with
  | nil => rfl
  | cons t r ih =>
    by_cases hf : frV b t.n = []
    · rw [first_skip hf, ← ih, List.any_cons, bst_none hf]
      simp
    · obtain ⟨v, q, hq⟩ := first_step (r := r) hr hf
      rw [hq, List.any_cons, decide_eq_true (bst_ne hr hf)]
      simp
end Bo
end Go.Proofs.YthbmnkeigmbbdaaGreat

/- WHAT A PLAN'S STEPS COME TO. -/
namespace Go.Proofs.YthbmnkeigmbbdaaGreat
open Go.RowKit Go.Lib
namespace Bo
open Rw
set_option linter.unusedVariables false
theorem pl_len8 : ∀ (r : List Hd.Td) (c : Bk) (s : List Rg.Pr), s.length ≤ 8 → (plG c r s).2.length ≤ 8
  | [], _, _, h => h
  | t :: r, c, s, h => by
    by_cases h8 : s.length = 8
    · rw [pl_full h8]; exact h
    · by_cases ho : bstV c t = ⟨#[]⟩
      · rw [pl_skip h8 ho]; exact pl_len8 r c s h
      · rw [pl_step h8 ho]; exact pl_len8 r _ _ (by rw [List.length_append]; simp; omega)
theorem plan_len8 (b : Bk) : (planV b).length ≤ 8 := by
  unfold planV
  split
  · exact pl_len8 _ _ _ (Nat.zero_le _)
  · exact Nat.zero_le _
theorem runs_fitB : ∀ {q : List Rg.Pr} {c : Bk}, Runs c q → (∀ n ∈ c.ns, FitN n) → (∀ t ∈ c.ts, FitT t) → ∀ p ∈ q, FitB p
  | [], _, _, _, _, p, hp => by cases hp
  | p0 :: q, c, h, hn, ht, p, hp => by
    obtain ⟨h0, -, -, h3⟩ := h
    obtain ⟨-, e1, e2⟩ := bi_more h0
    rcases List.mem_cons.1 hp with rfl | hp
    · obtain ⟨⟨c1, c2⟩, -, -⟩ := can0.1 h0
      obtain ⟨t, ht', hk⟩ := has_mem (f := fun t : Hd.Td => t.n) c1
      obtain ⟨n, hn', hv⟩ := has_mem (f := fun n : Hd.Nd => n.n) c2
      refine ⟨?_, ?_⟩
      · have h := (ht t ht').1.1
        have hk : t.n = p.k := hk
        rw [hk] at h
        exact h
      · have h := (hn n hn').1
        have hv : n.n = p.v := hv
        rw [hv] at h
        exact h
    · exact runs_fitB h3 (by rw [e1]; exact hn) (by rw [e2]; exact ht) p hp
/-- The plan of a right book, where it has k steps. -/
theorem plan_at {c : Bk} (hc : chkB c = true) {k : Nat} (hk : (planV c).length = k) (vn vt vb : Value) (f : Nat) (w : World) (hB : Books w w.heap.size vn vt vb c) : Calls Tryz.prog 22 #[.agg #[vn, vt, vb, .int .u64 (c.fe : Nat)], .int .u64 (f : Nat)] w fun e w' => ∃ (a : Option Addr) (cp : Nat), e = .returned (.tuple #[.slice a k cp, .int .i64 0]) ∧ Own w' w.heap.size 55 (.slice a k cp) ((planV c).map (stp f)) ∧ Below w.heap.size w w' := by
  refine (plan_any c vn vt vb f w hB).mono ?_
  rintro e w' ⟨v, he, ho, hb⟩
  obtain ⟨a, cp, rfl⟩ := ho.slice
  rw [List.length_map, hk] at he ho
  rw [hc] at he
  exact ⟨a, cp, he, ho, hb⟩
theorem quiet_at {c : Bk} (hc : chkB c = true) (hk : (planV c).length = 0) (vn vt vb : Value) (w : World) (hB : Books w w.heap.size vn vt vb c) : Calls Tryz.prog 24 #[.agg #[vn, vt, vb, .int .u64 (c.fe : Nat)]] w fun e w' => e = .returned (.tuple #[.bool true, .int .i64 0]) ∧ Below w.heap.size w w' := by
  have h := quiet_any c vn vt vb w hB
  rw [quiet_iff hc, decide_eq_true hk, hc] at h
  exact h
theorem check_at {c : Bk} (hc : chkB c = true) (vn vt vb : Value) (w : World) (hB : Books w w.heap.size vn vt vb c) : Calls Tryz.prog 28 #[.agg #[vn, vt, vb, .int .u64 (c.fe : Nat)]] w fun e w' => e = .returned (.int .i64 0) ∧ Below w.heap.size w w' := by
  have h := check_any c vn vt vb w hB
  rw [hc] at h
  exact h
end Bo
end Go.Proofs.YthbmnkeigmbbdaaGreat

/- WHAT TopQuiet's BOOKS COME TO, as plain data. -/
namespace Go.Proofs.YthbmnkeigmbbdaaGreat
open Go.RowKit Go.Lib
namespace Bo
open Rw
set_option linter.unusedVariables false
/-- Who waits in a quiet book can be nowhere. -/
theorem quiet_free {c : Bk} (hc : chkB c = true) (h0 : (planV c).length = 0) {t : Hd.Td} (ht : t ∈ wtV c) : frV c t.n = [] := by
  have h := quiet_iff hc
  rw [decide_eq_true h0] at h
  unfold quiV at h
  rw [if_pos hc, Bool.not_eq_true', List.any_eq_false] at h
  have h1 := h t ht
  by_cases hf : frV c t.n = []
  · exact hf
  · exact absurd (decide_eq_true (bst_ne (rb_of_chk hc) hf)) h1
/-- Where some one that waits can be somewhere, the plan has a step. -/
theorem plan_some {c : Bk} (hc : chkB c = true) {t : Hd.Td} (ht : t ∈ wtV c) (hf : frV c t.n ≠ []) : (planV c).length ≠ 0 := fun h => hf (quiet_free hc h ht)
/-- Who is taken from a node can be there again. -/
theorem free_again {b : Bk} (h : RB b) {k : ByteArray} (hr : (frB b k).2 = 0) : (frB b k).1.bs.length + 1 = b.bs.length ∧ (planV (frB b k).1).length ≠ 0 := by
  have hcr := h.frB k
  by_cases h1 : hsT b.ts k = true
  · by_cases h2 : hsB b.bs k = true
    · have he : (frB b k).1 = ⟨b.ns, b.ts, b.bs.eraseIdx (lbB b.bs k), b.fe⟩ := by unfold frB; rw [if_pos h1, if_pos h2]
      rw [he] at hcr ⊢
      clear hr he
      obtain ⟨hl, hg⟩ := has_get h.rb h2
      rw [List.length_map] at hl
      simp only [List.getElem_map] at hg
      have hi : lbK (b.bs.map (·.k)) k = lbB b.bs k := rfl
      rw [hi] at hl
      simp only [hi] at hg
      have hen : (b.bs.eraseIdx (lbB b.bs k)).length + 1 = b.bs.length := by rw [List.length_eraseIdx_of_lt hl]; omega
      refine ⟨hen, ?_⟩
      have hx := er_has (f := fun o : Rg.Pr => o.k) h.rb h2
      have hp : b.bs.Perm (b.bs[lbB b.bs k] :: b.bs.eraseIdx (lbB b.bs k)) := by
        rw [List.eraseIdx_eq_take_drop_succ]
        have h3 := List.perm_middle (a := b.bs[lbB b.bs k]) (l₁ := b.bs.take (lbB b.bs k)) (l₂ := b.bs.drop (lbB b.bs k + 1))
        rw [← List.drop_eq_getElem_cons hl, List.take_append_drop] at h3
        exact h3
      have ho : b.bs[lbB b.bs k] ∈ b.bs := List.getElem_mem hl
      generalize b.bs[lbB b.bs k] = o at *
      subst hg
      obtain ⟨o1, o2, o3⟩ := h.on o ho
      have hnk : hasK ((b.bs.eraseIdx (lbB b.bs o.k)).map (·.k)) o.k = false := by
        cases hh : hasK ((b.bs.eraseIdx (lbB b.bs o.k)).map (·.k)) o.k
        · rfl
        · exact absurd rfl ((hx o.k).1 hh).2
      have hrm := h.ro o.v o2
      have hbe := (hp.pairwise_iff (R := fun o p => o.v = p.v → beB (tOf b.ts o.k) (tOf b.ts p.k) = true) (fun {o p} hb hv => by rw [be_sym]; exact hb hv.symm)).1 h.be
      obtain ⟨hb1, -⟩ := List.pairwise_cons.1 hbe
      have hth := thr_perm b.ts hp o.v
      simp only [us0, us1, us2] at hrm
      rw [sumI_perm _ hth, sumI_perm _ hth, sumI_perm _ hth, thr_cons, if_pos rfl] at hrm
      simp only [sumI] at hrm
      obtain ⟨t, htm, htn⟩ := has_mem (f := fun t : Hd.Td => t.n) o1
      have htn : t.n = o.k := htn
      have htO : tOf b.ts o.k = t := by rw [← htn]; exact tOf_at h.rt htm
      generalize hE : b.bs.eraseIdx (lbB b.bs o.k) = E at *
      have hcan : canE ⟨b.ns, b.ts, E, b.fe⟩ o.k o.v = 0 := by
        refine can0.2 ⟨⟨o1, o2⟩, hnk, o3, ?_, ?_⟩
        · refine room_made (h.kn _ (nOf_mem h.rn o2).1) (by rw [htO]; exact h.kt _ htm) (hcr.lists.used _).1 (hcr.lists.used _).2.1 (hcr.lists.used _).2.2 ?_
          show sumI (·.z0) (thr b.ts E o.v) + (tOf b.ts o.k).z0 ≤ (nOf b.ns o.v).z0 ∧ sumI (·.z1) (thr b.ts E o.v) + (tOf b.ts o.k).z1 ≤ (nOf b.ns o.v).z1 ∧ sumI (·.z2) (thr b.ts E o.v) + (tOf b.ts o.k).z2 ≤ (nOf b.ns o.v).z2
          omega
        · show (thr b.ts E o.v).any _ = false
          rw [List.any_eq_false]
          intro u hu
          obtain ⟨p, hp1, rfl⟩ := List.mem_map.1 hu
          obtain ⟨hp2, hp3⟩ := List.mem_filter.1 hp1
          have hp3 : p.v = o.v := by simpa using hp3
          rw [hb1 p hp2 hp3.symm]
          decide
      have hck := chk_of_rb hcr
      refine plan_some hck (t := t) ((wt_mem hcr).2 ⟨htm, by rw [htn]; exact hnk⟩) ?_
      have hfe : frE ⟨b.ns, b.ts, E, b.fe⟩ t.n = 0 := by
        unfold frE
        rw [if_pos hck, htn, if_pos o1, if_neg (by rw [hnk]; decide)]
      unfold frV
      rw [if_pos hfe, htn]
      obtain ⟨n, hnm, hnn⟩ := has_mem (f := fun n : Hd.Nd => n.n) o2
      have hnn : n.n = o.v := hnn
      have hin : o.v ∈ frL ⟨b.ns, b.ts, E, b.fe⟩ o.k (b.ns.map (·.n)) := List.mem_filter.2 ⟨List.mem_map.2 ⟨n, hnm, hnn⟩, by simpa using hcan⟩
      intro e
      have e : frL ⟨b.ns, b.ts, E, b.fe⟩ o.k (b.ns.map (·.n)) = [] := e
      rw [e] at hin
      cases hin
    · unfold frB at hr
      rw [if_pos h1, if_neg h2] at hr
      cases hr
  · unfold frB at hr
    rw [if_neg h1] at hr
    cases hr
/-- What the loop that does all plans leaves: the book that was given it, or one in rows made since. -/
def Dn (w wx : World) (b : Bk) (vn vt vb : Value) (c : Bk) (un ut ub : Value) : Prop := (c = b ∧ un = vn ∧ ut = vt ∧ ub = vb) ∨ ∃ z : World, w.heap.size + 1 < z.heap.size ∧ Kept z wx c un ut ub
theorem Dn.books {w wx : World} {b c : Bk} {vn vt vb un ut ub : Value} (h : Dn w wx b vn vt vb c un ut ub) (hB : Books w w.heap.size vn vt vb b) (hb : Below w.heap.size w wx) : Books wx wx.heap.size un ut ub c := by
  rcases h with ⟨rfl, rfl, rfl, rfl⟩ | ⟨z, -, h⟩
  · exact hB.on hb
  · exact h.books
theorem Dn.keep {w wx wy : World} {b c : Bk} {vn vt vb un ut ub : Value} (h : Dn w wx b vn vt vb c un ut ub) (hb : Below wx.heap.size wx wy) : Dn w wy b vn vt vb c un ut ub := h.elim .inl (fun ⟨z, h1, h2⟩ => .inr ⟨z, h1, h2.keep hb⟩)
theorem Dn.far {w wx : World} {b c : Bk} {vn vt vb un ut ub : Value} (h : Dn w wx b vn vt vb c un ut ub) {P : Nat} (hp : P ≤ w.heap.size + 1) (o : Nat) (vs : List Value) : Dn w (wx.setCells P o vs) b vn vt vb c un ut ub := h.elim .inl (fun ⟨z, h1, h2⟩ => .inr ⟨z, h1, h2.far (by omega) o vs⟩)
def oFre (k : ByteArray) : Hd.Cd := lvO Hd.nd0 Hd.td0 6 k ⟨#[]⟩ 0
theorem do_fre {b : Bk} (h : chkB b = true) (k : ByteArray) : doF b (oFre k) = ((frB b k).1, (frB b k).2, ByteArray.empty) := by
  unfold doF
  rw [if_pos h]
  unfold doV
  rw [if_pos (show Hd.coB (oFre k) = true from rfl), if_neg (show ¬ (oFre k).k = 7 from by show ¬ (6 : Nat) = 7; decide)]
  rfl
theorem Dn.at_set {w0 w wx : World} {b c : Bk} {vn vt vb un ut ub : Value} (hB : ∀ z, Below w0.heap.size w0 z → Books z z.heap.size vn vt vb b) (hw : w0.heap.size ≤ w.heap.size) (h : Dn w wx b vn vt vb c un ut ub) (vs : List Value) (hy : Below w0.heap.size w0 (wx.setCells w0.heap.size 0 vs)) : Books (wx.setCells w0.heap.size 0 vs) (wx.setCells w0.heap.size 0 vs).heap.size un ut ub c := by
  rcases h with ⟨rfl, rfl, rfl, rfl⟩ | ⟨z, hz, h⟩
  · exact hB _ hy
  · exact (h.far (by omega) 0 vs).books
theorem wait_at {c : Bk} (hc : chkB c = true) (vn vt vb : Value) (w : World) (hB : Books w w.heap.size vn vt vb c) : Calls Tryz.prog 12 #[.agg #[vn, vt, vb, .int .u64 (c.fe : Nat)]] w fun e w' => ∃ (a : Option Addr) (cp : Nat) (m : List TdM), e = .returned (.tuple #[.slice a m.length cp, .int .i64 0]) ∧ Own w' w.heap.size 42 (.slice a m.length cp) m ∧ m.map (·.td) = wtV c ∧ Below w.heap.size w w' := by
  refine (waitq_any c vn vt vb w hB).mono ?_
  rintro e w' ⟨v, m, he, ho, hm, -, hb⟩
  obtain ⟨a, cp, rfl⟩ := ho.slice
  rw [hc, if_pos rfl] at hm
  rw [hc] at he
  exact ⟨a, cp, m, he, ho, hm, hb⟩
theorem free_at {c : Bk} (hc : chkB c = true) (h0 : (planV c).length = 0) {t : Hd.Td} (ht : t ∈ wtV c) (vn vt vb : Value) (w : World) (hB : Books w w.heap.size vn vt vb c) : Calls Tryz.prog 16 #[.agg #[vn, vt, vb, .int .u64 (c.fe : Nat)], .string t.n] w fun e w' => ∃ (a : Option Addr) (cp q : Nat), e = .returned (.tuple #[.slice a 0 cp, .int .i64 (q : Nat)]) ∧ Below w.heap.size w w' := by
  refine (free_any c vn vt vb t.n w hB).mono ?_
  rintro e w' ⟨v, he, ho, hb⟩
  obtain ⟨a, cp, rfl⟩ := ho.slice
  rw [quiet_free hc h0 ht] at he
  exact ⟨a, cp, _, he, hb⟩
end Bo
end Go.Proofs.YthbmnkeigmbbdaaGreat

/- gaffertop.TopQuiet$1: ALL PLANS ARE DONE. -/
namespace Go.Proofs.YthbmnkeigmbbdaaGreat
open Go.RowKit Go.Lib
namespace Bo
open Rw
set_option linter.unusedVariables false
set_option maxRecDepth 100000 in
set_option maxHeartbeats 4000000 in
theorem done_any (b : Bk) (vn vt vb : Value) (w : World) (hB : Books w w.heap.size vn vt vb b) (hc : chkB b = true) :
    Calls Tryz.prog 33 #[.agg #[vn, vt, vb, .int .u64 (b.fe : Nat)]] w fun e w' => ∃ (c : Bk) (un ut ub : Value), e = .returned (.tuple #[.agg #[un, ut, ub, .int .u64 (c.fe : Nat)], .bool true]) ∧ Dn w w' b vn vt vb c un ut ub ∧ (chkB c = true ∧ (planV c).length = 0 ∧ b.bs.length ≤ c.bs.length ∧ ((planV b).length ≠ 0 → b.bs.length + 1 ≤ c.bs.length)) ∧ Below w.heap.size w w' := by
  obtain ⟨⟨a0, d0, rfl⟩, ⟨g0, h0, rfl⟩, ⟨p0, q0, rfl⟩⟩ := And.intro hB.hn.slice (And.intro hB.ht.slice hB.hb.slice)
  obtain ⟨W0, hW0⟩ : ∃ W0, W0 = (w.alloc (.cells #[.slice a0 b.ns.length d0, .slice g0 b.ts.length h0, .slice p0 b.bs.length q0, .int .u64 (b.fe : Nat)] 27)).alloc (.cells #[.slice none 0 0, .slice none 0 0, .slice none 0 0, .int .u64 0] 27) := ⟨_, rfl⟩
  have HF0 : Hid (Fr2 w W0 [.slice a0 b.ns.length d0, .slice g0 b.ts.length h0, .slice p0 b.bs.length q0, .int .u64 (b.fe : Nat)] [.slice none 0 0, .slice none 0 0, .slice none 0 0, .int .u64 0]) := by rw [hW0]; exact Fr2.made w _ _ _ _
  have HBB := Lib.hid hB
  have HC0 : Hid (chkB b = true) := hc
  have HW := Lib.hid hW0
  clear hW0 hB hc
  go_enter Tryz.func33, Tryz.ntmps33
  go_upto_region 1 with fail
  rw [← HW.out]
  go_wp2
  go_loopg [4] 33 (fun gg i wx => ∃ (k : Nat) (c : Bk) (a1 g1 p1 : Option Addr) (d1 h1 q1 : Nat), k + gg = 33 ∧ i = .int .i64 k ∧ Aside (chkB c = true ∧ b.bs.length + k ≤ c.bs.length ∧ (k = 0 → c = b)) ∧ Aside (Fr2 w wx [.slice a1 c.ns.length d1, .slice g1 c.ts.length h1, .slice p1 c.bs.length q1, .int .u64 (c.fe : Nat)] [.slice none 0 0, .slice none 0 0, .slice none 0 0, .int .u64 0]) ∧ Aside (Dn w wx b (.slice a0 b.ns.length d0) (.slice g0 b.ts.length h0) (.slice p0 b.bs.length q0) c (.slice a1 c.ns.length d1) (.slice g1 c.ts.length h1) (.slice p1 c.bs.length q1)))
  case atStart => exact ⟨0, b, a0, g0, p0, d0, h0, q0, by omega, rfl, ⟨HC0.out, Nat.le_refl _, fun _ => rfl⟩, HF0.out, .inl ⟨rfl, rfl, rfl, rfl⟩⟩
  case round =>
    obtain ⟨k, c, a1, g1, p1, d1, h1, q1, hkg, rfl, HA1, HA2, HA3⟩ := hrel
    have HC : Hid (chkB c = true) := HA1.out.1
    have HC1 : Hid (b.bs.length + k ≤ c.bs.length) := HA1.out.2.1
    have HCB : Hid (k = 0 → c = b) := HA1.out.2.2
    have HX := Lib.hid HA2.out
    have HK := Lib.hid HA3.out
    have HC32 : Hid (c.bs.length ≤ 32) := (rb_of_chk HC.out).lists.lb
    clear HA1 HA2 HA3 HF0 HW
    cases gk with
    | zero => exfalso; have h1 := HC1.out; have h2 := HC32.out; omega
    | succ gg =>
      have t0 : (k : Int) ≤ 32 := by omega
      have t0b : decide ((k : Int) ≤ 32) = true := decide_eq_true t0
      have t3 : IntKind.i64.wrap ((k : Int) + 1) = (k : Int) + 1 := by rw [IntKind.wrap_i64]; omega
      have HKG := Lib.hid hkg
      clear hkg
      by_cases hz : (planV c).length = 0
      · have HPL : Hid (∀ z, Books z z.heap.size (.slice a1 c.ns.length d1) (.slice g1 c.ts.length h1) (.slice p1 c.bs.length q1) c → Calls Tryz.prog 22 #[.agg #[.slice a1 c.ns.length d1, .slice g1 c.ts.length h1, .slice p1 c.bs.length q1, .int .u64 (c.fe : Nat)], .int .u64 (c.fe : Nat)] z fun e w' => ∃ (a : Option Addr) (cp : Nat), e = .returned (.tuple #[.slice a 0 cp, .int .i64 0]) ∧ Own w' z.heap.size 55 (.slice a 0 cp) ((planV c).map (stp c.fe)) ∧ Below z.heap.size z w') := fun z hz' => plan_at HC.out hz _ _ _ _ z hz'
        have HFI : Hid (chkB c = true ∧ (planV c).length = 0 ∧ b.bs.length ≤ c.bs.length ∧ ((planV b).length ≠ 0 → b.bs.length + 1 ≤ c.bs.length)) := ⟨HC.out, hz, by have := HC1.out; omega, fun h => by
          by_cases hk : k = 0
          · have e := HCB.out hk; rw [e] at hz; exact absurd hz h
          · have := HC1.out; omega⟩
        clear hz
        have y0 : wr.cell? ⟨w.heap.size, 0, none⟩ = some (.slice a1 c.ns.length d1) := HX.out.p.cell 0
        have y1 : wr.cell? ⟨w.heap.size, 1, none⟩ = some (.slice g1 c.ts.length h1) := HX.out.p.cell 1
        have y2 : wr.cell? ⟨w.heap.size, 2, none⟩ = some (.slice p1 c.bs.length q1) := HX.out.p.cell 2
        have y3 : wr.cell? ⟨w.heap.size, 3, none⟩ = some (.int .u64 (c.fe : Nat)) := HX.out.p.cell 3
        go_wp2_with fail
        refine (HPL.out wr (HK.out.books HBB.out HX.out.b)).mono ?_
        rintro e w3 ⟨ap, cp, rfl, ho, hb⟩
        have HX3 := Lib.hid (HX.out.below hb)
        have HK3 := Lib.hid (HK.out.keep hb)
        have HS3 : Hid (w.heap.size < wr.heap.size ∧ wr.heap.size ≤ w3.heap.size) := ⟨HX.out.p.lt, hb.size⟩
        have HO3 := Lib.hid ho
        clear hb ho y0 y1 y2 y3 HX HK HPL
        clear HO3
        go_upto_region 8 with fail
        refine wp_region_list ?_
        refine wpList_load_mid rfl 27 (.tmp 1) rfl (w.heap.size) (0) rfl [.slice a1 c.ns.length d1, .slice g1 c.ts.length h1, .slice p1 c.bs.length q1, .int .u64 (c.fe : Nat)] _ (HX3.out.p.range 0) Tryz.underlying27 rfl rfl ?_
        have hthR := HX3.out.r.there 4 rfl
        refine wpList_store_mid rfl 27 (.tmp 2) (.tmp 26) rfl (w.heap.size + 1) 0 #[.slice a1 c.ns.length d1, .slice g1 c.ts.length h1, .slice p1 c.bs.length q1, .int .u64 (c.fe : Nat)] rfl rfl hthR rfl (all_oneCell_toArray (List.all_eq_true.1 (show List.all ([.slice a1 c.ns.length d1, .slice g1 c.ts.length h1, .slice p1 c.bs.length q1, .int .u64 (c.fe : Nat)] : List Value) (fun v => v.oneCell') = true from rfl))) ?_
        rw [show (#[.slice a1 c.ns.length d1, .slice g1 c.ts.length h1, .slice p1 c.bs.length q1, .int .u64 (c.fe : Nat)] : Array Value).toList = [.slice a1 c.ns.length d1, .slice g1 c.ts.length h1, .slice p1 c.bs.length q1, .int .u64 (c.fe : Nat)] from rfl]
        have HR1 : Hid (Fr2 w (w3.setCells (w.heap.size + 1) 0 [.slice a1 c.ns.length d1, .slice g1 c.ts.length h1, .slice p1 c.bs.length q1, .int .u64 (c.fe : Nat)]) [.slice a1 c.ns.length d1, .slice g1 c.ts.length h1, .slice p1 c.bs.length q1, .int .u64 (c.fe : Nat)] [.slice a1 c.ns.length d1, .slice g1 c.ts.length h1, .slice p1 c.bs.length q1, .int .u64 (c.fe : Nat)]) := HX3.out.setR [.slice a1 c.ns.length d1, .slice g1 c.ts.length h1, .slice p1 c.bs.length q1, .int .u64 (c.fe : Nat)] rfl
        have HK4 := Lib.hid (HK3.out.far (P := w.heap.size + 1) (Nat.le_refl _) 0 [.slice a1 c.ns.length d1, .slice g1 c.ts.length h1, .slice p1 c.bs.length q1, .int .u64 (c.fe : Nat)])
        clear hthR HX3 HK3
        generalize w3.setCells (w.heap.size + 1) 0 [.slice a1 c.ns.length d1, .slice g1 c.ts.length h1, .slice p1 c.bs.length q1, .int .u64 (c.fe : Nat)] = z1 at *
        refine wpList_plain rfl fun K hK => ?_
        go_simp
        refine hK _ _ ?_
        clear hK K
        refine wpList_nil ?_
        go_wp2
        exact Hd.bodyPost_bx2 rfl (w.heap.size + 1) [.slice a1 c.ns.length d1, .slice g1 c.ts.length h1, .slice p1 c.bs.length q1, .int .u64 (c.fe : Nat)] _ rfl rfl HR1.out.r Tryz.underlying27 rfl rfl ⟨c, _, _, _, rfl, HK4.out, HFI.out, HR1.out.b⟩
      · have HL0 : Hid (0 < (planV c).length) := Nat.pos_of_ne_zero hz
        have HL8 : Hid ((planV c).length ≤ 8) := plan_len8 c
        have HRU := Lib.hid (plan_runs HC.out)
        have HFP : Hid (∀ p ∈ planV c, FitB p) := runs_fitB HRU.out ((HK.out.books HBB.out HX.out.b).fine HC.out).fn ((HK.out.books HBB.out HX.out.b).fine HC.out).ft
        generalize hL : (planV c).length = L at *
        have HL := Lib.hid hL
        have HPL : Hid (∀ z, Books z z.heap.size (.slice a1 c.ns.length d1) (.slice g1 c.ts.length h1) (.slice p1 c.bs.length q1) c → Calls Tryz.prog 22 #[.agg #[.slice a1 c.ns.length d1, .slice g1 c.ts.length h1, .slice p1 c.bs.length q1, .int .u64 (c.fe : Nat)], .int .u64 (c.fe : Nat)] z fun e w' => ∃ (a : Option Addr) (cp : Nat), e = .returned (.tuple #[.slice a L cp, .int .i64 0]) ∧ Own w' z.heap.size 55 (.slice a L cp) ((planV c).map (stp c.fe)) ∧ Below z.heap.size z w') := fun z hz' => plan_at HC.out HL.out _ _ _ _ z hz'
        clear hL
        have t1 : ((L : Int) == 0) = false := by rw [beq_eq_false_iff_ne]; omega
        have t1b : ¬ (L : Int) = 0 := by omega
        clear hz
        have y0 : wr.cell? ⟨w.heap.size, 0, none⟩ = some (.slice a1 c.ns.length d1) := HX.out.p.cell 0
        have y1 : wr.cell? ⟨w.heap.size, 1, none⟩ = some (.slice g1 c.ts.length h1) := HX.out.p.cell 1
        have y2 : wr.cell? ⟨w.heap.size, 2, none⟩ = some (.slice p1 c.bs.length q1) := HX.out.p.cell 2
        have y3 : wr.cell? ⟨w.heap.size, 3, none⟩ = some (.int .u64 (c.fe : Nat)) := HX.out.p.cell 3
        go_wp2_with fail
        refine (HPL.out wr (HK.out.books HBB.out HX.out.b)).mono ?_
        rintro e w3 ⟨ap, cp, rfl, ho, hb⟩
        have HX3 := Lib.hid (HX.out.below hb)
        have HK3 := Lib.hid (HK.out.keep hb)
        have HS3 : Hid (w.heap.size < wr.heap.size ∧ wr.heap.size ≤ w3.heap.size) := ⟨HX.out.p.lt, hb.size⟩
        have HO3 := Lib.hid ho
        clear hb ho y0 y1 y2 y3 HX HK HPL
        go_wp2
        clear t0 t0b t1 t1b
        go_loopg [29] L (fun gj i wx => ∃ (j : Nat) (c2 : Bk) (a2 g2 p2 : Option Addr) (d2 h2 q2 : Nat), j + gj = L ∧ i = .int .i64 j ∧ Aside (Runs c2 ((planV c).drop j) ∧ chkB c2 = true ∧ c2.fe = c.fe ∧ c2.bs.length = c.bs.length + j) ∧ Aside (Fr2 w wx [.slice a2 c2.ns.length d2, .slice g2 c2.ts.length h2, .slice p2 c2.bs.length q2, .int .u64 (c2.fe : Nat)] [.slice none 0 0, .slice none 0 0, .slice none 0 0, .int .u64 0]) ∧ Aside (w3.grownBy wx (some w.heap.size)) ∧ Aside (Dn w wx b (.slice a0 b.ns.length d0) (.slice g0 b.ts.length h0) (.slice p0 b.bs.length q0) c2 (.slice a2 c2.ns.length d2) (.slice g2 c2.ts.length h2) (.slice p2 c2.bs.length q2)))
        case atStart => exact ⟨0, c, a1, g1, p1, d1, h1, q1, by omega, rfl, ⟨HRU.out, HC.out, rfl, rfl⟩, HX3.out, grown_of _ (Below.refl _ _), HK3.out⟩
        case round =>
          obtain ⟨j, c2, a2, g2, p2, d2, h2, q2, hjg, rfl, HA1, HA2, HA3, HA4⟩ := hrel
          obtain ⟨wj, rfl⟩ : ∃ q, q = wr := ⟨wr, rfl⟩
          have HI := Lib.hid HA1.out
          have HXJ := Lib.hid HA2.out
          have HGJ : Hid (w3.grownBy wj (some w.heap.size)) := HA3.out
          have HKJ := Lib.hid HA4.out
          clear HA1 HA2 HA3 HA4
          cases gk with
          | zero =>
            obtain rfl : j = L := by omega
            have HN2 : Hid (b.bs.length + (k + 1) ≤ c2.bs.length) := by show _ ≤ _; have h1 := HI.out.2.2.2; have h2 := HC1.out; have h3 := HL0.out; omega
            have HC2 : Hid (chkB c2 = true) := HI.out.2.1
            clear hjg HI HRU HGJ HO3 HX3 HK3
            go_wp2
            go_roundg gg
            case measure => omega
            case rel => exact ⟨k + 1, c2, a2, g2, p2, d2, h2, q2, by have := HKG.out; omega, by simp, ⟨HC2.out, HN2.out, fun h => absurd h (Nat.succ_ne_zero k)⟩, HXJ.out, HKJ.out⟩
          | succ gj =>
            have hlj : j < (planV c).length := by rw [HL.out]; omega
            have u2 : (j : Int) < (L : Int) := by omega
            have u3 : IntKind.i64.wrap ((j : Int) + 1) = (j : Int) + 1 := by rw [IntKind.wrap_i64]; have := HL8.out; omega
            have u4 : (0 : Int) ≤ (j : Int) := by omega
            obtain ⟨g, cap, hv, hbg, hgl, hat, -⟩ := HO3.out.form (by rw [List.length_map]; omega)
            simp only [Value.slice.injEq] at hv
            obtain ⟨rfl, -, rfl⟩ := hv
            have ha : At w3 g (j * 19) (stp c.fe (planV c)[j]) := by have := hat j (by rw [List.length_map]; exact hlj); rw [List.getElem_map] at this; exact this
            have HDR : Hid ((planV c).drop j = (planV c)[j] :: (planV c).drop (j + 1)) := List.drop_eq_getElem_cons hlj
            have HFB := Lib.hid (HFP.out _ (List.getElem_mem hlj))
            generalize (planV c)[j] = y at *
            have hne : g ≠ w.heap.size := by have := HS3.out; omega
            have hrow : wj.rangeAt g (j * 19) [.int .u8 5, .string ⟨#[]⟩, .int .i64 0, .int .i64 0, .int .i64 0, .slice none 0 0, .slice none 0 0, .string ⟨#[]⟩, .int .i64 0, .int .i64 0, .int .i64 0, .slice none 0 0, .slice none 0 0, .string ⟨#[]⟩, .string ⟨#[]⟩, .int .i64 0, .string y.k, .string y.v, .int .u64 (c.fe : Nat)] := fun i u hj => HGJ.out.cell (ha i u hj) (fun e => hne (Option.some.inj e))
            have HJG := Lib.hid hjg
            obtain ⟨h0, h1, h2, h3⟩ : canE c2 y.k y.v = 0 ∧ chkB (biB c2 y.k y.v c2.fe).1 = true ∧ (biB c2 y.k y.v c2.fe).1.fe = c2.fe ∧ Runs (biB c2 y.k y.v c2.fe).1 ((planV c).drop (j + 1)) := by have h := HI.out.1; rw [HDR.out] at h; exact h
            have hd : doF c2 (oBnd y.k y.v c.fe) = ((biB c2 y.k y.v c2.fe).1, 0, ByteArray.empty) := by rw [do_bnd HI.out.2.1, bi_above (Nat.le_of_eq HI.out.2.2.1) h0]
            have HIN : Hid (Runs (biB c2 y.k y.v c2.fe).1 ((planV c).drop (j + 1)) ∧ chkB (biB c2 y.k y.v c2.fe).1 = true ∧ (biB c2 y.k y.v c2.fe).1.fe = c.fe ∧ (biB c2 y.k y.v c2.fe).1.bs.length = c.bs.length + (j + 1)) := ⟨h3, h1, h2.trans HI.out.2.2.1, by rw [(bi_more h0).1, HI.out.2.2.2]; omega⟩
            generalize (biB c2 y.k y.v c2.fe).1 = c3 at *
            clear ha hat hgl hbg hne hjg hlj h0 h1 h2 h3
            go_upto_region 11 with fail
            refine wp_region_list ?_
            refine wpList_plain rfl fun K hK => ?_
            go_simp
            refine hK _ _ ?_
            clear hK K
            refine wpList_load_mid rfl 55 (.tmp 31) rfl (g) (j * 19) rfl [.int .u8 5, .string ⟨#[]⟩, .int .i64 0, .int .i64 0, .int .i64 0, .slice none 0 0, .slice none 0 0, .string ⟨#[]⟩, .int .i64 0, .int .i64 0, .int .i64 0, .slice none 0 0, .slice none 0 0, .string ⟨#[]⟩, .string ⟨#[]⟩, .int .i64 0, .string y.k, .string y.v, .int .u64 (c.fe : Nat)] _ (hrow) Tryz.underlying55 rfl rfl ?_
            refine wpList_plain rfl fun K hK => ?_
            go_simp
            refine hK _ _ ?_
            clear hK K
            obtain ⟨th1, hbz, hx1⟩ := one_made wj [.int .u8 0, .string ⟨#[]⟩, .int .i64 0, .int .i64 0, .int .i64 0, .slice none 0 0, .slice none 0 0, .string ⟨#[]⟩, .int .i64 0, .int .i64 0, .int .i64 0, .slice none 0 0, .slice none 0 0, .string ⟨#[]⟩, .string ⟨#[]⟩, .int .i64 0, .string ⟨#[]⟩, .string ⟨#[]⟩, .int .u64 0] [.int .u8 5, .string ⟨#[]⟩, .int .i64 0, .int .i64 0, .int .i64 0, .slice none 0 0, .slice none 0 0, .string ⟨#[]⟩, .int .i64 0, .int .i64 0, .int .i64 0, .slice none 0 0, .slice none 0 0, .string ⟨#[]⟩, .string ⟨#[]⟩, .int .i64 0, .string y.k, .string y.v, .int .u64 (c.fe : Nat)] 55 rfl
            refine wpList_store_mid rfl 55 (.tmp 8) (.tmp 32) rfl (wj.heap.size) 0 #[.int .u8 5, .string ⟨#[]⟩, .int .i64 0, .int .i64 0, .int .i64 0, .slice none 0 0, .slice none 0 0, .string ⟨#[]⟩, .int .i64 0, .int .i64 0, .int .i64 0, .slice none 0 0, .slice none 0 0, .string ⟨#[]⟩, .string ⟨#[]⟩, .int .i64 0, .string y.k, .string y.v, .int .u64 (c.fe : Nat)] rfl rfl th1 rfl (all_oneCell_toArray (List.all_eq_true.1 (show List.all ([.int .u8 5, .string ⟨#[]⟩, .int .i64 0, .int .i64 0, .int .i64 0, .slice none 0 0, .slice none 0 0, .string ⟨#[]⟩, .int .i64 0, .int .i64 0, .int .i64 0, .slice none 0 0, .slice none 0 0, .string ⟨#[]⟩, .string ⟨#[]⟩, .int .i64 0, .string y.k, .string y.v, .int .u64 (c.fe : Nat)] : List Value) (fun v => v.oneCell') = true from rfl))) ?_
            rw [show (#[.int .u8 5, .string ⟨#[]⟩, .int .i64 0, .int .i64 0, .int .i64 0, .slice none 0 0, .slice none 0 0, .string ⟨#[]⟩, .int .i64 0, .int .i64 0, .int .i64 0, .slice none 0 0, .slice none 0 0, .string ⟨#[]⟩, .string ⟨#[]⟩, .int .i64 0, .string y.k, .string y.v, .int .u64 (c.fe : Nat)] : Array Value).toList = [.int .u8 5, .string ⟨#[]⟩, .int .i64 0, .int .i64 0, .int .i64 0, .slice none 0 0, .slice none 0 0, .string ⟨#[]⟩, .int .i64 0, .int .i64 0, .int .i64 0, .slice none 0 0, .slice none 0 0, .string ⟨#[]⟩, .string ⟨#[]⟩, .int .i64 0, .string y.k, .string y.v, .int .u64 (c.fe : Nat)] from rfl]
            clear th1 hrow
            generalize (wj.alloc (.cells #[.int .u8 0, .string ⟨#[]⟩, .int .i64 0, .int .i64 0, .int .i64 0, .slice none 0 0, .slice none 0 0, .string ⟨#[]⟩, .int .i64 0, .int .i64 0, .int .i64 0, .slice none 0 0, .slice none 0 0, .string ⟨#[]⟩, .string ⟨#[]⟩, .int .i64 0, .string ⟨#[]⟩, .string ⟨#[]⟩, .int .u64 0] 55)).setCells wj.heap.size 0 [.int .u8 5, .string ⟨#[]⟩, .int .i64 0, .int .i64 0, .int .i64 0, .slice none 0 0, .slice none 0 0, .string ⟨#[]⟩, .int .i64 0, .int .i64 0, .int .i64 0, .slice none 0 0, .slice none 0 0, .string ⟨#[]⟩, .string ⟨#[]⟩, .int .i64 0, .string y.k, .string y.v, .int .u64 (c.fe : Nat)] = z0 at *
            have HX0 := Lib.hid (HXJ.out.below hbz)
            have HQ := Lib.hid hx1
            have HG0 : Hid (w3.grownBy z0 (some w.heap.size)) := grown_tr HGJ.out (grown_of _ hbz)
            have HK0 := Lib.hid (HKJ.out.keep hbz)
            clear hbz hx1 HXJ HGJ HKJ
            refine wpList_nil ?_
            have HDO : Hid (∀ z, Books z z.heap.size (.slice a2 c2.ns.length d2) (.slice g2 c2.ts.length h2) (.slice p2 c2.bs.length q2) c2 → Calls Tryz.prog 21 #[.agg #[.slice a2 c2.ns.length d2, .slice g2 c2.ts.length h2, .slice p2 c2.bs.length q2, .int .u64 (c2.fe : Nat)], .agg #[.int .u8 5, .string ⟨#[]⟩, .int .i64 0, .int .i64 0, .int .i64 0, .slice none 0 0, .slice none 0 0, .string ⟨#[]⟩, .int .i64 0, .int .i64 0, .int .i64 0, .slice none 0 0, .slice none 0 0, .string ⟨#[]⟩, .string ⟨#[]⟩, .int .i64 0, .string y.k, .string y.v, .int .u64 (c.fe : Nat)]] z fun e w' => ∃ vn' vt' vb', e = .returned (.tuple #[.agg #[vn', vt', vb', .int .u64 (c3.fe : Nat)], .agg #[.int .i64 0, .string ⟨#[]⟩]]) ∧ Kept z w' c3 vn' vt' vb' ∧ Below z.heap.size z w') := fun z hz => do_use c2 c3 0 ByteArray.empty _ _ _ (oBnd y.k y.v c.fe) none none none none 0 0 0 0 z hz (deepN0 z _ rfl rfl) fitN0 (deepT0 z _ rfl rfl) fitT0 HFB.out hd
            clear hd
            go_upto_region 12 with fail
            refine wp_region_list ?_
            refine wpList_load_mid rfl 27 (.tmp 1) rfl (w.heap.size) (0) rfl [.slice a2 c2.ns.length d2, .slice g2 c2.ts.length h2, .slice p2 c2.bs.length q2, .int .u64 (c2.fe : Nat)] _ (HX0.out.p.range 0) Tryz.underlying27 rfl rfl ?_
            refine wpList_load_mid rfl 55 (.tmp 8) rfl (wj.heap.size) (0) rfl [.int .u8 5, .string ⟨#[]⟩, .int .i64 0, .int .i64 0, .int .i64 0, .slice none 0 0, .slice none 0 0, .string ⟨#[]⟩, .int .i64 0, .int .i64 0, .int .i64 0, .slice none 0 0, .slice none 0 0, .string ⟨#[]⟩, .string ⟨#[]⟩, .int .i64 0, .string y.k, .string y.v, .int .u64 (c.fe : Nat)] _ (HQ.out.range 0) Tryz.underlying55 rfl rfl ?_
            refine wpList_plain rfl fun K hK => ?_
            go_wp2_with fail
            refine (HDO.out z0 (HK0.out.books HBB.out HX0.out.b)).mono ?_
            rintro e z1 ⟨v1, v2, v3, rfl, hkp, hb⟩
            obtain ⟨⟨a4, c4, rfl⟩, ⟨b4, d4, rfl⟩, ⟨e4, f4, rfl⟩⟩ := hkp.slices
            refine hK _ _ ?_
            clear hK K
            have HX1' := Lib.hid (HX0.out.below hb)
            have HG1 : Hid (w3.grownBy z1 (some w.heap.size)) := grown_tr HG0.out (grown_of _ hb)
            have HK1 := Lib.hid hkp
            have HZ0 : Hid (w.heap.size + 1 < z0.heap.size) := HX0.out.s
            clear hb hkp HX0 HG0 HK0 HQ HDO
            refine wpList_plain rfl fun K hK => ?_
            go_simp
            refine hK _ _ ?_
            clear hK K
            refine wpList_plain rfl fun K hK => ?_
            go_simp
            refine hK _ _ ?_
            clear hK K
            refine wpList_plain rfl fun K hK => ?_
            go_simp
            refine hK _ _ ?_
            clear hK K
            have hth := HX1'.out.p.there 4 rfl
            refine wpList_store_mid rfl 27 (.tmp 1) (.tmp 37) rfl (w.heap.size) 0 #[.slice a4 (c3).ns.length c4, .slice b4 (c3).ts.length d4, .slice e4 (c3).bs.length f4, .int .u64 ((c3).fe : Nat)] rfl rfl hth rfl (all_oneCell_toArray (List.all_eq_true.1 (show List.all ([.slice a4 (c3).ns.length c4, .slice b4 (c3).ts.length d4, .slice e4 (c3).bs.length f4, .int .u64 ((c3).fe : Nat)] : List Value) (fun v => v.oneCell') = true from rfl))) ?_
            rw [show (#[.slice a4 (c3).ns.length c4, .slice b4 (c3).ts.length d4, .slice e4 (c3).bs.length f4, .int .u64 ((c3).fe : Nat)] : Array Value).toList = [.slice a4 (c3).ns.length c4, .slice b4 (c3).ts.length d4, .slice e4 (c3).bs.length f4, .int .u64 ((c3).fe : Nat)] from rfl]
            clear hth
            have HX9 : Hid (Fr2 w (z1.setCells w.heap.size 0 [.slice a4 (c3).ns.length c4, .slice b4 (c3).ts.length d4, .slice e4 (c3).bs.length f4, .int .u64 ((c3).fe : Nat)]) [.slice a4 (c3).ns.length c4, .slice b4 (c3).ts.length d4, .slice e4 (c3).bs.length f4, .int .u64 ((c3).fe : Nat)] [.slice none 0 0, .slice none 0 0, .slice none 0 0, .int .u64 0]) := HX1'.out.setP [.slice a4 (c3).ns.length c4, .slice b4 (c3).ts.length d4, .slice e4 (c3).bs.length f4, .int .u64 ((c3).fe : Nat)] rfl
            have HG9 : Hid (w3.grownBy (z1.setCells w.heap.size 0 [.slice a4 (c3).ns.length c4, .slice b4 (c3).ts.length d4, .slice e4 (c3).bs.length f4, .int .u64 ((c3).fe : Nat)]) (some w.heap.size)) := grown_tr HG1.out (grown_setCells _ _ _ _)
            have HK9 : Hid (Dn w (z1.setCells w.heap.size 0 [.slice a4 (c3).ns.length c4, .slice b4 (c3).ts.length d4, .slice e4 (c3).bs.length f4, .int .u64 ((c3).fe : Nat)]) b (.slice a0 b.ns.length d0) (.slice g0 b.ts.length h0) (.slice p0 b.bs.length q0) c3 (.slice a4 c3.ns.length c4) (.slice b4 c3.ts.length d4) (.slice e4 c3.bs.length f4)) := .inr ⟨z0, HZ0.out, HK1.out.far (Nat.lt_of_succ_lt HZ0.out) 0 _⟩
            clear HX1' HG1 HK1
            refine wpList_nil ?_
            go_wp2
            go_roundg gj
            case measure => omega
            case rel => exact ⟨j + 1, c3, a4, b4, e4, c4, d4, f4, by have := HJG.out; omega, by simp, HIN.out, HX9.out, HG9.out, HK9.out⟩
end Bo
end Go.Proofs.YthbmnkeigmbbdaaGreat
