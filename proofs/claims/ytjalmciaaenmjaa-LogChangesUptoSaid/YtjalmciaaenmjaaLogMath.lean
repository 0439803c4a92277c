/-
  LOGS: the mathematics: entries, which are right, which stand in a row, a log's end and terms.
-/
import Derived.Test.YtjalmciaaenmjaaRows
import Derived.WalkKit
namespace Go.Proofs.Ytjalmciaaenmjaa
namespace Lo
structure En where
  i : Nat
  t : Nat
  k : Nat
  d : ByteArray
  ks : List Int
/-- Rising above la, none above 7. -/
def rmF (la : Int) : List Int → Bool
  | [] => true
  | k :: r => if k ≤ la then false else if 7 < k then false else rmF k r
def rmB (ks : List Int) : Bool := rmF 0 ks && decide (0 < ks.length)
theorem rmF_at (ks : List Int) (k : Nat) (h : k < ks.length) (la : Int) : rmF la (ks.drop k) = if ks[k] ≤ la then false else if 7 < ks[k] then false else rmF ks[k] (ks.drop (k + 1)) := by
  rw [List.drop_eq_getElem_cons h, rmF]
/-- Whether an entry is right. -/
def enB (e : En) : Bool := if e.i = 0 then false else if e.k = 1 then (e.d.toList.isEmpty && decide (e.ks.length = 0)) else if e.k = 2 then (decide (e.d.size ≤ 4096) && decide (e.ks.length = 0)) else if e.k = 3 then (e.d.toList.isEmpty && rmB e.ks) else false
/-- The number behind one. -/
def nx (x : Nat) : Nat := (x + 1) % 18446744073709551616
def Lt64 (x : Nat) : Prop := x < 18446744073709551616
def rowB : Nat → List En → Bool
  | _, [] => true
  | x, e :: r => if e.i = nx x then (if enB e = true then rowB (nx x) r else false) else false
def fallB : Nat → List En → Bool
  | _, [] => false
  | t, e :: r => if e.t < t then true else fallB e.t r
def okB (b t : Nat) (l : List En) : Bool := !(decide (b = 0) && !decide (t = 0)) && rowB b l && !fallB t l
theorem rowB_at (l : List En) (k : Nat) (h : k < l.length) (x : Nat) : rowB x (l.drop k) = if l[k].i = nx x then (if enB l[k] = true then rowB (nx x) (l.drop (k + 1)) else false) else false := by
  rw [List.drop_eq_getElem_cons h, rowB]
theorem fallB_at (l : List En) (k : Nat) (h : k < l.length) (t : Nat) : fallB t (l.drop k) = if l[k].t < t then true else fallB l[k].t (l.drop (k + 1)) := by
  rw [List.drop_eq_getElem_cons h, fallB]
theorem nx_lt (x : Nat) : Lt64 (nx x) := Nat.mod_lt _ (by omega)
theorem en_pos {e : En} (h : enB e = true) : e.i ≠ 0 := by
  intro h0; unfold enB at h; rw [if_pos h0] at h; cases h
theorem row_cons {x : Nat} {e : En} {r : List En} (h : rowB x (e :: r) = true) : e.i = nx x ∧ enB e = true ∧ rowB (nx x) r = true := by
  unfold rowB at h
  by_cases h1 : e.i = nx x
  · rw [if_pos h1] at h
    by_cases h2 : enB e = true
    · rw [if_pos h2] at h; exact ⟨h1, h2, h⟩
    · rw [if_neg h2] at h; cases h
  · rw [if_neg h1] at h; cases h
theorem nx_eq {x : Nat} (hx : Lt64 x) (h : nx x ≠ 0) : nx x = x + 1 := by
  unfold nx Lt64 at *; omega
/-- Entries in a row: each is right and has its Index. -/
theorem row_is : ∀ (l : List En) (x : Nat), rowB x l = true → Lt64 x → Lt64 (x + l.length) ∧ ∀ i (h : i < l.length), l[i].i = x + i + 1 ∧ enB l[i] = true
  | [], x, _, hx => ⟨hx, fun i h => absurd h (by simp)⟩
  | e :: r, x, h, hx => by
    obtain ⟨h1, h2, h3⟩ := row_cons h
    have h0 := en_pos h2
    rw [h1] at h0
    have hn := nx_eq hx h0
    rw [hn] at h1 h3
    obtain ⟨i1, i2⟩ := row_is r (x + 1) h3 (by rw [← hn]; exact nx_lt x)
    refine ⟨by simp only [List.length_cons, Lt64] at *; omega, fun i hi => ?_⟩
    cases i with
    | zero => exact ⟨by simp [h1], h2⟩
    | succ i =>
      have := i2 i (by simpa using hi)
      exact ⟨by simp only [List.getElem_cons_succ]; omega, this.2⟩
theorem row_of : ∀ (l : List En) (x : Nat), Lt64 (x + l.length) → (∀ i (h : i < l.length), l[i].i = x + i + 1 ∧ enB l[i] = true) → rowB x l = true
  | [], _, _, _ => rfl
  | e :: r, x, hx, h => by
    have h0 := h 0 (by simp)
    simp only [List.getElem_cons_zero, Nat.add_zero] at h0
    have hn : nx x = x + 1 := by unfold nx; simp only [List.length_cons, Lt64] at hx; omega
    unfold rowB
    rw [if_pos (by rw [hn]; exact h0.1), if_pos h0.2, hn]
    refine row_of r (x + 1) (by simp only [List.length_cons, Lt64] at *; omega) fun i hi => ?_
    have := h (i + 1) (by simpa using hi)
    simp only [List.getElem_cons_succ] at this
    exact ⟨by omega, this.2⟩
theorem fall_is : ∀ (l : List En) (t : Nat), fallB t l = false ↔ ((∀ (h : 0 < l.length), t ≤ l[0].t) ∧ ∀ i (h : i + 1 < l.length), l[i].t ≤ l[i + 1].t)
  | [], t => by simp [fallB]
  | e :: r, t => by
    unfold fallB
    by_cases h : e.t < t
    · rw [if_pos h]
      simp only [List.getElem_cons_zero]
      refine ⟨(fun h => by cases h), fun ⟨h1, _⟩ => ?_⟩
      have := h1 (by simp)
      omega
    · rw [if_neg h, fall_is r e.t]
      refine ⟨fun ⟨h1, h2⟩ => ⟨fun _ => by simp only [List.getElem_cons_zero]; omega, fun i hi => ?_⟩, fun ⟨h1, h2⟩ => ⟨fun hr => ?_, fun i hi => ?_⟩⟩
      · cases i with
        | zero => exact h1 (by simpa using hi)
        | succ i => exact h2 i (by simpa using hi)
      · exact h2 0 (by simpa using hr)
      · exact h2 (i + 1) (by simpa using hi)
theorem ok_is {b t : Nat} {l : List En} (h : okB b t l = true) : (b = 0 → t = 0) ∧ rowB b l = true ∧ fallB t l = false := by
  unfold okB at h
  simp only [Bool.and_eq_true, Bool.not_eq_true', Bool.and_eq_false_iff, decide_eq_false_iff_not, Bool.not_eq_false', decide_eq_true_eq] at h
  obtain ⟨⟨h1, h2⟩, h3⟩ := h
  exact ⟨fun h0 => by rcases h1 with h1 | h1; exact absurd h0 h1; exact h1, h2, h3⟩
theorem ok_of {b t : Nat} {l : List En} (h1 : b = 0 → t = 0) (h2 : rowB b l = true) (h3 : fallB t l = false) : okB b t l = true := by
  unfold okB
  rw [h2, h3]
  by_cases hb : b = 0
  · simp [hb, h1 hb]
  · simp [hb]
/-- A log's end. -/
def eI (b : Nat) (l : List En) : Nat := match l.getLast? with
  | none => b
  | some e => e.i
def eT (t : Nat) (l : List En) : Nat := match l.getLast? with
  | none => t
  | some e => e.t
theorem eI_nil (b : Nat) : eI b [] = b := rfl
theorem eT_nil (t : Nat) : eT t [] = t := rfl
theorem eI_at (b : Nat) (l : List En) (h : 0 < l.length) : eI b l = l[l.length - 1].i := by
  unfold eI
  rw [List.getLast?_eq_getElem?, List.getElem?_eq_getElem (by omega)]
theorem eT_at (t : Nat) (l : List En) (h : 0 < l.length) : eT t l = l[l.length - 1].t := by
  unfold eT
  rw [List.getLast?_eq_getElem?, List.getElem?_eq_getElem (by omega)]
theorem eI_ok {b t : Nat} {l : List En} (h : okB b t l = true) (hb : Lt64 b) : eI b l = b + l.length := by
  by_cases h0 : 0 < l.length
  · rw [eI_at b l h0, ((row_is l b (ok_is h).2.1 hb).2 (l.length - 1) (by omega)).1]; omega
  · obtain rfl : l = [] := List.eq_nil_of_length_eq_zero (by omega)
    rfl
/-- The Term at an Index. -/
def tmV (b t : Nat) (l : List En) (x : Nat) : Nat := if x < b then 0 else if b + l.length < x then 0 else if x = b then t else match l[x - b - 1]? with
  | none => 0
  | some e => e.t
def tmE (b n x : Nat) : Nat := if x < b then 15 else if b + n < x then 6 else 0
/-- How many entries are up to an Index. -/
def mny (b n x : Nat) : Nat := if x ≤ b then 0 else min (x - b) n
theorem mny_le (b n x : Nat) : mny b n x ≤ n := by unfold mny; split <;> omega
end Lo
end Go.Proofs.Ytjalmciaaenmjaa
