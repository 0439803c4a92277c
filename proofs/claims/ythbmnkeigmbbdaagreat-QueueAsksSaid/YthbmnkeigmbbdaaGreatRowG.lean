/-
  ROWS OF STRUCTS: any encoding of k cells (a struct's own memory apart): slices that came in, rows of the call's own.
-/
import Derived.Test.YthbmnkeigmbbdaaGreatProg
import Derived.Test.YthbmnkeigmbbdaaGreatChecked
import Derived.WalkKit
import Derived.WalkLawsBesides
import Derived.WalkSpells
import Derived.Lib.Hide
import Derived.Deep.LoopGhost
import Derived.Deep.QuietTactic
import Derived.BigQuiet
import Derived.Laws.OwnMore
import Derived.Deep.OwnRows
import Derived.Lib.SmallJoins
import Derived.ArgAppend
import Derived.Laws.CopyOwn
import Derived.Lib.Overlaps
import Derived.Maps.AppendAt
import Derived.Laws.ResultCell
namespace Go.Proofs.YthbmnkeigmbbdaaGreat
open Go.RowKit Go.Lib
namespace Rw
set_option linter.unusedVariables false
class Flat (α : Type) where
  enc : α → List Value
  k : Nat
  kp : 0 < k
  len : ∀ x, (enc x).length = k
  one : ∀ x, ∀ u ∈ enc x, u.oneCell' = true
section
variable {α : Type} [F : Flat α]
def flat : List α → List Value
  | [] => []
  | x :: r => F.enc x ++ flat r
theorem flat_len (l : List α) : (flat l).length = l.length * F.k := by
  induction l with
  | nil => simp [flat]
  | cons f r ih => simp only [flat, List.length_append, ih, F.len, List.length_cons, Nat.add_mul]; omega
theorem flat_app (a b : List α) : flat (a ++ b) = flat a ++ flat b := by
  induction a with
  | nil => rfl
  | cons f r ih => simp [flat, ih]
theorem flat_single (x : α) : flat [x] = F.enc x := by simp [flat]
theorem flat_one (l : List α) : ∀ u ∈ flat l, u.oneCell' = true := by
  induction l with
  | nil => simp [flat]
  | cons f r ih =>
    intro u hu
    simp only [flat, List.mem_append] at hu
    rcases hu with hu | hu
    · exact F.one f u hu
    · exact ih u hu
theorem flat_at (l : List α) : ∀ i (h : i < l.length) j, j < F.k → (flat l)[i * F.k + j]? = (F.enc l[i])[j]? := by
  induction l with
  | nil => intro i h; simp at h
  | cons f r ih =>
    intro i h j hj
    cases i with
    | zero =>
      simp only [flat, Nat.zero_mul, Nat.zero_add, List.getElem_cons_zero]
      rw [List.getElem?_append_left (by rw [F.len]; exact hj)]
    | succ i =>
      have e1 : (i + 1) * F.k + j = F.k + (i * F.k + j) := by rw [Nat.add_mul]; omega
      simp only [flat, List.getElem_cons_succ]
      rw [e1, List.getElem?_append_right (by rw [F.len]; omega), F.len, Nat.add_sub_cancel_left]
      exact ih i (by simpa using h) j hj
/-- x's cells stand at block b from o on. -/
def At (w : World) (b o : Nat) (x : α) : Prop := ∀ j u, (F.enc x)[j]? = some u → w.cell? ⟨b, o + j, none⟩ = some u
theorem At.keep {w w' : World} {B b o : Nat} {x : α} (h : At w b o x) (hb : Below B w w') (hlt : b < B) : At w' b o x := fun j u hj => (hb.cell (by exact hlt)).trans (h j u hj)
/-- v is a slice of l, in blocks from A on, below B. -/
def Sl (w : World) (A B : Nat) (v : Value) (l : List α) : Prop :=
  ∃ a c, v = .slice a l.length c ∧ l.length ≤ c ∧ (a = none → c = 0) ∧ l.length ≤ 4398046511104 ∧
    (0 < l.length → ∃ b off, a = some ⟨b, off, none⟩ ∧ A ≤ b ∧ b < B ∧ ∀ i (h : i < l.length), At w b (off + i * F.k) l[i])
theorem Sl.keep {w w' : World} {A B : Nat} {v : Value} {l : List α} (h : Sl w A B v l) (hb : Below B w w') : Sl w' A B v l := by
  obtain ⟨a, c, rfl, h1, h2, h3, h4⟩ := h
  refine ⟨a, c, rfl, h1, h2, h3, fun hp => ?_⟩
  obtain ⟨b, off, rfl, hA, hlt, hc⟩ := h4 hp
  exact ⟨b, off, rfl, hA, hlt, fun i hi => (hc i hi).keep hb hlt⟩
theorem Sl.more {w : World} {A A' B B' : Nat} {v : Value} {l : List α} (h : Sl w A B v l) (hb : B ≤ B') (hA : A' ≤ A) : Sl w A' B' v l := by
  obtain ⟨a, c, rfl, h1, h2, h3, h4⟩ := h
  refine ⟨a, c, rfl, h1, h2, h3, fun hp => ?_⟩
  obtain ⟨b, off, rfl, hA, hlt, hc⟩ := h4 hp
  exact ⟨b, off, rfl, by omega, by omega, hc⟩
theorem Sl.on {w w' : World} {A : Nat} {v : Value} {l : List α} (h : Sl w A w.heap.size v l) (hb : Below w.heap.size w w') : Sl w' A w'.heap.size v l := (h.keep hb).more hb.size (Nat.le_refl _)
theorem Sl.slice {w : World} {A B : Nat} {v : Value} {l : List α} (h : Sl w A B v l) : ∃ a c, v = .slice a l.length c := by
  obtain ⟨a, c, rfl, -⟩ := h; exact ⟨a, c, rfl⟩
theorem Sl.len {w : World} {A B : Nat} {v : Value} {l : List α} (h : Sl w A B v l) : l.length ≤ 4398046511104 := by
  obtain ⟨a, c, rfl, -, -, h, -⟩ := h; exact h
theorem Sl.nil (w : World) (A B : Nat) : Sl w A B (.slice none 0 0) ([] : List α) := ⟨none, 0, rfl, Nat.le_refl _, fun _ => rfl, by simp, fun h => absurd h (by simp)⟩
theorem Sl.empty (w : World) (A B : Nat) (a : Option Addr) (c : Nat) (h : a = none → c = 0) : Sl w A B (.slice a 0 c) ([] : List α) := ⟨a, c, rfl, Nat.zero_le _, h, by simp, fun h => absurd h (by simp)⟩
theorem Sl.news {w : World} {A B : Nat} {ad : Addr} {n c : Nat} {l : List α} (h : Sl w A B (.slice (some ad) n c) l) : ∀ j u, (flat l)[j]? = some u → w.cell? (ad.add j) = some u := by
  intro j u hu
  have hj : j < l.length * F.k := by
    have := (List.getElem?_eq_some_iff.1 hu).1
    rwa [flat_len] at this
  obtain ⟨a', c', he, -, -, -, h4⟩ := h
  have hp : 0 < l.length := by
    rcases Nat.eq_zero_or_pos l.length with h0 | h0
    · rw [h0] at hj; omega
    · exact h0
  obtain ⟨b, off, rfl, hA, hlt, hc⟩ := h4 hp
  simp only [Value.slice.injEq] at he
  have he1 := Option.some.inj he.1
  subst he1
  rw [Addr.add_lit]
  have hk := F.kp
  have hjk : j % F.k < F.k := Nat.mod_lt _ hk
  have hd : j / F.k < l.length := (Nat.div_lt_iff_lt_mul hk).2 hj
  have e : j / F.k * F.k + j % F.k = j := by rw [Nat.mul_comm]; exact Nat.div_add_mod j F.k
  have hf := flat_at l (j / F.k) hd (j % F.k) hjk
  rw [e, hu] at hf
  have := hc (j / F.k) hd (j % F.k) u hf.symm
  rw [Nat.add_assoc, e] at this
  exact this
/-- v is a row of the call's own that holds l. -/
def Own (w : World) (base : Nat) (e : TypeId) (v : Value) (l : List α) : Prop := w.ownsRow base e F.k v l.length (flat l)
theorem Own.nil (w : World) (base : Nat) (e : TypeId) : Own w base e (.slice none 0 0) ([] : List α) := World.ownsRow_nil _ _ _ _
theorem Own.made (w : World) (e : TypeId) : Own (w.alloc (.cells #[] e)) w.heap.size e (.slice (some ⟨w.heap.size, 0, none⟩) 0 0) ([] : List α) := World.ownsRow_made w #[] 0 (Nat.le_refl _) (Nat.zero_le _) (by simp)
theorem Own.le {w : World} {base base' : Nat} {e : TypeId} {v : Value} {l : List α} (h : Own w base e v l) (hb : base' ≤ base) : Own w base' e v l := ⟨h.1, h.2.elim Or.inl (fun ⟨g, cap, cur, hv, hg, r⟩ => Or.inr ⟨g, cap, cur, hv, Nat.le_trans hb hg, r⟩)⟩
theorem Own.keep {w w' : World} {base : Nat} {e : TypeId} {v : Value} {l : List α} (h : Own w base e v l) (hb : Below w.heap.size w w') : Own w' base e v l := by
  refine ⟨h.1, ?_⟩
  rcases h.2 with h2 | ⟨g, cap, cur, h3, h4, h5, h6⟩
  · exact .inl h2
  · exact .inr ⟨g, cap, cur, h3, h4, (hb.block g ((Array.getElem?_eq_some_iff.1 h5).1)).trans h5, h6⟩
theorem Own.slice {w : World} {base : Nat} {e : TypeId} {v : Value} {l : List α} (h : Own w base e v l) : ∃ a c, v = .slice a l.length c := by
  rcases h.2 with ⟨rfl, h0⟩ | ⟨g, cap, cur, rfl, _⟩
  · exact ⟨none, 0, by rw [h0]⟩
  · exact ⟨_, _, rfl⟩
theorem Own.lt {w : World} {base : Nat} {e : TypeId} {v : Value} {l : List α} (h : Own w base e v l) : ∀ g, v.ownBlock = some g → base ≤ g ∧ g < w.heap.size := World.ownsRow.lt h
theorem Own.sl {w : World} {base : Nat} {e : TypeId} {v : Value} {l : List α} (h : Own w base e v l) (hl : l.length ≤ 4398046511104) : Sl w base w.heap.size v l := by
  rcases h.2 with ⟨rfl, h0⟩ | ⟨g, cap, cur, rfl, hbg, hg, h1, h2, h3, h4⟩
  · have : l = [] := List.eq_nil_of_length_eq_zero h0
    subst this
    exact Sl.nil _ _ _
  · refine ⟨_, _, rfl, h1, (fun h => by cases h), hl, fun hp => ⟨g, 0, rfl, hbg, (Array.getElem?_eq_some_iff.1 hg).1, fun i hi j u hu => ?_⟩⟩
    have hj : j < F.k := by
      have := (List.getElem?_eq_some_iff.1 hu).1
      rwa [F.len] at this
    have hf := flat_at l i hi j hj
    rw [hu] at hf
    have hlt : i * F.k + j < l.length * F.k := by
      have : (i + 1) * F.k ≤ l.length * F.k := Nat.mul_le_mul_right _ hi
      rw [Nat.add_mul] at this
      omega
    rw [Nat.zero_add, cell_of_row w g _ cur _ (0, 0) hg]
    rw [← h4, List.getElem?_take, if_pos hlt] at hf
    simpa using hf
/-- What stays apart from the row that grew. -/
theorem Own.other {w w' : World} {base : Nat} {e : TypeId} {v : Value} {l : List α} {own : Option Nat} (h : Own w base e v l) (hg : w.grownBy w' own) (ha : v.ownBlock = none ∨ v.ownBlock ≠ own) : Own w' base e v l := by
  refine ⟨h.1, ?_⟩
  rcases h.2 with h2 | ⟨g, cap, cur, rfl, h4, h5, h6⟩
  · exact .inl h2
  · refine .inr ⟨g, cap, cur, rfl, h4, (hg.block g ((Array.getElem?_eq_some_iff.1 h5).1) ?_).trans h5, h6⟩
    rcases ha with h | h
    · cases h
    · exact h
theorem Sl.grown {w w' : World} {A B : Nat} {v : Value} {l : List α} {own : Option Nat} (h : Sl w A B v l) (hg : w.grownBy w' own) (hne : ∀ g, own = some g → g < A ∨ B ≤ g) : Sl w' A B v l := by
  obtain ⟨a, c, rfl, h1, h2, h3, h4⟩ := h
  refine ⟨a, c, rfl, h1, h2, h3, fun hp => ?_⟩
  obtain ⟨b, off, rfl, hA, hlt, hc⟩ := h4 hp
  refine ⟨b, off, rfl, hA, hlt, fun i hi j u hu => hg.cell (hc i hi j u hu) ?_⟩
  intro e
  rcases hne b e.symm with h | h <;> omega
/-- What an append of one asks and leaves. -/
theorem Own.snoc {w : World} {base : Nat} {e : TypeId} {v : Value} {l : List α} {x : α} (h : w.ownsRow base e F.k v (l.length + 1) (flat l ++ F.enc x)) : Own w base e v (l ++ [x]) := by
  unfold Own
  rw [flat_app, List.length_append, flat_single]
  exact h
theorem Own.join {w : World} {base : Nat} {e : TypeId} {v : Value} {l r : List α} (h : w.ownsRow base e F.k v (l.length + r.length) (flat l ++ flat r)) : Own w base e v (l ++ r) := by
  unfold Own
  rw [flat_app, List.length_append]
  exact h
theorem enc_new (w : World) (x : α) (T : TypeId) : ∀ j u, (F.enc x)[j]? = some u → (w.alloc (.cells (F.enc x).toArray T)).cell? ((⟨w.heap.size, 0, none⟩ : Addr).add j) = some u := by
  intro j u hj
  rw [Addr.add_lit, Nat.zero_add, cell_of_row _ _ j _ _ (0, 0) (heap_alloc_new w _)]
  simpa using hj
theorem sl_new (w : World) (l : List α) (T : TypeId) (h : l.length ≤ 4398046511104) : Sl (w.alloc (.cells (flat l).toArray T)) w.heap.size (w.alloc (.cells (flat l).toArray T)).heap.size (.slice (some ⟨w.heap.size, 0, none⟩) l.length l.length) l := by
  refine ⟨_, _, rfl, Nat.le_refl _, (fun h => by cases h), h, fun hp => ⟨w.heap.size, 0, rfl, Nat.le_refl _, by rw [World.size_alloc]; omega, fun i hi j u hu => ?_⟩⟩
  have hj : j < F.k := by
    have := (List.getElem?_eq_some_iff.1 hu).1
    rwa [F.len] at this
  have hf := flat_at l i hi j hj
  rw [hu] at hf
  rw [Nat.zero_add, cell_of_row _ _ _ _ _ (0, 0) (heap_alloc_new w _)]
  simpa using hf
end
section
variable {P : Program}
end
theorem list_of {α : Type} (R : Nat → α → Prop) : ∀ n, (∀ i, i < n → ∃ f, R i f) → ∃ l : List α, l.length = n ∧ ∀ i (h : i < l.length), R i l[i]
  | 0, _ => ⟨[], rfl, fun i h => absurd h (Nat.not_lt_zero _)⟩
  | n + 1, h => by
    obtain ⟨l, hl, hr⟩ := list_of R n (fun i hi => h i (by omega))
    obtain ⟨f, hf⟩ := h n (by omega)
    refine ⟨l ++ [f], by simp [hl], fun i hi => ?_⟩
    by_cases hin : i < l.length
    · rw [List.getElem_append_left hin]; exact hr i hin
    · have : i = n := by simp at hi; omega
      subst this
      rw [List.getElem_append_right (by omega)]
      simpa [hl] using hf
theorem al (z : World) (o : Obj) : Below z.heap.size z (z.alloc o) := (Below.refl _ _).alloc (Nat.le_refl _) _
theorem cell_new (w : World) (v : Value) (T : TypeId) : (w.alloc (.cells #[v] T)).cell? ⟨w.heap.size, 0, none⟩ = some v := by
  rw [cell_of_row _ _ 0 _ _ (0, 0) (heap_alloc_new w _)]
  rfl
theorem cell_old {w : World} {b o : Nat} {v : Value} (ob : Obj) (h : w.cell? ⟨b, o, none⟩ = some v) : (w.alloc ob).cell? ⟨b, o, none⟩ = some v := by
  rw [World.cell?_alloc_lt _ _ _ (World.block_lt_of_cell? w _ h)]
  exact h
end Rw
end Go.Proofs.YthbmnkeigmbbdaaGreat
