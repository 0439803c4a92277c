/-
  ROWS OF ONE's OWN: one written over; what stays apart.
-/
import Derived.Test.YthbmnkeigmbbdaaGreatBgR
import Derived.Test.YthbmnkeigmbbdaaGreatBgT
namespace Go.Proofs.YthbmnkeigmbbdaaGreat
open Go.RowKit Go.Lib Go.Sort
namespace Rw
set_option linter.unusedVariables false
section
variable {α : Type} [F : Flat α]
theorem flat_set (l : List α) : ∀ k (h : k < l.length) (y : α), splice (flat l) (k * F.k) (F.enc y) = flat (l.set k y) := by
  induction l with
  | nil => intro k h; simp at h
  | cons x r ih =>
    intro k h y
    cases k with
    | zero =>
      unfold splice
      simp only [flat, List.set_cons_zero, Nat.zero_mul, List.take_zero, List.nil_append, Nat.zero_add]
      rw [List.drop_append_of_le_length (by rw [F.len, F.len]; exact Nat.le_refl _), List.drop_eq_nil_of_le (by rw [F.len, F.len]; exact Nat.le_refl _), List.nil_append]
    | succ k =>
      have := ih k (by simpa using h) y
      unfold splice at *
      simp only [flat, List.set_cons_succ]
      rw [← this]
      have e1 : (k + 1) * F.k = F.k + k * F.k := by rw [Nat.add_mul]; omega
      rw [e1, List.take_append, F.len, List.take_of_length_le (by rw [F.len]; omega), Nat.add_sub_cancel_left]
      rw [Nat.add_assoc, List.drop_append, F.len y, List.drop_eq_nil_of_le (by rw [F.len]; omega), F.len x, Nat.add_sub_cancel_left, List.nil_append, List.append_assoc]
theorem heap_setCells_mid (R : Nat) (T : TypeId) : ∀ (vs : List Value) (o : Nat) (w : World) (cs : List Value), w.heap[R]? = some (.cells cs.toArray T (0, 0)) → o + vs.length ≤ cs.length →
    (w.setCells R o vs).heap[R]? = some (.cells (splice cs o vs).toArray T (0, 0))
  | [], o, w, cs, h, hl => by
    simp only [World.setCells, splice, List.nil_append, List.length_nil, Nat.add_zero, List.take_append_drop]
    exact h
  | v :: r, o, w, cs, h, hl => by
    rw [World.setCells]
    have hlt : o < cs.length := by simp at hl; omega
    have h1 : (w.setCell ⟨R, o, none⟩ v).heap[R]? = some (.cells (cs.set o v).toArray T (0, 0)) := by simp [World.setCell, Array.getElem?_modify, h]
    rw [heap_setCells_mid R T r (o + 1) _ (cs.set o v) h1 (by simp at hl ⊢; omega)]
    congr 2
    congr 1
    unfold splice
    have e1 : (cs.set o v).take (o + 1) = cs.take o ++ [v] := by
      rw [List.set_eq_take_append_cons_drop, if_pos hlt, List.take_append]
      have hl2 : (cs.take o).length = o := by rw [List.length_take]; omega
      rw [hl2, List.take_of_length_le (by omega), show o + 1 - o = 1 by omega]
      rfl
    have e2 : (cs.set o v).drop (o + 1 + r.length) = cs.drop (o + 1 + r.length) := by
      rw [List.drop_set_of_lt (by omega)]
    rw [e1, e2, List.append_assoc, List.length_cons]
    simp only [List.cons_append, List.nil_append]
    rw [show o + (r.length + 1) = o + 1 + r.length by omega]
/-- One of a row of one's own written over. -/
theorem Own.set {w : World} {base : Nat} {e : TypeId} {g n c : Nat} {l : List α} (h : Own w base e (.slice (some ⟨g, 0, none⟩) n c) l) (k : Nat) (hk : k < l.length) (y : α) :
    Own (w.setCells g (k * F.k) (F.enc y)) base e (.slice (some ⟨g, 0, none⟩) n c) (l.set k y) := by
  rcases h.2 with ⟨h1, _⟩ | ⟨g', cap, cur, hv, hb, hg, h1, h2, h3, h4⟩
  · cases h1
  · simp only [Value.slice.injEq, Option.some.injEq, Addr.mk.injEq, and_true] at hv
    obtain ⟨rfl, rfl, rfl⟩ := hv
    have hcl : cur.toList.length = c * F.k := by rw [Array.length_toList]; exact h3
    have hkk : (k + 1) * F.k ≤ l.length * F.k := Nat.mul_le_mul_right _ hk
    have hcc : l.length * F.k ≤ c * F.k := Nat.mul_le_mul_right _ h1
    rw [Nat.add_mul, Nat.one_mul] at hkk
    have hel := F.len y
    have hs := heap_setCells_mid g e (F.enc y) (k * F.k) w cur.toList (by simpa using hg) (by rw [hcl, hel]; omega)
    refine ⟨by rw [flat_len, List.length_set], .inr ⟨g, c, _, by rw [List.length_set], hb, hs, by rw [List.length_set]; exact h1, h2, ?_, ?_⟩⟩
    · rw [List.size_toArray, length_splice _ _ _ (by rw [hcl, hel]; omega), hcl]
    · rw [List.length_set, ← flat_set l k hk y, ← h4]
      show (splice cur.toList (k * F.k) (F.enc y)).take (l.length * F.k) = splice (cur.toList.take (l.length * F.k)) (k * F.k) (F.enc y)
      unfold splice
      rw [List.take_append, List.take_append, List.take_take, List.length_take, hcl, hel]
      rw [Nat.min_eq_left (by omega : k * F.k ≤ c * F.k), Nat.min_eq_right (by omega : k * F.k ≤ l.length * F.k)]
      rw [List.take_take, Nat.min_eq_left (by omega : k * F.k ≤ l.length * F.k)]
      rw [List.take_of_length_le (by rw [hel]; omega : (F.enc y).length ≤ l.length * F.k - k * F.k), List.drop_take]
      congr 2
      congr 1
      omega
theorem grown_setCells (w : World) (g o : Nat) (vs : List Value) : w.grownBy (w.setCells g o vs) (some g) := by
  have h := Hd.only_setCells g vs o w
  exact h
/-- Two rows of unlike things lie apart. -/
theorem Own.apart {β : Type} [G : Flat β] {w : World} {b1 b2 : Nat} {e1 e2 : TypeId} {v u : Value} {l : List α} {m : List β} (h : Own w b1 e1 v l) (k : Own w b2 e2 u m) (hne : e1 ≠ e2) : v.ownBlock = none ∨ v.ownBlock ≠ u.ownBlock := by
  rcases h.2 with ⟨rfl, _⟩ | ⟨g, cap, cur, rfl, _, hg, _⟩
  · exact .inl rfl
  · rcases k.2 with ⟨rfl, _⟩ | ⟨g', cap', cur', rfl, _, hg', _⟩
    · right; intro e; cases e
    · right
      intro e
      have e : g = g' := Option.some.inj e
      subst e
      rw [hg] at hg'
      simp only [Option.some.injEq, Obj.cells.injEq] at hg'
      exact hne hg'.2.1
theorem Own.form {w : World} {base : Nat} {e : TypeId} {v : Value} {l : List α} (h : Own w base e v l) (hn : 0 < l.length) : ∃ g cap, v = .slice (some ⟨g, 0, none⟩) l.length cap ∧ base ≤ g ∧ g < w.heap.size ∧ (∀ i (hi : i < l.length), At w g (i * F.k) l[i]) ∧ (∀ i, i < l.length → w.there g (i * F.k) F.k) := by
  have h' := h
  rcases h.2 with ⟨_, h0⟩ | ⟨g, cap, cur, rfl, hb, hg, h1, h2, h3, h4⟩
  · omega
  · have hat : ∀ i (hi : i < l.length), At w g (i * F.k) l[i] := by
      intro i hi j u hu
      have hj : j < F.k := by
        have := (List.getElem?_eq_some_iff.1 hu).1
        rwa [F.len] at this
      have hf := flat_at l i hi j hj
      rw [hu] at hf
      have hlt : i * F.k + j < l.length * F.k := by
        have : (i + 1) * F.k ≤ l.length * F.k := Nat.mul_le_mul_right _ hi
        rw [Nat.add_mul] at this
        omega
      rw [cell_of_row w g _ cur _ (0, 0) hg]
      rw [← h4, List.getElem?_take, if_pos hlt] at hf
      simpa using hf
    refine ⟨g, cap, rfl, hb, (Array.getElem?_eq_some_iff.1 hg).1, hat, fun i hi j hj => ⟨?_, frozen_of_row w g _ cur _ hg⟩⟩
    have hl : j < (F.enc l[i]).length := by rw [F.len]; exact hj
    rw [hat i hi j _ (List.getElem?_eq_getElem hl)]
    rfl
theorem Own.drew {w : World} {base : Nat} {e : TypeId} {v : Value} {l : List α} (h : Own w base e v l) : Own w.drew base e v l := h
end
end Rw
namespace Bo
open Rw
/-- A row of nodes of one's own, and rows of pairs of one's own behind it. -/
def OwnN (w : World) (base : Nat) (x : NdM) : Prop := Own w base 89 x.v2 x.nd.ls ∧ Own w base 89 x.v3 x.nd.ts
def OwnT (w : World) (base : Nat) (x : TdM) : Prop := Own w base 89 x.v4 x.td.ws ∧ Own w base 89 x.v5 x.td.bs
theorem OwnN.keep {w w' : World} {base : Nat} {x : NdM} (h : OwnN w base x) (hb : Below w.heap.size w w') : OwnN w' base x := ⟨h.1.keep hb, h.2.keep hb⟩
theorem OwnT.keep {w w' : World} {base : Nat} {x : TdM} (h : OwnT w base x) (hb : Below w.heap.size w w') : OwnT w' base x := ⟨h.1.keep hb, h.2.keep hb⟩
theorem OwnN.le {w : World} {b b' : Nat} {x : NdM} (h : OwnN w b x) (hb : b' ≤ b) : OwnN w b' x := ⟨h.1.le hb, h.2.le hb⟩
theorem OwnT.le {w : World} {b b' : Nat} {x : TdM} (h : OwnT w b x) (hb : b' ≤ b) : OwnT w b' x := ⟨h.1.le hb, h.2.le hb⟩
/-- Pairs stay as rows of other things are written. -/
theorem OwnN.off {α : Type} [F : Flat α] {w w' : World} {b b2 : Nat} {e : TypeId} {v : Value} {l : List α} {x : NdM} (h : OwnN w b x) (k : Own w b2 e v l) (hne : 89 ≠ e) (hg : w.grownBy w' v.ownBlock) : OwnN w' b x :=
  ⟨h.1.other hg (h.1.apart k hne), h.2.other hg (h.2.apart k hne)⟩
theorem OwnT.off {α : Type} [F : Flat α] {w w' : World} {b b2 : Nat} {e : TypeId} {v : Value} {l : List α} {x : TdM} (h : OwnT w b x) (k : Own w b2 e v l) (hne : 89 ≠ e) (hg : w.grownBy w' v.ownBlock) : OwnT w' b x :=
  ⟨h.1.other hg (h.1.apart k hne), h.2.other hg (h.2.apart k hne)⟩
theorem fitL_len {l : List Rg.Pr} (h : FitL l) : l.length ≤ 4398046511104 := by have := h.1; omega
theorem OwnN.deep {w : World} {b : Nat} {x : NdM} (h : OwnN w b x) (hf : FitN x.nd) : DeepN w w.heap.size x := ⟨(h.1.sl (fitL_len hf.2.2.1)).more (Nat.le_refl _) (Nat.zero_le _), (h.2.sl (fitL_len hf.2.2.2)).more (Nat.le_refl _) (Nat.zero_le _)⟩
theorem OwnT.deep {w : World} {b : Nat} {x : TdM} (h : OwnT w b x) (hf : FitT x.td) : DeepT w w.heap.size x := ⟨(h.1.sl (fitL_len hf.2.2.1)).more (Nat.le_refl _) (Nat.zero_le _), (h.2.sl (fitL_len hf.2.2.2)).more (Nat.le_refl _) (Nat.zero_le _)⟩
end Bo
end Go.Proofs.YthbmnkeigmbbdaaGreat
