/-
  ROWS OF TASKS of the call's own: what an append leaves, what it takes.
-/
import Derived.Test.YthbmnkeigmbbdaaGreatRgA
import Derived.Laws.OwnMore
import Derived.Deep.OwnRows
import Derived.Lib.SmallJoins
import Derived.Laws.AppendOwnNone
namespace Go.Proofs.YthbmnkeigmbbdaaGreat
open Go.RowKit Go.Lib Go.Sort
namespace Rg
def encT (x : Tk) : List Value := [.string x.n, .int .i64 x.z0, .int .i64 x.z1, .int .i64 x.z2, .slice x.wa x.wn x.wc, .slice x.ba x.bn x.bc, .string x.g, .string x.a, .int .i64 x.r]
def flatT : List Tk → List Value
  | [] => []
  | x :: r => encT x ++ flatT r
theorem flatT_app (a b : List Tk) : flatT (a ++ b) = flatT a ++ flatT b := by
  induction a with
  | nil => rfl
  | cons x r ih => simp [flatT, ih]
theorem flatT_one (x : Tk) : flatT [x] = encT x := by simp [flatT]
theorem encT_len (x : Tk) : (encT x).length = 1 * 9 := rfl
theorem flatT_at (l : List Tk) : ∀ i (h : i < l.length), ∀ j, j < 9 → (flatT l)[i * 9 + j]? = (encT l[i])[j]? := by
  induction l with
  | nil => intro i h; simp at h
  | cons x r ih =>
    intro i h j hj
    cases i with
    | zero =>
      simp only [flatT, List.getElem_cons_zero]
      rw [List.getElem?_append_left (by rw [encT_len]; omega)]
      congr 1
      omega
    | succ i =>
      have := ih i (by simpa using h) j hj
      simp only [flatT, List.getElem_cons_succ]
      rw [List.getElem?_append_right (by rw [encT_len]; omega), encT_len, ← this]
      congr 1
      omega
def OwnT (w : World) (base : Nat) (v : Value) (l : List Tk) : Prop := w.ownsRow base 42 9 v l.length (flatT l)
theorem OwnT.form {w : World} {base : Nat} {v : Value} {l : List Tk} (h : OwnT w base v l) (hn : 0 < l.length) : ∃ g cap, v = .slice (some ⟨g, 0, none⟩) l.length cap ∧ base ≤ g ∧ g < w.heap.size ∧
    (∀ i (hi : i < l.length) j, j < 9 → w.cell? ⟨g, i * 9 + j, none⟩ = (encT l[i])[j]?) := by
  rcases h.2 with ⟨_, h0⟩ | ⟨g, cap, cur, rfl, hb, hg, h1, h2, h3, h4⟩
  · omega
  · refine ⟨g, cap, rfl, hb, (Array.getElem?_eq_some_iff.1 hg).1, fun i hi j hj => ?_⟩
    have f1 := flatT_at l i hi j hj
    have hlt : i * 9 + j < l.length * 9 := by omega
    rw [cell_of_row w g _ cur _ (0, 0) hg, ← f1, ← h4, List.getElem?_take, if_pos hlt]
    simp
theorem OwnT.slice {w : World} {base : Nat} {v : Value} {l : List Tk} (h : OwnT w base v l) : ∃ a c, v = .slice a l.length c := by
  rcases h.2 with ⟨rfl, h0⟩ | ⟨g, cap, cur, rfl, _⟩
  · exact ⟨none, 0, by rw [h0]⟩
  · exact ⟨_, _, rfl⟩
theorem OwnT.keep {w w' : World} {base : Nat} {v : Value} {l : List Tk} (h : OwnT w base v l) (hb : Below w.heap.size w w') : OwnT w' base v l := by
  refine ⟨h.1, h.2.elim Or.inl fun ⟨g, cap, cur, e, h1, h2, r⟩ => Or.inr ⟨g, cap, cur, e, h1, ?_, r⟩⟩
  rw [hb.block g (Array.getElem?_eq_some_iff.1 h2).1]
  exact h2
theorem OwnT.tasks {w : World} {base : Nat} {v : Value} {l : List Tk} (h : OwnT w base v l) (hl : l.length ≤ 4611686018427387904)
    (hm : ∀ x ∈ l, In64 x.z0 ∧ In64 x.z1 ∧ In64 x.z2) : Tasks w w.heap.size v l := by
  by_cases hn : 0 < l.length
  · obtain ⟨g, cap, rfl, hb, hg, hc⟩ := h.form hn
    refine ⟨_, _, rfl, hl, hm, fun _ => ⟨g, 0, rfl, hg, fun i hi => ?_⟩⟩
    rw [Nat.zero_add]
    exact ⟨hc i hi 0 (by omega), hc i hi 1 (by omega), hc i hi 2 (by omega), hc i hi 3 (by omega), hc i hi 4 (by omega), hc i hi 5 (by omega), hc i hi 6 (by omega), hc i hi 7 (by omega), hc i hi 8 (by omega)⟩
  · have h0 : l = [] := List.eq_nil_of_length_eq_zero (by omega)
    subst h0
    obtain ⟨a, c, rfl⟩ := h.slice
    exact ⟨_, _, rfl, by simp, by simp, fun h => absurd h (by simp)⟩
theorem OwnT.more {w : World} {base : Nat} {v : Value} {l : List Tk} {x : Tk} (h : w.ownsRow base 42 9 v (l.length + 1) (flatT l ++ encT x)) : OwnT w base v (l ++ [x]) := by
  unfold OwnT
  rw [flatT_app, flatT_one, List.length_append]
  exact h
theorem own_empty (w : World) (base : Nat) (e : TypeId) (size : Nat) (hb : base ≤ w.heap.size) : (w.alloc (.cells #[] e)).ownsRow base e size (.slice (some ⟨w.heap.size, 0, none⟩) 0 0) 0 [] :=
  ⟨by simp, .inr ⟨w.heap.size, 0, #[], rfl, hb, heap_alloc_new w _, Nat.le_refl _, by unfold maxLen; omega, by simp, by simp⟩⟩
theorem OwnT.made (w : World) (base : Nat) (hb : base ≤ w.heap.size) : OwnT (w.alloc (.cells #[] 42)) base (.slice (some ⟨w.heap.size, 0, none⟩) 0 0) [] := own_empty w base _ 9 hb
theorem OwnT.al {w : World} {base : Nat} {v : Value} {l : List Tk} (h : OwnT w base v l) (o : Obj) : OwnT (w.alloc o) base v l := h.keep ((Below.refl _ _).alloc (Nat.le_refl _) _)
theorem OwnT.drew {w : World} {base : Nat} {v : Value} {l : List Tk} (h : OwnT w base v l) : OwnT w.drew base v l := h
theorem news_new (w : World) (t : TypeId) (l : List Value) : ∀ j u, l[j]? = some u → (w.alloc (.cells l.toArray t)).cell? ((⟨w.heap.size, 0, none⟩ : Addr).add j) = some u := by
  intro j u hu
  rw [Addr.add_lit, Nat.zero_add]
  simpa [go_sem] using hu
end Rg
end Go.Proofs.YthbmnkeigmbbdaaGreat
