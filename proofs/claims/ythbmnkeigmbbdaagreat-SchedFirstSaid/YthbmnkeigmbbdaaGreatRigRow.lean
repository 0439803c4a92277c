/-
  ROWS OF TASKS of the call's own: what an append leaves, what it takes.
-/
import Derived.Test.YthbmnkeigmbbdaaGreatRgA
import Derived.Laws.OwnMore
import Derived.Deep.OwnRows
import Derived.Lib.SmallJoins
import Derived.Laws.AppendOwnNone
namespace Go.Proofs.YthbmnkeigmbbdaaGreat
open Go.RowKit Go.Lib Go.Sort
namespace Rg
def encT (x : Tk) : List Value := [.string x.n, .int .i64 x.z0, .int .i64 x.z1, .int .i64 x.z2, .slice x.wa x.wn x.wc, .slice x.ba x.bn x.bc, .string x.g, .string x.a, .int .i64 x.r]
def flatT : List Tk → List Value
  | [] => []
  | x :: r => encT x ++ flatT r
theorem flatT_len (l : List Tk) : (flatT l).length = l.length * 9 := by
  induction l with
  | nil => rfl
  | cons x r ih => simp [flatT, encT, ih]; omega
theorem flatT_app (a b : List Tk) : flatT (a ++ b) = flatT a ++ flatT b := by
  induction a with
  | nil => rfl
  | cons x r ih => simp [flatT, ih]
theorem flatT_one (x : Tk) : flatT [x] = encT x := by simp [flatT]
theorem encT_one (x : Tk) : ∀ u ∈ encT x, u.oneCell' = true := by
  intro u hu
  simp only [encT, List.mem_cons, List.not_mem_nil, or_false] at hu
  rcases hu with rfl | rfl | rfl | rfl | rfl | rfl | rfl | rfl | rfl <;> rfl
theorem encT_len (x : Tk) : (encT x).length = 1 * 9 := rfl
theorem flatT_at (l : List Tk) : ∀ i (h : i < l.length), ∀ j, j < 9 → (flatT l)[i * 9 + j]? = (encT l[i])[j]? := by
  induction l with
  | nil => intro i h; simp at h
  | cons x r ih =>
    intro i h j hj
    cases i with
    | zero =>
      simp only [flatT, List.getElem_cons_zero]
      rw [List.getElem?_append_left (by rw [encT_len]; omega)]
      congr 1
      omega
    | succ i =>
      have := ih i (by simpa using h) j hj
      simp only [flatT, List.getElem_cons_succ]
      rw [List.getElem?_append_right (by rw [encT_len]; omega), encT_len, ← this]
      congr 1
      omega
theorem info_task : (Tryz.prog.info? 42).map (fun i => (i.zero, i.size, i.bytes)) = some (some (.agg #[.string ByteArray.empty, .int .i64 0, .int .i64 0, .int .i64 0, .slice none 0 0, .slice none 0 0, .string ByteArray.empty, .string ByteArray.empty, .int .i64 0]), 9, 128) := by kernel_rfl
def OwnT (w : World) (base : Nat) (v : Value) (l : List Tk) : Prop := w.ownsRow base 42 9 v l.length (flatT l)
theorem OwnT.form {w : World} {base : Nat} {v : Value} {l : List Tk} (h : OwnT w base v l) (hn : 0 < l.length) : ∃ g cap, v = .slice (some ⟨g, 0, none⟩) l.length cap ∧ base ≤ g ∧ g < w.heap.size ∧
    (∀ i (hi : i < l.length) j, j < 9 → w.cell? ⟨g, i * 9 + j, none⟩ = (encT l[i])[j]?) := by
  rcases h.2 with ⟨_, h0⟩ | ⟨g, cap, cur, rfl, hb, hg, h1, h2, h3, h4⟩
  · omega
  · refine ⟨g, cap, rfl, hb, (Array.getElem?_eq_some_iff.1 hg).1, fun i hi j hj => ?_⟩
    have f1 := flatT_at l i hi j hj
    have hlt : i * 9 + j < l.length * 9 := by omega
    rw [cell_of_row w g _ cur _ (0, 0) hg, ← f1, ← h4, List.getElem?_take, if_pos hlt]
    simp
theorem OwnT.slice {w : World} {base : Nat} {v : Value} {l : List Tk} (h : OwnT w base v l) : ∃ a c, v = .slice a l.length c := by
  rcases h.2 with ⟨rfl, h0⟩ | ⟨g, cap, cur, rfl, _⟩
  · exact ⟨none, 0, by rw [h0]⟩
  · exact ⟨_, _, rfl⟩
theorem OwnT.keep {w w' : World} {base : Nat} {v : Value} {l : List Tk} (h : OwnT w base v l) (hb : Below w.heap.size w w') : OwnT w' base v l := by
  refine ⟨h.1, h.2.elim Or.inl fun ⟨g, cap, cur, e, h1, h2, r⟩ => Or.inr ⟨g, cap, cur, e, h1, ?_, r⟩⟩
  rw [hb.block g (Array.getElem?_eq_some_iff.1 h2).1]
  exact h2
theorem OwnT.tasks {w : World} {base : Nat} {v : Value} {l : List Tk} (h : OwnT w base v l) (hl : l.length ≤ 4611686018427387904)
    (hm : ∀ x ∈ l, In64 x.z0 ∧ In64 x.z1 ∧ In64 x.z2) : Tasks w w.heap.size v l := by
  by_cases hn : 0 < l.length
  · obtain ⟨g, cap, rfl, hb, hg, hc⟩ := h.form hn
    refine ⟨_, _, rfl, hl, hm, fun _ => ⟨g, 0, rfl, hg, fun i hi => ?_⟩⟩
    rw [Nat.zero_add]
    exact ⟨hc i hi 0 (by omega), hc i hi 1 (by omega), hc i hi 2 (by omega), hc i hi 3 (by omega), hc i hi 4 (by omega), hc i hi 5 (by omega), hc i hi 6 (by omega), hc i hi 7 (by omega), hc i hi 8 (by omega)⟩
  · have h0 : l = [] := List.eq_nil_of_length_eq_zero (by omega)
    subst h0
    obtain ⟨a, c, rfl⟩ := h.slice
    exact ⟨_, _, rfl, by simp, by simp, fun h => absurd h (by simp)⟩
theorem OwnT.more {w : World} {base : Nat} {v : Value} {l : List Tk} {x : Tk} (h : w.ownsRow base 42 9 v (l.length + 1) (flatT l ++ encT x)) : OwnT w base v (l ++ [x]) := by
  unfold OwnT
  rw [flatT_app, flatT_one, List.length_append]
  exact h
theorem flatT_one' (l : List Tk) : ∀ u ∈ flatT l, u.oneCell' = true := by
  induction l with
  | nil => intro u hu; simp [flatT] at hu
  | cons x r ih =>
    intro u hu
    simp only [flatT, List.mem_append] at hu
    rcases hu with hu | hu
    · exact encT_one x u hu
    · exact ih u hu
/-- A given slice of tasks, cell by cell. -/
theorem tasks_cells {w : World} {B n c : Nat} {ad : Addr} {l : List Tk} (h : Tasks w B (.slice (some ad) n c) l) : n = l.length ∧ ∀ j u, (flatT l)[j]? = some u → w.cell? (ad.add j) = some u := by
  obtain ⟨a, c2, e, -, -, h3⟩ := h
  simp only [Value.slice.injEq] at e
  obtain ⟨rfl, rfl, rfl⟩ := e
  refine ⟨rfl, fun j u hj => ?_⟩
  have hlt : j < l.length * 9 := by
    rw [← flatT_len]
    exact (List.getElem?_eq_some_iff.1 hj).1
  obtain ⟨b, off, e2, -, hc⟩ := h3 (by omega)
  obtain rfl := Option.some.inj e2
  have hi : j / 9 < l.length := by omega
  obtain ⟨k0, k1, k2, k3, k4, k5, k6, k7, k8⟩ := hc (j / 9) hi
  have m := flatT_at l (j / 9) hi (j % 9) (Nat.mod_lt _ (by omega))
  rw [show j / 9 * 9 + j % 9 = j by omega, hj] at m
  rw [Addr.add_lit]
  have hr : j % 9 = 0 ∨ j % 9 = 1 ∨ j % 9 = 2 ∨ j % 9 = 3 ∨ j % 9 = 4 ∨ j % 9 = 5 ∨ j % 9 = 6 ∨ j % 9 = 7 ∨ j % 9 = 8 := by omega
  rcases hr with h0 | h0 | h0 | h0 | h0 | h0 | h0 | h0 | h0
  · rw [show off + j = off + j / 9 * 9 by omega, k0, m, h0]; rfl
  · rw [show off + j = off + j / 9 * 9 + 1 by omega, k1, m, h0]; rfl
  · rw [show off + j = off + j / 9 * 9 + 2 by omega, k2, m, h0]; rfl
  · rw [show off + j = off + j / 9 * 9 + 3 by omega, k3, m, h0]; rfl
  · rw [show off + j = off + j / 9 * 9 + 4 by omega, k4, m, h0]; rfl
  · rw [show off + j = off + j / 9 * 9 + 5 by omega, k5, m, h0]; rfl
  · rw [show off + j = off + j / 9 * 9 + 6 by omega, k6, m, h0]; rfl
  · rw [show off + j = off + j / 9 * 9 + 7 by omega, k7, m, h0]; rfl
  · rw [show off + j = off + j / 9 * 9 + 8 by omega, k8, m, h0]; rfl
theorem own_empty (w : World) (base : Nat) (e : TypeId) (size : Nat) (hb : base ≤ w.heap.size) : (w.alloc (.cells #[] e)).ownsRow base e size (.slice (some ⟨w.heap.size, 0, none⟩) 0 0) 0 [] :=
  ⟨by simp, .inr ⟨w.heap.size, 0, #[], rfl, hb, heap_alloc_new w _, Nat.le_refl _, by unfold maxLen; omega, by simp, by simp⟩⟩
theorem OwnT.made (w : World) (base : Nat) (hb : base ≤ w.heap.size) : OwnT (w.alloc (.cells #[] 42)) base (.slice (some ⟨w.heap.size, 0, none⟩) 0 0) [] := own_empty w base _ 9 hb
theorem OwnT.al {w : World} {base : Nat} {v : Value} {l : List Tk} (h : OwnT w base v l) (o : Obj) : OwnT (w.alloc o) base v l := h.keep ((Below.refl _ _).alloc (Nat.le_refl _) _)
theorem OwnT.drew {w : World} {base : Nat} {v : Value} {l : List Tk} (h : OwnT w base v l) : OwnT w.drew base v l := h
theorem news_new (w : World) (t : TypeId) (l : List Value) : ∀ j u, l[j]? = some u → (w.alloc (.cells l.toArray t)).cell? ((⟨w.heap.size, 0, none⟩ : Addr).add j) = some u := by
  intro j u hu
  rw [Addr.add_lit, Nat.zero_add]
  simpa [go_sem] using hu
/-- An append of tasks onto a row of one's own, within a region. -/
theorem step_rows {ops : Array Oper} {o : Oper} {a : Act} {w W : World} {K : Act → World → Prop} {Q : Exit → Act → World → Prop} {E : Prop} (hgd : o.guard = none) (s x : Operand)
    (ho : o.op = .call { callee := .builtin .append, args := #[s, x], argTypes := #[23, 23] })
    (base : Nat) (hbase : base ≤ w.heap.size) (l m : List Tk) (v : Value) (hs : a.eval s = v) (hown : OwnT w base v l) (ad : Addr) (n c : Nat) (hx : a.eval x = .slice (some ad) n c) (hn : n = m.length)
    (hc : ∀ j u, (flatT m)[j]? = some u → w.cell? (ad.add j) = some u) (hl : (l.length + m.length) * 128 ≤ 140737488355328) (hW : Below base W w)
    (h : ∀ v' w', OwnT w' base v' (l ++ m) → Below base W w' → w.grownBy w' v.ownBlock → K (a.put o.dst v') w') :
    if Region.wanted o (yielded ops a.tmps) = true then Oper.wp Tryz.prog o a w K Q else E := by
  have hw : Region.wanted o (yielded ops a.tmps) = true := by simp [Region.wanted, hgd]
  rw [if_pos hw]
  subst hn
  obtain ⟨i0, hi, hq0, hq1, hq2⟩ := info_parts info_task
  refine wp_append_own w s x _ ho base 42 i0 _ 9 128 Tryz.underlying23 hi hq0 hq1 hq2 rfl (by omega) v l.length (flatT l) hs hown ad m.length c (flatT m) hx (flatT_len m) hc (flatT_one' m) (by simp only [maxLen]; omega) hl hbase ?_
  intro v' w' hown' hg _
  refine h v' w' ?_ (hW.grown hg hbase (fun k hk => (hown.lt k hk).1)) hg
  unfold OwnT
  rw [flatT_app, List.length_append]
  exact hown'
end Rg
end Go.Proofs.YthbmnkeigmbbdaaGreat
