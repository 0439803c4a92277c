/-
  LOADS OF THE CALL's OWN; loads the other way round.
-/
import Derived.Test.YthnajkpnchaciaaScoreWithin
import Derived.Laws.OwnMore
import Derived.Deep.OwnRows
import Derived.Lib.SmallJoins
import Derived.Laws.AppendOwnNone
namespace Go.Proofs.Ythnajkpnchaciaa
open Go.RowKit Go.Lib Go.Sort
namespace Rg
def encL (x : Ld) : List Value := [.string x.n, .int .i64 x.h0, .int .i64 x.h1, .int .i64 x.h2, .slice x.la x.ls.length x.lc, .slice x.ta x.ts.length x.tc, .int .i64 x.u0, .int .i64 x.u1, .int .i64 x.u2]
def flatL : List Ld → List Value
  | [] => []
  | x :: r => encL x ++ flatL r
theorem flatL_len (l : List Ld) : (flatL l).length = l.length * 9 := by
  induction l with
  | nil => rfl
  | cons x r ih => simp [flatL, encL, ih]; omega
theorem flatL_app (a b : List Ld) : flatL (a ++ b) = flatL a ++ flatL b := by
  induction a with
  | nil => rfl
  | cons x r ih => simp [flatL, ih]
theorem flatL_one (x : Ld) : flatL [x] = encL x := by simp [flatL]
theorem encL_one (x : Ld) : ∀ u ∈ encL x, u.oneCell' = true := by
  intro u hu
  simp only [encL, List.mem_cons, List.not_mem_nil, or_false] at hu
  rcases hu with rfl | rfl | rfl | rfl | rfl | rfl | rfl | rfl | rfl <;> rfl
theorem encL_len (x : Ld) : (encL x).length = 1 * 9 := rfl
theorem flatL_at (l : List Ld) : ∀ i (h : i < l.length), ∀ j, j < 9 → (flatL l)[i * 9 + j]? = (encL l[i])[j]? := by
  induction l with
  | nil => intro i h; simp at h
  | cons x r ih =>
    intro i h j hj
    cases i with
    | zero =>
      simp only [flatL, List.getElem_cons_zero]
      rw [List.getElem?_append_left (by rw [encL_len]; omega)]
      congr 1
      omega
    | succ i =>
      have := ih i (by simpa using h) j hj
      simp only [flatL, List.getElem_cons_succ]
      rw [List.getElem?_append_right (by rw [encL_len]; omega), encL_len, ← this]
      congr 1
      omega
theorem info_load : (Try.prog.info? 29).map (fun i => (i.zero, i.size, i.bytes)) = some (some (.agg #[.string ByteArray.empty, .int .i64 0, .int .i64 0, .int .i64 0, .slice none 0 0, .slice none 0 0, .int .i64 0, .int .i64 0, .int .i64 0]), 9, 112) := by kernel_rfl
def OwnL (w : World) (base : Nat) (v : Value) (l : List Ld) : Prop := w.ownsRow base 29 9 v l.length (flatL l)
theorem OwnL.form {w : World} {base : Nat} {v : Value} {l : List Ld} (h : OwnL w base v l) (hn : 0 < l.length) : ∃ g cap, v = .slice (some ⟨g, 0, none⟩) l.length cap ∧ base ≤ g ∧ g < w.heap.size ∧
    (∀ i (hi : i < l.length) j, j < 9 → w.cell? ⟨g, i * 9 + j, none⟩ = (encL l[i])[j]?) := by
  rcases h.2 with ⟨_, h0⟩ | ⟨g, cap, cur, rfl, hb, hg, h1, h2, h3, h4⟩
  · omega
  · refine ⟨g, cap, rfl, hb, (Array.getElem?_eq_some_iff.1 hg).1, fun i hi j hj => ?_⟩
    have f1 := flatL_at l i hi j hj
    have hlt : i * 9 + j < l.length * 9 := by omega
    rw [cell_of_row w g _ cur _ (0, 0) hg, ← f1, ← h4, List.getElem?_take, if_pos hlt]
    simp
theorem OwnL.slice {w : World} {base : Nat} {v : Value} {l : List Ld} (h : OwnL w base v l) : ∃ a c, v = .slice a l.length c := by
  rcases h.2 with ⟨rfl, h0⟩ | ⟨g, cap, cur, rfl, _⟩
  · exact ⟨none, 0, by rw [h0]⟩
  · exact ⟨_, _, rfl⟩
theorem OwnL.keep {w w' : World} {base : Nat} {v : Value} {l : List Ld} (h : OwnL w base v l) (hb : Below w.heap.size w w') : OwnL w' base v l := by
  refine ⟨h.1, h.2.elim Or.inl fun ⟨g, cap, cur, e, h1, h2, r⟩ => Or.inr ⟨g, cap, cur, e, h1, ?_, r⟩⟩
  rw [hb.block g (Array.getElem?_eq_some_iff.1 h2).1]
  exact h2
theorem OwnL.loads {w : World} {base : Nat} {v : Value} {l : List Ld} (h : OwnL w base v l) (hl : l.length ≤ 4611686018427387904)
    (hm : ∀ x ∈ l, x.n.size ≤ maxLen ∧ Pairs w w.heap.size (.slice x.la x.ls.length x.lc) x.ls ∧ Pairs w w.heap.size (.slice x.ta x.ts.length x.tc) x.ts) : Loads w w.heap.size v l := by
  by_cases hn : 0 < l.length
  · obtain ⟨g, cap, rfl, hb, hg, hc⟩ := h.form hn
    refine ⟨_, _, rfl, hl, hm, fun _ => ⟨g, 0, rfl, hg, fun i hi => ?_⟩⟩
    rw [Nat.zero_add]
    exact ⟨hc i hi 0 (by omega), hc i hi 1 (by omega), hc i hi 2 (by omega), hc i hi 3 (by omega), hc i hi 4 (by omega), hc i hi 5 (by omega), hc i hi 6 (by omega), hc i hi 7 (by omega), hc i hi 8 (by omega)⟩
  · have h0 : l = [] := List.eq_nil_of_length_eq_zero (by omega)
    subst h0
    obtain ⟨a, c, rfl⟩ := h.slice
    exact ⟨_, _, rfl, by simp, by simp, fun h => absurd h (by simp)⟩
theorem OwnL.more {w : World} {base : Nat} {v : Value} {l : List Ld} {x : Ld} (h : w.ownsRow base 29 9 v (l.length + 1) (flatL l ++ encL x)) : OwnL w base v (l ++ [x]) := by
  unfold OwnL
  rw [flatL_app, flatL_one, List.length_append]
  exact h
theorem row_slice {w : World} {base : Nat} {e : TypeId} {size n : Nat} {v : Value} {xs : List Value} (h : w.ownsRow base e size v n xs) : ∃ a c, v = .slice a n c := by
  rcases h.2 with ⟨rfl, rfl⟩ | ⟨g, cap, cur, rfl, _⟩
  · exact ⟨none, 0, rfl⟩
  · exact ⟨_, _, rfl⟩
theorem row_cells {w : World} {base k : Nat} {a1 : Option Addr} {c1 : Nat} {r : List Ld} (h : w.ownsRow base 29 9 (.slice a1 k c1) k (flatL (r.take k))) (hk : k ≤ r.length) (m : Nat) (hm : m < k) :
    ∃ g, a1 = some ⟨g, 0, none⟩ ∧ g < w.heap.size ∧ ∀ j, j < 9 → w.cell? ⟨g, m * 9 + j, none⟩ = (encL (r[m]'(by omega)))[j]? := by
  have hl : (r.take k).length = k := by simp; omega
  have ho : OwnL w base (.slice a1 k c1) (r.take k) := by unfold OwnL; rw [hl]; exact h
  obtain ⟨g, cap, e, -, hg, hc⟩ := ho.form (by omega)
  rw [hl] at e
  simp only [Value.slice.injEq] at e
  refine ⟨g, e.1, hg, fun j hj => ?_⟩
  have := hc m (by omega) j hj
  rw [List.getElem_take] at this
  exact this
theorem row_below {w w' : World} {base : Nat} {e : TypeId} {size n : Nat} {v : Value} {xs : List Value} (h : w.ownsRow base e size v n xs) (hb : Below w.heap.size w w') : w'.ownsRow base e size v n xs := by
  refine ⟨h.1, h.2.elim Or.inl fun ⟨g, cap, cur, e, h1, h2, r⟩ => Or.inr ⟨g, cap, cur, e, h1, ?_, r⟩⟩
  rw [hb.block g (Array.getElem?_eq_some_iff.1 h2).1]
  exact h2
theorem news_new (w : World) (t : TypeId) (l : List Value) : ∀ j u, l[j]? = some u → (w.alloc (.cells l.toArray t)).cell? ((⟨w.heap.size, 0, none⟩ : Addr).add j) = some u := by
  intro j u hu
  rw [Addr.add_lit, Nat.zero_add]
  simpa [go_sem] using hu
/-- Whether all names of the first k are unlike. -/
def apI (r : List Ld) (nm : ByteArray) (m : Nat) : Bool := (List.range m).all fun i => !((nmK r i).toList == nm.toList)
def apR (r : List Ld) (k : Nat) : Bool := (List.range k).all fun j => apI r (nmK r j) j
theorem apI_succ (r : List Ld) (nm : ByteArray) (m : Nat) : apI r nm (m + 1) = (apI r nm m && !((nmK r m).toList == nm.toList)) := by
  unfold apI; rw [List.range_succ, List.all_append]; simp
theorem apR_succ (r : List Ld) (k : Nat) : apR r (k + 1) = (apR r k && apI r (nmK r k) k) := by
  unfold apR; rw [List.range_succ, List.all_append]; simp
theorem apR_ne (r : List Ld) (k : Nat) (h : apR r k = true) (i j : Nat) (hij : i < j) (hj : j < k) : (nmK r i).toList ≠ (nmK r j).toList := by
  unfold apR at h
  have h1 := List.all_eq_true.1 h j (by simp; omega)
  unfold apI at h1
  have h2 := List.all_eq_true.1 h1 i (by simp; omega)
  simpa using h2
theorem bestE_zero (te : Nat) (D E : Ld → Nat) (V : Ld → Int) (l : List Ld) : bestE te D E V l = 0 ↔ te = 0 ∧ (∀ x ∈ l, D x = 0) ∧ ∃ x ∈ l, E x = 0 := by
  constructor
  · intro h
    obtain ⟨hb, he, -⟩ := best_some te D E V l h
    unfold bestE at h
    split at h
    · rename_i ht
      split at h
      · rename_i hbad
        refine ⟨ht, fun x hx => ?_, _, List.getElem_mem hb, he⟩
        obtain ⟨i, hi, rfl⟩ := List.getElem_of_mem hx
        exact bad_zero D l hbad i hi
      · omega
    · omega
  · rintro ⟨rfl, hd, x, hx, he⟩
    have hbad := badK_all D l (fun i hi => hd _ (List.getElem_mem hi)) l.length (Nat.le_refl _)
    obtain ⟨i, hi, rfl⟩ := List.getElem_of_mem hx
    unfold bestE
    rw [if_pos rfl, if_pos hbad]
    cases hn : bestN E V l l.length with
    | some b => rfl
    | none =>
      exact absurd he (by
        have := bestK_none _ _ _ _ hn i hi
        unfold okK at this
        rw [List.getElem?_eq_getElem hi] at this
        simpa using this)
theorem bestE_turned (te : Nat) (D E : Ld → Nat) (V : Ld → Int) (l : List Ld) : bestE te D E V l.reverse = 0 ↔ bestE te D E V l = 0 := by
  rw [bestE_zero, bestE_zero]
  simp
theorem lt_tr (a b c : List UInt8) (h : Op.bytesLess a b = true) (h2 : Op.bytesLess b c = true) : Op.bytesLess a c = true := by
  rw [Go.Proofs.bytesLess_eq] at *
  simp only [decide_eq_true_eq] at *
  exact List.lt_trans h h2
/-- The best's name is less than that of each other one of its score, if all names are unlike. -/
theorem best_less (te : Nat) (D E : Ld → Nat) (V : Ld → Int) (l : List Ld) (h : bestE te D E V l = 0) (hap : ∀ i j, i < j → j < l.length → (nmK l i).toList ≠ (nmK l j).toList) (i : Nat) (hi : i < l.length) (he : E l[i] = 0) (hv : vK V l i = vK V l (bestV te D E V l)) (hne : i ≠ bestV te D E V l) : ltK l (bestV te D E V l) i = true := by
  have hbv : bestV te D E V l = (bestN E V l l.length).getD 0 := if_pos h
  unfold bestE at h
  split at h
  · split at h
    · cases hn : bestN E V l l.length with
      | none => rw [hn] at h; cases h
      | some b =>
        rw [hn] at hbv
        have hbv' : bestV te D E V l = b := hbv
        rw [hbv'] at hv hne ⊢
        refine bestK_name (okK E l) (vK V l) (ltK l) l.length (fun i j hi hj hij => ?_) (fun i j m h1 h2 => lt_tr _ _ _ h1 h2) _ (Nat.le_refl _) b hn i hi (by unfold okK; rw [List.getElem?_eq_getElem hi]; simpa using he) hv hne
        have hnm : (nmK l i).toList ≠ (nmK l j).toList := by
          rcases Nat.lt_or_gt_of_ne hij with h | h
          · exact hap i j h hj
          · exact (hap j i h hi).symm
        unfold ltK
        cases h1 : Op.bytesLess (nmK l j).toList (nmK l i).toList
        · cases h2 : Op.bytesLess (nmK l i).toList (nmK l j).toList
          · exact absurd (lt_con _ _ h2 h1) hnm
          · rfl
        · rw [lt_asym _ _ h1]; rfl
    · omega
  · omega
theorem nmK_rev (l : List Ld) (i : Nat) (h : i < l.length) : nmK l.reverse i = nmK l (l.length - 1 - i) := by
  unfold nmK; rw [List.getElem?_reverse h]
theorem vK_rev (V : Ld → Int) (l : List Ld) (i : Nat) (h : i < l.length) : vK V l.reverse i = vK V l (l.length - 1 - i) := by
  unfold vK; rw [List.getElem?_reverse h]
theorem best_turned (te : Nat) (D E : Ld → Nat) (V : Ld → Int) (l : List Ld) (h : bestE te D E V l = 0) (hap : apR l.reverse l.length = true) :
    bestV te D E V l < l.length ∧ bestV te D E V l.reverse + 1 + bestV te D E V l = l.length := by
  have hr := (bestE_turned te D E V l).2 h
  obtain ⟨ha, hea, hma⟩ := best_some te D E V l h
  obtain ⟨hb, heb, hmb⟩ := best_some te D E V l.reverse hr
  have hapr : ∀ i j, i < j → j < l.reverse.length → (nmK l.reverse i).toList ≠ (nmK l.reverse j).toList := fun i j h1 h2 => apR_ne _ _ hap i j h1 (by simpa using h2)
  have hapl : ∀ i j, i < j → j < l.length → (nmK l i).toList ≠ (nmK l j).toList := by
    intro i j h1 h2
    have := apR_ne _ _ hap (l.length - 1 - j) (l.length - 1 - i) (by omega) (by omega)
    rw [nmK_rev l _ (by omega), nmK_rev l _ (by omega), show l.length - 1 - (l.length - 1 - j) = j by omega, show l.length - 1 - (l.length - 1 - i) = i by omega] at this
    exact this.symm
  refine ⟨ha, ?_⟩
  have L1 := best_less te D E V l h hapl
  have L2 := best_less te D E V l.reverse hr hapr
  generalize bestV te D E V l = a at *
  generalize bestV te D E V l.reverse = b at *
  have hb' : b < l.length := by simpa using hb
  apply Decidable.byContradiction
  intro hne
  have e1 : l.reverse[b] = l[l.length - 1 - b] := List.getElem_reverse hb
  have ha2 : l.length - 1 - a < l.reverse.length := by simp; omega
  have e2 : l.reverse[l.length - 1 - a] = l[a] := by
    rw [List.getElem_reverse ha2]
    congr 1
    omega
  rw [e1] at heb
  have v1 : vK V l a = V l[a] := by unfold vK; rw [List.getElem?_eq_getElem ha]
  have v2 : vK V l (l.length - 1 - b) = V l[l.length - 1 - b] := by unfold vK; rw [List.getElem?_eq_getElem (by omega)]
  have m1 := hma (l.length - 1 - b) (by omega) heb
  have m2 := hmb (l.length - 1 - a) ha2 (by rw [e2]; exact hea)
  rw [e1, e2] at m2
  have l1 := L1 (l.length - 1 - b) (by omega) heb (by rw [v1, v2]; omega) (by omega)
  have l2 := L2 (l.length - 1 - a) ha2 (by rw [e2]; exact hea) (by rw [vK_rev V l _ (by omega), vK_rev V l _ hb', show l.length - 1 - (l.length - 1 - a) = a by omega, v1, v2]; omega) (by omega)
  unfold ltK at l1 l2
  rw [nmK_rev l _ hb', nmK_rev l _ (by omega), show l.length - 1 - (l.length - 1 - a) = a by omega] at l2
  have := lt_asym _ _ l1
  rw [l2] at this
  cases this
end Rg
end Go.Proofs.Ythnajkpnchaciaa
