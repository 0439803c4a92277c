/-
  MAJORITIES: the mathematics.
-/
import Derived.Test.YtndihliagcgdeaaLogMath
namespace Go.Proofs.Ytndihliagcgdeaa
namespace Qu
open Lo
def hasI (l : List Int) (n : Int) : Bool := l.any (fun x => x == n)
theorem hasI_at (l : List Int) (k : Nat) (h : k < l.length) (n : Int) : hasI (l.drop k) n = (l[k] == n || hasI (l.drop (k + 1)) n) := by
  rw [List.drop_eq_getElem_cons h]; rfl
theorem hasI_end (l : List Int) (n : Int) : hasI (l.drop l.length) n = false := by
  rw [List.drop_length]; rfl
theorem hasI_mem {l : List Int} {n : Int} : hasI l n = true ↔ n ∈ l := by
  unfold hasI
  rw [List.any_eq_true]
  constructor
  · rintro ⟨x, hx, he⟩
    have := eq_of_beq he
    subst this
    exact hx
  · intro h
    exact ⟨n, h, by simp⟩
def cnt (f : Int → Bool) (l : List Int) : Nat := l.countP f
theorem cnt_at (f : Int → Bool) (l : List Int) (k : Nat) (h : k < l.length) : cnt f (l.take (k + 1)) = cnt f (l.take k) + if f l[k] = true then 1 else 0 := by
  unfold cnt
  rw [List.take_succ_eq_append_getElem h, List.countP_append, List.countP_singleton]
theorem cnt_le (f : Int → Bool) (l : List Int) : cnt f l ≤ l.length := List.countP_le_length
theorem cnt_take (f : Int → Bool) (l : List Int) (k : Nat) : cnt f (l.take k) ≤ k := by
  have := cnt_le f (l.take k)
  rw [List.length_take] at this
  omega
theorem cnt_congr {f g : Int → Bool} {l : List Int} (h : ∀ m ∈ l, f m = g m) : cnt f l = cnt g l := List.countP_congr fun m hm => by rw [h m hm]
theorem cnt_mono {f g : Int → Bool} {l : List Int} (h : ∀ m ∈ l, f m = true → g m = true) : cnt f l ≤ cnt g l := List.countP_mono_left h
theorem cnt_all {f : Int → Bool} {l : List Int} (h : ∀ m ∈ l, f m = true) : cnt f l = l.length := List.countP_eq_length.2 h
theorem cnt_not (f : Int → Bool) (l : List Int) : cnt (fun m => !f m) l + cnt f l = l.length := by
  induction l with
  | nil => rfl
  | cons a r ih =>
    unfold cnt at *
    rw [List.countP_cons, List.countP_cons, List.length_cons]
    cases f a <;> simp <;> omega
theorem cnt_both (f g : Int → Bool) (l : List Int) : cnt f l + cnt g l ≤ l.length + cnt (fun m => f m && g m) l := by
  induction l with
  | nil => simp [cnt]
  | cons a r ih =>
    unfold cnt at *
    rw [List.countP_cons, List.countP_cons, List.countP_cons, List.length_cons]
    cases f a <;> cases g a <;> simp <;> omega
theorem cnt_pos {f : Int → Bool} {l : List Int} (h : 0 < cnt f l) : ∃ m ∈ l, f m = true := List.countP_pos_iff.1 h
def mostF (f : Int → Bool) (ks : List Int) : Bool := decide (ks.length / 2 < cnt f ks)
theorem most_iff {f : Int → Bool} {ks : List Int} : mostF f ks = true ↔ ks.length / 2 < cnt f ks := by unfold mostF; simp
theorem most_mono {f g : Int → Bool} {ks : List Int} (h : ∀ m ∈ ks, f m = true → g m = true) (hm : mostF f ks = true) : mostF g ks = true := by
  rw [most_iff] at *
  have := cnt_mono h
  omega
theorem most_congr {f g : Int → Bool} {ks : List Int} (h : ∀ m ∈ ks, f m = g m) : mostF f ks = mostF g ks := by
  unfold mostF
  rw [cnt_congr h]
def mostB (ks so : List Int) : Bool := rmB ks && mostF (hasI so) ks
structure Pe where
  id : Int
  nx : Nat
  ma : Nat
def mat : List Pe → Int → Nat
  | [], _ => 0
  | p :: r, m => if p.id = m then p.ma else mat r m
theorem mat_at (l : List Pe) (k : Nat) (h : k < l.length) (m : Int) : mat (l.drop k) m = if l[k].id = m then l[k].ma else mat (l.drop (k + 1)) m := by
  rw [List.drop_eq_getElem_cons h, mat]
theorem mat_end (l : List Pe) (m : Int) : mat (l.drop l.length) m = 0 := by
  rw [List.drop_length]; rfl
def upt (id : Int) (en : Nat) (l : List Pe) (m : Int) : Nat := if m = id then en else mat l m
def geF (f : Int → Nat) (n : Nat) (m : Int) : Bool := decide (n ≤ f m)
def stp (f : Int → Nat) (ks : List Int) (m : Int) (b : Nat) : Nat := if b < f m then (if mostF (geF f (f m)) ks = true then f m else b) else b
def stl (f : Int → Nat) (ks : List Int) : List Int → Nat → Nat
  | [], b => b
  | m :: r, b => stl f ks r (stp f ks m b)
theorem stl_at (f : Int → Nat) (ks l : List Int) (k : Nat) (h : k < l.length) (b : Nat) : stl f ks (l.drop k) b = stl f ks (l.drop (k + 1)) (stp f ks l[k] b) := by
  rw [List.drop_eq_getElem_cons h, stl]
theorem stl_end (f : Int → Nat) (ks l : List Int) (b : Nat) : stl f ks (l.drop l.length) b = b := by
  rw [List.drop_length]; rfl
def setB (ks : List Int) (id : Int) (en : Nat) (l : List Pe) : Nat := if rmB ks = true then stl (upt id en l) ks ks 0 else 0
def nextE (nw th : List Int) : Nat := if rmB nw = true then (if rmB th = true then (if (nw.length : Int) - cnt (hasI th) nw + th.length - cnt (hasI th) nw = 1 then 0 else 1) else 4) else 4
/-- Members rise, so that none is there twice. -/
theorem rm_rise : ∀ (ks : List Int) (la : Int), rmF la ks = true → (∀ x ∈ ks, la < x ∧ x ≤ 7) ∧ ks.Nodup
  | [], _, _ => ⟨by simp, List.nodup_nil⟩
  | k :: r, la, h => by
    unfold rmF at h
    by_cases h1 : k ≤ la
    · rw [if_pos h1] at h; cases h
    · by_cases h2 : 7 < k
      · rw [if_neg h1, if_pos h2] at h; cases h
      · rw [if_neg h1, if_neg h2] at h
        obtain ⟨i1, i2⟩ := rm_rise r k h
        refine ⟨fun x hx => ?_, List.nodup_cons.2 ⟨fun hk => ?_, i2⟩⟩
        · rcases List.mem_cons.1 hx with rfl | hx
          · omega
          · have := i1 x hx; omega
        · have := i1 k hk; omega
theorem rm_nodup {ks : List Int} (h : rmB ks = true) : ks.Nodup := by
  unfold rmB at h
  rw [Bool.and_eq_true] at h
  exact (rm_rise ks 0 h.1).2
theorem rm_pos {ks : List Int} (h : rmB ks = true) : 0 < ks.length := by
  unfold rmB at h
  rw [Bool.and_eq_true, decide_eq_true_eq] at h
  exact h.2
theorem pigeon : ∀ (a b : List Int), a.Nodup → (∀ x ∈ a, x ∈ b) → a.length ≤ b.length
  | [], _, _, _ => Nat.zero_le _
  | x :: r, b, hn, hs => by
    obtain ⟨h1, h2⟩ := List.nodup_cons.1 hn
    have hx := hs x (by simp)
    have := pigeon r (b.erase x) h2 (fun y hy => (List.mem_erase_of_ne (by intro e; subst e; exact h1 hy)).2 (hs y (by simp [hy])))
    rw [List.length_erase_of_mem hx] at this
    have := List.length_pos_of_mem hx
    rw [List.length_cons]
    omega
theorem cnt_swap_le (f : Int → Bool) {x y : List Int} (hx : x.Nodup) : cnt (fun m => f m && hasI y m) x ≤ cnt (fun m => f m && hasI x m) y := by
  unfold cnt
  rw [List.countP_eq_length_filter, List.countP_eq_length_filter]
  refine pigeon _ _ (hx.filter _) fun m hm => ?_
  rw [List.mem_filter, Bool.and_eq_true, hasI_mem] at *
  exact ⟨hm.2.2, hm.2.1, hm.1⟩
theorem cnt_swap (f : Int → Bool) {x y : List Int} (hx : x.Nodup) (hy : y.Nodup) : cnt (fun m => f m && hasI y m) x = cnt (fun m => f m && hasI x m) y :=
  Nat.le_antisymm (cnt_swap_le f hx) (cnt_swap_le f hy)
theorem cnt_swap0 {x y : List Int} (hx : x.Nodup) (hy : y.Nodup) : cnt (hasI y) x = cnt (hasI x) y := by
  have := cnt_swap (fun _ => true) hx hy
  simpa using this
/-- The document counts who is in one of both alone. -/
theorem next_is (nw th : List Int) (h1 : rmB nw = true) (h2 : rmB th = true) : ((nw.length : Int) - cnt (hasI th) nw + th.length - cnt (hasI th) nw = 1) ↔ cnt (fun m => !hasI th m) nw + cnt (fun m => !hasI nw m) th = 1 := by
  have a := cnt_not (hasI th) nw
  have b := cnt_not (hasI nw) th
  have c := cnt_swap0 (rm_nodup h1) (rm_nodup h2)
  omega
theorem next_back (nw th : List Int) : nextE nw th = nextE th nw := by
  unfold nextE
  cases h1 : rmB nw <;> cases h2 : rmB th <;> simp
  have c := cnt_swap0 (rm_nodup h1) (rm_nodup h2)
  rw [c]
  congr 1
  rw [eq_iff_iff]
  omega
/-- 15.4: two majorities have someone in common. -/
theorem shared {nw th a b : List Int} (h1 : mostB nw a = true) (h2 : mostB th b = true) (h : nw = th ∨ nextE nw th = 0) : ∃ m ∈ nw, (hasI a m && hasI b m && hasI th m) = true := by
  unfold mostB at h1 h2
  rw [Bool.and_eq_true, most_iff] at h1 h2
  rcases h with rfl | h
  · have := cnt_both (hasI a) (hasI b) nw
    obtain ⟨m, hm, e⟩ := cnt_pos (f := fun m => hasI a m && hasI b m) (l := nw) (by omega)
    exact ⟨m, hm, by rw [Bool.and_eq_true]; exact ⟨e, hasI_mem.2 hm⟩⟩
  · unfold nextE at h
    rw [if_pos h1.1, if_pos h2.1] at h
    have hn : (nw.length : Int) - cnt (hasI th) nw + th.length - cnt (hasI th) nw = 1 := by
      by_cases e : (nw.length : Int) - cnt (hasI th) nw + th.length - cnt (hasI th) nw = 1
      · exact e
      · rw [if_neg e] at h; cases h
    have c := cnt_swap0 (rm_nodup h1.1) (rm_nodup h2.1)
    have d := cnt_swap (hasI b) (rm_nodup h1.1) (rm_nodup h2.1)
    have e1 := cnt_both (hasI a) (hasI th) nw
    have e2 := cnt_both (hasI b) (hasI nw) th
    -- among those that are members of both
    have f1 := cnt_both (fun m => hasI a m && hasI th m) (fun m => hasI b m && hasI th m) (nw.filter (hasI th))
    have g1 : cnt (fun m => hasI a m && hasI th m) (nw.filter (hasI th)) = cnt (fun m => hasI a m && hasI th m) nw := by
      unfold cnt
      rw [List.countP_filter]
      exact List.countP_congr fun m _ => by simp
    have g2 : cnt (fun m => hasI b m && hasI th m) (nw.filter (hasI th)) = cnt (fun m => hasI b m && hasI th m) nw := by
      unfold cnt
      rw [List.countP_filter]
      exact List.countP_congr fun m _ => by simp
    have g3 : (nw.filter (hasI th)).length = cnt (hasI th) nw := by
      unfold cnt
      rw [List.countP_eq_length_filter]
    have l1 := cnt_le (hasI th) nw
    have l2 := cnt_le (hasI nw) th
    obtain ⟨m, hm, e⟩ := cnt_pos (f := fun m => (hasI a m && hasI th m) && (hasI b m && hasI th m)) (l := nw.filter (hasI th)) (by omega)
    rw [List.mem_filter] at hm
    refine ⟨m, hm.1, ?_⟩
    simp only [Bool.and_eq_true] at e ⊢
    exact ⟨⟨e.1.1, e.2.1⟩, hm.2⟩
theorem stl_up (f : Int → Nat) (ks : List Int) : ∀ (l : List Int) (b : Nat), b ≤ stl f ks l b
  | [], _ => Nat.le_refl _
  | m :: r, b => by
    unfold stl
    refine Nat.le_trans ?_ (stl_up f ks r _)
    unfold stp
    split
    · split <;> omega
    · omega
theorem stl_ge (f : Int → Nat) (ks : List Int) : ∀ (l : List Int) (b : Nat), ∀ m ∈ l, mostF (geF f (f m)) ks = true → f m ≤ stl f ks l b
  | [], _, m, h, _ => absurd h (by simp)
  | k :: r, b, m, h, hm => by
    unfold stl
    rcases List.mem_cons.1 h with rfl | h
    · refine Nat.le_trans ?_ (stl_up f ks r _)
      unfold stp
      rw [if_pos hm]
      split <;> omega
    · exact stl_ge f ks r _ m h hm
theorem stl_is (f : Int → Nat) (ks : List Int) : ∀ (l : List Int) (b : Nat), stl f ks l b = b ∨ ∃ m ∈ l, stl f ks l b = f m ∧ mostF (geF f (f m)) ks = true
  | [], _ => .inl rfl
  | k :: r, b => by
    unfold stl
    rcases stl_is f ks r (stp f ks k b) with h | ⟨m, h1, h2⟩
    · rw [h]
      unfold stp
      by_cases h1 : b < f k
      · by_cases h2 : mostF (geF f (f k)) ks = true
        · rw [if_pos h1, if_pos h2]
          exact .inr ⟨k, by simp, rfl, h2⟩
        · rw [if_pos h1, if_neg h2]
          exact .inl rfl
      · rw [if_neg h1]
        exact .inl rfl
    · exact .inr ⟨m, by simp [h1], h2⟩
/-- Of some there is one that has least. -/
theorem least (f : Int → Nat) (g : Int → Bool) : ∀ (l : List Int), (∃ m ∈ l, g m = true) → ∃ m ∈ l, g m = true ∧ ∀ k ∈ l, g k = true → f m ≤ f k
  | [], h => by obtain ⟨m, hm, -⟩ := h; exact absurd hm (by simp)
  | x :: r, h => by
    by_cases hr : ∃ m ∈ r, g m = true
    · obtain ⟨m, h1, h2, h3⟩ := least f g r hr
      by_cases hx : g x = true ∧ f x < f m
      · refine ⟨x, by simp, hx.1, fun k hk hg => ?_⟩
        rcases List.mem_cons.1 hk with rfl | hk
        · exact Nat.le_refl _
        · have := h3 k hk hg; omega
      · refine ⟨m, by simp [h1], h2, fun k hk hg => ?_⟩
        rcases List.mem_cons.1 hk with rfl | hk
        · apply Nat.le_of_not_lt
          intro h4
          exact hx ⟨hg, h4⟩
        · exact h3 k hk hg
    · obtain ⟨m, hm, hg⟩ := h
      rcases List.mem_cons.1 hm with rfl | hm
      · refine ⟨m, by simp, hg, fun k hk hgk => ?_⟩
        rcases List.mem_cons.1 hk with rfl | hk
        · exact Nat.le_refl _
        · exact absurd ⟨k, hk, hgk⟩ hr
      · exact absurd ⟨m, hm, hg⟩ hr
/-- What a majority has is settled. -/
theorem stl_most (f : Int → Nat) (ks : List Int) (n : Nat) (h : mostF (geF f n) ks = true) : n ≤ stl f ks ks 0 := by
  have hp := most_iff.1 h
  obtain ⟨m, h1, h2, h3⟩ := least f (geF f n) ks (cnt_pos (by omega))
  have h4 : mostF (geF f (f m)) ks = true := most_mono (fun k hk hg => by unfold geF; rw [decide_eq_true_eq]; exact h3 k hk hg) h
  have h5 := stl_ge f ks ks 0 m h1 h4
  unfold geF at h2
  rw [decide_eq_true_eq] at h2
  omega
theorem stl_has (f : Int → Nat) (ks : List Int) (hp : 0 < ks.length) : mostF (geF f (stl f ks ks 0)) ks = true := by
  rcases stl_is f ks ks 0 with h | ⟨m, -, h1, h2⟩
  · rw [h, most_iff, cnt_all (fun m _ => by unfold geF; simp)]
    omega
  · rw [h1]
    exact h2
theorem stl_not (f : Int → Nat) (ks : List Int) : mostF (fun m => decide (stl f ks ks 0 < f m)) ks = false := by
  cases h : mostF (fun m => decide (stl f ks ks 0 < f m)) ks
  · rfl
  · have h2 : mostF (geF f (stl f ks ks 0 + 1)) ks = true := by
      rw [← h]
      exact most_congr fun m _ => rfl
    have := stl_most f ks _ h2
    omega
theorem stl_mono {f g : Int → Nat} (ks : List Int) (hp : 0 < ks.length) (h : ∀ m ∈ ks, f m ≤ g m) : stl f ks ks 0 ≤ stl g ks ks 0 :=
  stl_most g ks _ (most_mono (fun m hm hg => by unfold geF at *; rw [decide_eq_true_eq] at *; exact Nat.le_trans hg (h m hm)) (stl_has f ks hp))
/-- How many of members are among the first ones of them. -/
theorem cnt_firsts {ks : List Int} (h : ks.Nodup) (k : Nat) (hk : k ≤ ks.length) : cnt (hasI (ks.take k)) ks = k := by
  have e := cnt_swap0 h (h.sublist (List.take_sublist k ks))
  rw [e, cnt_all (fun m hm => hasI_mem.2 (List.mem_of_mem_take hm)), List.length_take]
  omega
end Qu
end Go.Proofs.Ytndihliagcgdeaa
