/-
  ENTRIES PUT BEHIND A ROW OF THE CALL'S OWN, part by part.
-/
import Derived.Test.YtjalmciaaenmjaaLogJoin
import Derived.Maps.AppendAt
namespace Go.Proofs.Ytjalmciaaenmjaa
open Go.RowKit Go.Lib
namespace Lo
theorem IntsR.grown {w w' : World} {A B : Nat} {v : Value} {ks : List Int} {own : Option Nat} (h : IntsR w A B v ks) (hg : w.grownBy w' own) (hne : ∀ g, own = some g → g < A ∨ B ≤ g) : IntsR w' A B v ks := by
  obtain ⟨a, c, rfl, h1, h2, h3⟩ := h
  refine ⟨a, c, rfl, h1, h2, fun hp => ?_⟩
  obtain ⟨b, off, rfl, hA, hlt, hc⟩ := h3 hp
  refine ⟨b, off, rfl, hA, hlt, fun i hi => hg.cell (hc i hi) ?_⟩
  intro e
  rcases hne b e.symm with h | h <;> omega
theorem own_keep {w w' : World} {base : Nat} {e : TypeId} {size n : Nat} {v : Value} {xs : List Value} (h : w.ownsRow base e size v n xs) (hb : Below w.heap.size w w') : w'.ownsRow base e size v n xs := by
  refine ⟨h.1, ?_⟩
  rcases h.2 with h2 | ⟨g, cap, cur, h3, h4, h5, h6⟩
  · exact .inl h2
  · exact .inr ⟨g, cap, cur, h3, h4, (hb.block g ((Array.getElem?_eq_some_iff.1 h5).1)).trans h5, h6⟩
/-- The members lie apart from the row. -/
def OkG (w : World) (base : Nat) (own : Option Nat) (ps : List (En × Value)) : Prop :=
  ∀ p ∈ ps, Lt64 p.1.i ∧ Lt64 p.1.t ∧ ∃ A B, IntsR w A B p.2 p.1.ks ∧ base ≤ A ∧ B ≤ w.heap.size ∧ ∀ g, own = some g → g < A ∨ B ≤ g
/-- v is a row of the call's own that holds the entries l. -/
def Gr (w : World) (base : Nat) (v : Value) (l : List En) : Prop :=
  ∃ ps : List (En × Value), ps.map (·.1) = l ∧ w.ownsRow base 53 5 v l.length (flatE ps) ∧ OkG w base v.ownBlock ps
theorem Gr.nil (w : World) (base : Nat) : Gr w base (.slice none 0 0) [] := ⟨[], rfl, ⟨rfl, .inl ⟨rfl, rfl⟩⟩, fun p hp => absurd hp (by simp)⟩
theorem Gr.below {w w' : World} {base : Nat} {v : Value} {l : List En} (h : Gr w base v l) (hb : Below w.heap.size w w') : Gr w' base v l := by
  obtain ⟨ps, h1, h2, h3⟩ := h
  refine ⟨ps, h1, own_keep h2 hb, fun p hp => ?_⟩
  obtain ⟨k1, k2, A, B, k3, k0, k4, k5⟩ := h3 p hp
  exact ⟨k1, k2, A, B, k3.keep (hb.mono k4), k0, Nat.le_trans k4 hb.size, k5⟩
theorem Gr.slice {w : World} {base : Nat} {v : Value} {l : List En} (h : Gr w base v l) : ∃ a c, v = .slice a l.length c := by
  obtain ⟨ps, h1, h2, h3⟩ := h
  rcases h2.2 with ⟨rfl, h0⟩ | ⟨g, cap, cur, rfl, _⟩
  · exact ⟨none, 0, by rw [h0]⟩
  · exact ⟨_, _, rfl⟩
theorem Gr.lt {w : World} {base : Nat} {v : Value} {l : List En} (h : Gr w base v l) : ∀ g, v.ownBlock = some g → base ≤ g ∧ g < w.heap.size := by
  obtain ⟨ps, -, h2, -⟩ := h
  exact h2.lt
theorem Gr.sl {w : World} {base : Nat} {a : Option Addr} {n c : Nat} {l : List En} (h : Gr w base (.slice a n c) l) (hl : l.length ≤ 2199023255551) : Sl w 0 w.heap.size a c l := by
  obtain ⟨ps, h1, h2, h3⟩ := h
  obtain ⟨a', c', e, r1, r2, r3⟩ := own_rowp (A := 0) (B := w.heap.size) h1 (fun p hp => by
    obtain ⟨k1, k2, A, B, k3, -, k4, -⟩ := h3 p hp
    exact ⟨k3.more k4 (Nat.zero_le _), k1, k2⟩) h2
  cases e
  exact r3.sl (Nat.le_refl _) r1 r2 hl
/-- As a slice whose memory is the call's own. -/
theorem Gr.slb {w : World} {base : Nat} {a : Option Addr} {n c : Nat} {l : List En} (h : Gr w base (.slice a n c) l) (hl : l.length ≤ 2199023255551) : Sl w base w.heap.size a c l := by
  obtain ⟨ps, h1, h2, h3⟩ := h
  obtain ⟨a', c', e, r1, r2, r3⟩ := own_rowp (A := base) (B := w.heap.size) h1 (fun p hp => by
    obtain ⟨k1, k2, A, B, k3, k0, k4, -⟩ := h3 p hp
    exact ⟨k3.more k4 k0, k1, k2⟩) h2
  cases e
  refine ⟨fun hp => ?_, r1, r2, hl⟩
  obtain ⟨g, rfl, hbg, hlt, hf, hc⟩ := r3 hp
  refine ⟨g, 0, rfl, hbg, hlt, fun i hi => ?_⟩
  rw [Nat.zero_add]
  exact hc i hi
/-- What an append asks and leaves. -/
theorem Gr.app {w : World} {base A c : Nat} {v : Value} {a : Option Addr} {l r : List En} (h : Gr w base v l) (ho : OwnS w A a c r) (hbA : base ≤ A) (hA : ∀ g, v.ownBlock = some g → g < A) :
    ∃ xs news, w.ownsRow base 53 5 v l.length xs ∧ news.length = r.length * 5 ∧ (∀ ad, a = some ad → ∀ j u, news[j]? = some u → w.cell? (ad.add j) = some u) ∧ (∀ u ∈ news, u.oneCell' = true) ∧
      ∀ (v' : Value) (w' : World), w'.ownsRow base 53 5 v' (l.length + r.length) (xs ++ news) → w.grownBy w' v.ownBlock → (v'.ownBlock = v.ownBlock ∨ v'.ownBlock = some w.heap.size) → Gr w' base v' (l ++ r) := by
  obtain ⟨ps, h1, h2, h3⟩ := h
  obtain ⟨qs, hq⟩ := Prs.of ho.sl.mem
  refine ⟨flatE ps, flatE qs, h2, by rw [flatE_len, hq.len], fun ad ha => hq.cells ad ha, flatE_one qs hq.one, fun v' w' k1 k2 k3 => ⟨ps ++ qs, by rw [List.map_append, h1, hq.fst], by rw [flatE_app, List.length_append]; exact k1, fun p hp => ?_⟩⟩
  rcases List.mem_append.1 hp with hp | hp
  · obtain ⟨i1, i2, A1, B1, i3, i0, i4, i5⟩ := h3 p hp
    refine ⟨i1, i2, A1, B1, i3.grown k2 i5, i0, Nat.le_trans i4 k2.size, fun g hg => ?_⟩
    rcases k3 with k3 | k3
    · exact i5 g (k3 ▸ hg)
    · rw [k3] at hg; cases hg; exact .inr i4
  · obtain ⟨i, hi, rfl⟩ := List.getElem_of_mem hp
    have hil : i < r.length := by have := hq.len; omega
    obtain ⟨g2, e2, hg2, -, -, hc⟩ := ho.row (by omega)
    obtain ⟨u, hu, -⟩ := hc i hil
    have hfst : qs[i].1 = r[i] := by
      have := congrArg (fun x : List En => x[i]?) hq.fst
      simp only [List.getElem?_map, List.getElem?_eq_getElem hi, List.getElem?_eq_getElem hil, Option.map_some] at this
      exact Option.some.inj this
    obtain ⟨b0, o0, e0, -, -, hcc⟩ := hq.mem (by omega)
    rw [e2] at e0
    cases e0
    have hv : qs[i].2 = u := by
      have := (hcc i hi).c4
      rw [Nat.zero_add] at this
      rw [hu.c4] at this
      exact (Option.some.inj this).symm
    refine ⟨by rw [hfst]; exact hu.i64, by rw [hfst]; exact hu.t64, g2 + 1, w.heap.size, ?_, by omega, k2.size, fun g hg => ?_⟩
    · rw [hv, hfst]
      exact hu.iv.grown k2 (fun g hg => .inl (by have := hA g hg; omega))
    · rcases k3 with k3 | k3
      · rw [k3] at hg
        exact .inl (by have := hA g hg; omega)
      · rw [k3] at hg; cases hg; exact .inr (Nat.le_refl _)
end Lo
end Go.Proofs.Ytjalmciaaenmjaa
