/-
  NetOwn.
-/
import Derived.Test.YtejolapbdkkdaaaNetCopy
import Derived.Test.YtejolapbdkkdaaaNetMade
namespace Go.Proofs.Ytejolapbdkkdaaa
open Go.RowKit Go.Lib
namespace Nt
open Rw
set_option linter.unusedVariables false
/-- A row of packets that may be written: from block A on, below B. -/
def Stock (z : World) (A B : Nat) (v : Value) : Prop :=
  ∃ a n c, v = .slice a n c ∧ n ≤ 4398046511104 ∧ (0 < n → ∃ g, a = some ⟨g, 0, none⟩ ∧ A ≤ g ∧ g < B ∧ ∀ i, i < n → (∃ u, z.cell? ⟨g, i * 3 + 2, none⟩ = some u) ∧ z.frozen? ⟨g, i * 3 + 2, none⟩ = false)
theorem Stock.of {z : World} {base A B : Nat} {v : Value} {l : List Pk} (h : OwnP z base v l) (hl : l.length ≤ 4398046511104) (hA : A ≤ base) (hB : z.heap.size ≤ B) : Stock z A B v := by
  rcases h.2 with ⟨rfl, h0⟩ | ⟨g, cap, cur, rfl, hbg, hg, h1, h2, h3, h4⟩
  · exact ⟨none, 0, 0, rfl, by omega, fun h => absurd h (by omega)⟩
  · refine ⟨_, _, _, rfl, hl, fun hp => ⟨g, rfl, by omega, Nat.lt_of_lt_of_le (Array.getElem?_eq_some_iff.1 hg).1 hB, fun i hi => ⟨?_, frozen_of_row _ _ _ _ _ hg⟩⟩⟩
    rw [cell_of_row _ _ _ _ _ _ hg]
    have h3 : cur.size = cap * 3 := h3
    exact ⟨_, Array.getElem?_eq_getElem (by omega)⟩
theorem Stock.keep {z z' : World} {A B : Nat} {v : Value} (h : Stock z A B v) (hb : Below z.heap.size z z') (hB : B ≤ z.heap.size) : Stock z' A B v := by
  obtain ⟨a, n, c, rfl, h1, h2⟩ := h
  refine ⟨a, n, c, rfl, h1, fun hp => ?_⟩
  obtain ⟨g, rfl, hA, hlt, hc⟩ := h2 hp
  refine ⟨g, rfl, hA, hlt, fun i hi => ?_⟩
  obtain ⟨⟨u, hu⟩, hf⟩ := hc i hi
  exact ⟨⟨u, (hb.cell (by show g < _; omega)).trans hu⟩, (hb.frozen (by show g < _; omega)).trans hf⟩
theorem Stock.more {z : World} {A B B' : Nat} {v : Value} (h : Stock z A B v) (hB : B ≤ B') : Stock z A B' v := by
  obtain ⟨a, n, c, rfl, h1, h2⟩ := h
  refine ⟨a, n, c, rfl, h1, fun hp => ?_⟩
  obtain ⟨g, rfl, hA, hlt, hc⟩ := h2 hp
  exact ⟨g, rfl, hA, by omega, hc⟩
theorem Stock.low {z : World} {A A' B : Nat} {v : Value} (h : Stock z A B v) (hA : A' ≤ A) : Stock z A' B v := by
  obtain ⟨a, n, c, rfl, h1, h2⟩ := h
  refine ⟨a, n, c, rfl, h1, fun hp => ?_⟩
  obtain ⟨g, rfl, hA, hlt, hc⟩ := h2 hp
  exact ⟨g, rfl, by omega, hlt, hc⟩
theorem Stock.put {z : World} {A B : Nat} {v : Value} (h : Stock z A B v) (p : Addr) (x : Value) : Stock (z.setCell p x) A B v := by
  obtain ⟨a, n, c, rfl, h1, h2⟩ := h
  refine ⟨a, n, c, rfl, h1, fun hp => ?_⟩
  obtain ⟨g, rfl, hA, hlt, hc⟩ := h2 hp
  refine ⟨g, rfl, hA, hlt, fun i hi => ?_⟩
  obtain ⟨⟨u, hu⟩, hf⟩ := hc i hi
  exact ⟨cell?_setCell_some hu, by rw [World.frozen?_setCell]; exact hf⟩
/-- While rows are spoilt: the row of rows lies at block B. -/
structure OwS (W : World) (B : Nat) (vs : List Value) (z : World) : Prop where
  be : Below W.heap.size W z
  c : ∀ i (h : i < vs.length), z.cell? ⟨B, i, none⟩ = some vs[i]
  s : ∀ v ∈ vs, Stock z W.heap.size B v
theorem OwS.put {W z : World} {B g j : Nat} {vs : List Value} {x : Value} (h : OwS W B vs z) (hA : W.heap.size ≤ g) (hB : g < B) : OwS W B vs (z.setCell ⟨g, j, none⟩ x) :=
  ⟨h.be.setCell (p := ⟨g, j, none⟩) hA _, fun i hi => (World.cell?_setCell_other _ _ _ _ (fun e => by have := congrArg Addr.block e; simp at this; omega)).trans (h.c i hi), fun v hv => (h.s v hv).put _ _⟩
theorem OwS.drw {W z : World} {B : Nat} {vs : List Value} (h : OwS W B vs z) (n : Nat) : OwS W B vs (z.drewN n) := ⟨bdN h.be n, h.c, h.s⟩
theorem row_new (z : World) (vs : List Value) (T : TypeId) : ∀ i (h : i < vs.length), (z.alloc (.cells vs.toArray T)).cell? ⟨z.heap.size, i, none⟩ = some vs[i] := by
  intro i hi
  rw [cell_of_row _ _ i _ _ (0, 0) (heap_alloc_new z _)]
  simp [List.getElem?_eq_getElem hi]
theorem send_stock {z : World} {n l : List Pk} {e : Ending} {w' : World} (h : SendIs z n l e w') : ∃ (a : Option Addr) (q c : Nat) (k r : Int), e = .returned (.tuple #[.agg #[.slice a q c], .int .i64 k, .int .i64 r]) ∧ Stock w' z.heap.size w'.heap.size (.slice a q c) ∧ Below z.heap.size z w' := by
  obtain ⟨v', h1, h2, h3⟩ := h
  have hl : (putR n l).length ≤ 4398046511104 := by
    cases hq : netB n
    · unfold putR; rw [hq]; simp
    · have := (put_len (l := l) hq).2.2.1; omega
  have hs := Stock.of h2 hl (Nat.le_refl _) (Nat.le_refl _)
  obtain ⟨a, c, rfl⟩ := Own.slice h2
  exact ⟨a, _, c, _, _, h1, hs, h3⟩
theorem give_stock {z : World} {n : List Pk} {i : Int} {e : Ending} {w' : World} (h : GiveIs z n i e w') (hn : n.length ≤ 4398046511104) : ∃ (a : Option Addr) (q c : Nat) (f t : Int) (d : ByteArray) (r : Int), e = .returned (.tuple #[.agg #[.slice a q c], .agg #[.int .i64 f, .int .i64 t, .string d], .int .i64 r]) ∧ Stock w' z.heap.size w'.heap.size (.slice a q c) ∧ Below z.heap.size z w' := by
  obtain ⟨v', l, p, h1, h2, h3, h4, h5⟩ := h
  have hl : l.length ≤ 4398046511104 := by
    by_cases h0 : refN n i = 0
    · obtain ⟨k, hk, -, rfl, -⟩ := h3 h0
      have := List.length_eraseIdx_le n k; omega
    · rw [(h4 h0).1]; simp
  have hs := Stock.of h2 hl (Nat.le_refl _) (Nat.le_refl _)
  obtain ⟨a, c, rfl⟩ := Own.slice h2
  exact ⟨a, _, c, p.f, p.t, p.d, _, h1, hs, h5⟩
theorem twice_stock {z : World} {n : List Pk} {i : Int} {e : Ending} {w' : World} (h : TwiceIs z n i e w') (hn : n.length ≤ 4398046511104) : ∃ (a : Option Addr) (q c : Nat) (r : Int), e = .returned (.tuple #[.agg #[.slice a q c], .int .i64 r]) ∧ Stock w' z.heap.size w'.heap.size (.slice a q c) ∧ Below z.heap.size z w' := by
  obtain ⟨v', l, h1, h2, h3, h4, h5⟩ := h
  have hl : l.length ≤ 4398046511104 := by
    by_cases h0 : twN n i = 0
    · have h9 : refN n i = 0 := by
        by_cases hr : refN n i = 0
        · exact hr
        · have : twN n i = refN n i := if_neg hr
          omega
      obtain ⟨k, hk, -, rfl⟩ := h3 h0
      rcases ref_cases n i with ⟨-, hb, -⟩ | hb | hb
      · have := net_len hb
        simp; omega
      · omega
      · omega
    · rw [h4 h0]; simp
  have hs := Stock.of h2 hl (Nat.le_refl _) (Nat.le_refl _)
  obtain ⟨a, c, rfl⟩ := Own.slice h2
  exact ⟨a, _, c, _, h1, hs, h5⟩
theorem take_stock {z : World} {n : List Pk} {e : Ending} {w' : World} (h : TakeIs z n e w') (hn : n.length ≤ 4398046511104) : ∃ (a : Option Addr) (q c : Nat) (r : Int), e = .returned (.tuple #[.slice a q c, .agg #[.slice none 0 0], .int .i64 r]) ∧ Stock w' z.heap.size w'.heap.size (.slice a q c) ∧ Below z.heap.size z w' := by
  obtain ⟨v', h1, h2, h5⟩ := h
  have hs := Stock.of h2 (by split; exact hn; simp) (Nat.le_refl _) (Nat.le_refl _)
  obtain ⟨a, c, rfl⟩ := Own.slice h2
  exact ⟨a, _, c, _, h1, hs, h5⟩
end Nt
end Go.Proofs.Ytejolapbdkkdaaa
