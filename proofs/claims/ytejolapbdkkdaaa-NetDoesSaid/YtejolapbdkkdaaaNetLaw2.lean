/-
  NetMade.
-/
import Derived.Test.YtejolapbdkkdaaaNetLaw1
import Derived.Test.YtejolapbdkkdaaaNetCnt
import Derived.Deep.RegionHeld3
namespace Go.Proofs.Ytejolapbdkkdaaa
open Go.RowKit Go.Lib
namespace Nt
open Rw
set_option linter.unusedVariables false
/-- v is a slice of the numbers ks. -/
def IntS (w : World) (B : Nat) (v : Value) (ks : List Int) : Prop :=
  ∃ a c, v = .slice a ks.length c ∧ ks.length ≤ 17592186044416 ∧ (0 < ks.length → ∃ b off, a = some ⟨b, off, none⟩ ∧ b < B ∧ ∀ i (h : i < ks.length), w.cell? ⟨b, off + i, none⟩ = some (.int .i64 ks[i]))
theorem right_put {n l : List Pk} (h : netB n = true) : netB (n ++ sent n l) = true ∧ (sent n l).length ≤ l.length := by
  have h4 := net_len h
  unfold netB at h ⊢
  rw [Bool.and_eq_true] at h ⊢
  have hs : (sent n l).length ≤ 4096 - n.length := List.length_take_le _ _
  refine ⟨⟨by simp; omega, ?_⟩, ?_⟩
  · rw [List.all_append, Bool.and_eq_true]
    refine ⟨h.2, List.all_eq_true.2 fun x hx => ?_⟩
    exact (List.mem_filter.1 (List.mem_of_mem_take hx)).2
  · unfold sent
    rw [List.length_take]
    have := List.length_filter_le rightB l
    omega
theorem right_erase {n : List Pk} (k : Nat) (h : netB n = true) : netB (n.eraseIdx k) = true := by
  unfold netB at h ⊢
  rw [Bool.and_eq_true] at h ⊢
  have hl := List.length_eraseIdx_le n k
  refine ⟨?_, List.all_eq_true.2 fun x hx => List.all_eq_true.1 h.2 x (List.mem_of_mem_eraseIdx hx)⟩
  have := of_decide_eq_true h.1
  simp
  omega
theorem sent_mem {n l : List Pk} {p : Pk} (h : p ∈ n ++ sent n l) : 0 < cntP p n + cntP p l := by
  rcases List.mem_append.1 h with h | h
  · have := cnt_pos h; omega
  · have := cnt_pos (List.mem_filter.1 (List.mem_of_mem_take h)).1; omega
/-- The boxes of NetMade: the net that came in, and what it has become, at block N. -/
structure MdS (w : World) (v : Value) (N : Nat) (n l : List Pk) (u : Value) (M : List Pk) (z : World) : Prop where
  be : Below w.heap.size w z
  lo : w.heap.size < N
  lt : N < z.heap.size
  c3 : z.cell? ⟨w.heap.size, 0, none⟩ = some v
  c7 : z.cell? ⟨N, 0, none⟩ = some u
  f7 : z.frozen? ⟨N, 0, none⟩ = false
  own : OwnP z w.heap.size u M
  ne : u.ownBlock ≠ some N
  nb : netB M = true
  mem : ∀ p ∈ M, 0 < cntP p n + cntP p l
theorem MdS.go {w z z' : World} {v : Value} {N : Nat} {n l : List Pk} {u : Value} {M : List Pk} (h : MdS w v N n l u M z) (hb : Below z.heap.size z z') : MdS w v N n l u M z' := by
  have h1 := h.lo
  have h2 := h.lt
  exact ⟨h.be.trans (hb.mono h.be.size), h1, Nat.lt_of_lt_of_le h2 hb.size, (hb.cell (by show w.heap.size < _; omega)).trans h.c3, (hb.cell (by exact h2)).trans h.c7, (hb.frozen (by exact h2)).trans h.f7, keepP h.own hb, h.ne, h.nb, h.mem⟩
theorem MdS.put {w z : World} {v : Value} {N : Nat} {n l : List Pk} {u : Value} {M : List Pk} (h : MdS w v N n l u M z) {u' : Value} (k : Nat) (ho : OwnP z w.heap.size u' (M.eraseIdx k)) (hn : u'.ownBlock ≠ some N) : MdS w v N n l u' (M.eraseIdx k) (z.setCell ⟨N, 0, none⟩ u') := by
  have h1 := h.lo
  refine ⟨h.be.setCell (p := ⟨N, 0, none⟩) (by show w.heap.size ≤ N; omega) _, h1, by rw [World.size_setCell]; exact h.lt, (World.cell?_setCell_other _ _ _ _ (fun e => by have := congrArg Addr.block e; simp at this; omega)).trans h.c3, World.cell?_setCell_same _ _ _ h.c7, ?_, own_put ho hn, hn, right_erase k h.nb, fun p hp => h.mem p (List.mem_of_mem_eraseIdx hp)⟩
  rw [World.frozen?_setCell]
  exact h.f7
theorem GiveIs.no {w : World} {n : List Pk} {i : Int} {e : Ending} {w' : World} (h : GiveIs w n i e w') (h0 : ¬ refN n i = 0) : ∃ a c, e = .returned (.tuple #[.agg #[.slice a 0 c], .agg #[.int .i64 0, .int .i64 0, .string ⟨#[]⟩], .int .i64 (refN n i)]) ∧ Below w.heap.size w w' := by
  obtain ⟨v', l, p, h1, h2, -, h4, h5⟩ := h
  obtain ⟨rfl, rfl⟩ := h4 h0
  obtain ⟨a, c, rfl⟩ := Own.slice h2
  exact ⟨a, c, h1, h5⟩
theorem GiveIs.yes {w : World} {n : List Pk} {i : Int} {e : Ending} {w' : World} (h : GiveIs w n i e w') (h0 : refN n i = 0) : ∃ (k : Nat) (hk : k < n.length) (a : Option Addr) (c : Nat), i = (k : Int) ∧ e = .returned (.tuple #[.agg #[.slice a (n.eraseIdx k).length c], .agg #[.int .i64 n[k].f, .int .i64 n[k].t, .string n[k].d], .int .i64 0]) ∧ OwnP w' w.heap.size (.slice a (n.eraseIdx k).length c) (n.eraseIdx k) ∧ Below w.heap.size w w' := by
  obtain ⟨v', l, p, h1, h2, h3, -, h5⟩ := h
  obtain ⟨k, hk, rfl, rfl, rfl⟩ := h3 h0
  obtain ⟨a, c, rfl⟩ := Own.slice h2
  rw [h0] at h1
  exact ⟨k, hk, a, c, rfl, h1, h2, h5⟩
theorem TwiceIs.no {w : World} {n : List Pk} {i : Int} {e : Ending} {w' : World} (h : TwiceIs w n i e w') (h0 : ¬ twN n i = 0) : ∃ a c, e = .returned (.tuple #[.agg #[.slice a 0 c], .int .i64 (twN n i)]) ∧ Below w.heap.size w w' := by
  obtain ⟨v', l, h1, h2, -, h4, h5⟩ := h
  obtain rfl := h4 h0
  obtain ⟨a, c, rfl⟩ := Own.slice h2
  exact ⟨a, c, h1, h5⟩
theorem TwiceIs.yes {w : World} {n : List Pk} {k : Nat} (hk : k < n.length) {e : Ending} {w' : World} (h : TwiceIs w n (k : Int) e w') (h0 : twN n (k : Int) = 0) : ∃ (a : Option Addr) (c : Nat), e = .returned (.tuple #[.agg #[.slice a (n.length + 1) c], .int .i64 0]) ∧ OwnP w' w.heap.size (.slice a (n.length + 1) c) (n ++ [n[k]]) ∧ Below w.heap.size w w' := by
  obtain ⟨v', l, h1, h2, h3, -, h5⟩ := h
  obtain ⟨k', hk', he, rfl⟩ := h3 h0
  have e2 : k' = k := by omega
  subst e2
  obtain ⟨a, c, rfl⟩ := Own.slice h2
  rw [h0] at h1
  rw [List.length_append] at h1 h2
  exact ⟨a, c, h1, h2, h5⟩
end Nt
end Go.Proofs.Ytejolapbdkkdaaa
