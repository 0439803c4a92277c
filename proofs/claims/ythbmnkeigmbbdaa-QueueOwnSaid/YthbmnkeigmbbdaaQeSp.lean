/-
  ROWS OF STRUCTS THAT ARE SPOILT: their names, the keys of one of their slices.
-/
import Derived.Test.YthbmnkeigmbbdaaBgP
import Derived.Test.YthbmnkeigmbbdaaQeF
namespace Go.Proofs.Ythbmnkeigmbbdaa
open Go.RowKit Go.Lib
namespace Bo
open Rw
set_option linter.unusedVariables false
/-- A row of n structs of s cells at g, each with a slice of pairs in its cell o; what was below B0 is as it was in W. -/
structure Sp (W : World) (B0 : Nat) (T : TypeId) (s o n : Nat) (sa : Nat → Option Addr) (sl sc : Nat → Nat) (g : Nat) (z : World) : Prop where
  be : Below B0 W z
  rn : 0 < n → Row z g (n * s) T ∧ B0 ≤ g
  lb : ∀ i, i < n → z.cell? ⟨g, i * s + o, none⟩ = some (.slice (sa i) (sl i) (sc i))
  rp : ∀ i, i < n → ∀ gp, sa i = some ⟨gp, 0, none⟩ → 0 < sl i → Row z gp (sl i * 2) 51 ∧ B0 ≤ gp
  ra : ∀ i, i < n → 0 < sl i → ∃ gp, sa i = some ⟨gp, 0, none⟩
theorem Sp.name {W : World} {B0 : Nat} {T : TypeId} {s o n : Nat} {sa : Nat → Option Addr} {sl sc : Nat → Nat} {g : Nat} {z : World} (h : Sp W B0 T s o n sa sl sc g z) (ho : 0 < o) (hs : o < s) (i : Nat) (hi : i < n) (u : Value) : Sp W B0 T s o n sa sl sc g (z.setCell ⟨g, i * s, none⟩ u) := by
  obtain ⟨r1, r2⟩ := h.rn (by omega)
  refine ⟨h.be.setCell (by exact r2) _, fun hp => ⟨r1.put _ _ _, r2⟩, fun j hj => ?_, fun j hj gp e hp => ?_, h.ra⟩
  · refine (World.cell?_setCell_other _ _ _ _ (fun e => ?_)).trans (h.lb j hj)
    have e2 : i * s = j * s + o := congrArg Addr.off e
    rcases Nat.lt_trichotomy i j with hl | hl | hl
    · have : i * s ≤ j * s := Nat.mul_le_mul_right _ (by omega)
      omega
    · subst hl; omega
    · have : (j + 1) * s ≤ i * s := Nat.mul_le_mul_right _ hl
      rw [Nat.add_mul] at this
      omega
  · obtain ⟨q1, q2⟩ := h.rp j hj gp e hp
    exact ⟨q1.put _ _ _, q2⟩
theorem Sp.key {W : World} {B0 : Nat} {T : TypeId} {s o n : Nat} {sa : Nat → Option Addr} {sl sc : Nat → Nat} {g : Nat} {z : World} (h : Sp W B0 T s o n sa sl sc g z) (hT : T ≠ 51) (i : Nat) (hi : i < n) (gp : Nat) (e : sa i = some ⟨gp, 0, none⟩) (hp : 0 < sl i) (off : Nat) (u : Value) : Sp W B0 T s o n sa sl sc g (z.setCell ⟨gp, off, none⟩ u) := by
  obtain ⟨r1, r2⟩ := h.rn (by omega)
  obtain ⟨q1, q2⟩ := h.rp i hi gp e hp
  have hne := r1.ne q1 hT
  refine ⟨h.be.setCell (by exact q2) _, fun hp => ⟨r1.put _ _ _, r2⟩, fun j hj => ?_, fun j hj gp2 e2 hp2 => ?_, h.ra⟩
  · exact (World.cell?_setCell_other _ _ _ _ (by intro e; exact hne (congrArg Addr.block e).symm)).trans (h.lb j hj)
  · obtain ⟨p1, p2⟩ := h.rp j hj gp2 e2 hp2
    exact ⟨p1.put _ _ _, p2⟩
theorem Sp.start {α : Type} [F : Rw.Flat α] {W : World} {B0 : Nat} {T : TypeId} {v : Value} {l : List α} (d : α) (fa : α → Option Addr) (fl : α → List Rg.Pr) (fc : α → Nat) (o : Nat) (h : Own W B0 T v l)
    (hf : ∀ x ∈ l, (F.enc x)[o]? = some (.slice (fa x) (fl x).length (fc x)) ∧ Own W B0 51 (.slice (fa x) (fl x).length (fc x)) (fl x)) :
    ∃ g c, (0 < l.length → v = .slice (some ⟨g, 0, none⟩) l.length c) ∧ Sp W B0 T F.k o l.length (fun i => fa (l.getD i d)) (fun i => (fl (l.getD i d)).length) (fun i => fc (l.getD i d)) g W := by
  have hg : ∀ i, (hi : i < l.length) → l.getD i d = l[i] := fun i hi => by simp [List.getD, List.getElem?_eq_getElem hi]
  have key : ∀ i, i < l.length → 0 < (fl (l.getD i d)).length → ∃ gp, fa (l.getD i d) = some ⟨gp, 0, none⟩ ∧ Row W gp ((fl (l.getD i d)).length * 2) 51 ∧ B0 ≤ gp := by
    intro i hi hp
    rw [hg i hi] at hp ⊢
    obtain ⟨gp, cap, hv, h1, h2, h3, -⟩ := own_row (hf _ (List.getElem_mem hi)).2 hp
    exact ⟨gp, (slice_inj hv).1, h3, h1⟩
  have rp : ∀ i, i < l.length → ∀ gp, fa (l.getD i d) = some ⟨gp, 0, none⟩ → 0 < (fl (l.getD i d)).length → Row W gp ((fl (l.getD i d)).length * 2) 51 ∧ B0 ≤ gp := by
    intro i hi gp e hp
    obtain ⟨gq, e2, q⟩ := key i hi hp
    rw [e] at e2
    simp only [Option.some.injEq, Addr.mk.injEq, and_true] at e2
    subst e2
    exact q
  have ra : ∀ i, i < l.length → 0 < (fl (l.getD i d)).length → ∃ gp, fa (l.getD i d) = some ⟨gp, 0, none⟩ := fun i hi hp => by
    obtain ⟨gq, e2, -⟩ := key i hi hp
    exact ⟨gq, e2⟩
  by_cases hn : 0 < l.length
  · obtain ⟨g, cap, hv, h1, h2, h3, h4⟩ := own_row h hn
    refine ⟨g, cap, fun _ => hv, ⟨Below.refl _ _, fun _ => ⟨h3, h1⟩, fun i hi => ?_, rp, ra⟩⟩
    rw [hg i hi]
    exact h4 i hi o _ (hf _ (List.getElem_mem hi)).1
  · exact ⟨0, 0, fun hp => absurd hp hn, ⟨Below.refl _ _, fun hp => absurd hp hn, fun i hi => absurd (Nat.lt_of_le_of_lt (Nat.zero_le _) hi) hn, rp, ra⟩⟩
theorem cpy_books {b : Bk} {w w' : World} {B base : Nat} {vn vt vb v1 v2 v3 : Value} {mn : List NdM} {mt : List TdM} (hB : Books w B vn vt vb b) (h : OwnL w' base v1 v2 v3 mn mt b.bs) (hn : b.ns = mn.map (·.nd)) (ht : b.ts = mt.map (·.td)) : Books w' w'.heap.size v1 v2 v3 b := by
  obtain ⟨m, em, -, hm, lm⟩ := hB.hn
  obtain ⟨n, e2, -, hn2, ln⟩ := hB.ht
  have hfb := hB.hb.2.1
  have hlb := hB.hb.2.2
  have l1 : mn.length = b.ns.length := by rw [hn, List.length_map]
  have l2 : mt.length = b.ts.length := by rw [ht, List.length_map]
  refine ⟨⟨mn, hn, (h.hn.sl (by omega)).more (Nat.le_refl _) (Nat.zero_le _), fun x hx => ?_, lm⟩, ⟨mt, ht, (h.ht.sl (by omega)).more (Nat.le_refl _) (Nat.zero_le _), fun x hx => ?_, ln⟩, ⟨(h.hb.sl (by omega)).more (Nat.le_refl _) (Nat.zero_le _), hfb, hlb⟩, hB.hf⟩
  · have hx2 : x.nd ∈ b.ns := by rw [hn]; exact List.mem_map_of_mem hx
    rw [em] at hx2
    obtain ⟨y, hy, he⟩ := List.mem_map.1 hx2
    have hf : FitN x.nd := by rw [← he]; exact (hm y hy).2
    exact ⟨(h.dn x hx).deep hf, hf⟩
  · have hx2 : x.td ∈ b.ts := by rw [ht]; exact List.mem_map_of_mem hx
    rw [e2] at hx2
    obtain ⟨y, hy, he⟩ := List.mem_map.1 hx2
    have hf : FitT x.td := by rw [← he]; exact (hn2 y hy).2
    exact ⟨(h.dt x hx).deep hf, hf⟩
end Bo
end Go.Proofs.Ythbmnkeigmbbdaa
