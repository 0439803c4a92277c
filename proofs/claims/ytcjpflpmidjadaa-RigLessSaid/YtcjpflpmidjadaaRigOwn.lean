/-
  WALK of the law on nodes without taints, and on what wants some of a node's labels.
-/
import Derived.Test.YtcjpflpmidjadaaRigSuit2
namespace Go.Proofs.Ytcjpflpmidjadaa
open Go.RowKit
namespace Rg
theorem eqP_refl (p : Pr) : eqP p p = true := by simp [eqP]
theorem isIn_self (l : List Pr) (p : Pr) (h : p ∈ l) : isIn l p = true := by
  unfold isIn
  rw [List.any_eq_true]
  exact ⟨p, h, eqP_refl p⟩
theorem among_self (l : List Pr) : amongB l l = true := by
  unfold amongB
  rw [List.all_eq_true]
  exact fun p hp => isIn_self l p hp
theorem suit_one (ls ts : List Pr) (i : Nat) (h : i < ls.length) : suitB [ls[i]] ls ts ts = true := by
  unfold suitB
  rw [among_self]
  simp [amongB, isIn_self ls ls[i] (List.getElem_mem h)]
theorem suit_plain (ls : List Pr) : suitB [] ls [] [] = true := by simp [suitB, amongB]
/-- One pair of some. -/
theorem Pairs.one {w : World} {B : Nat} {b off c c2 i : Nat} {ls : List Pr} (h : Pairs w B (.slice (some ⟨b, off, none⟩) ls.length c) ls) (hi : i < ls.length) : Pairs w B (.slice (some ⟨b, off + i * 2, none⟩) 1 c2) [ls[i]] := by
  obtain ⟨a, c3, e, h1, h2, h3⟩ := h
  obtain ⟨b', off', rfl, hlt, hc⟩ := h3 (by omega)
  simp only [Value.slice.injEq, Option.some.injEq, Addr.mk.injEq] at e
  obtain ⟨⟨rfl, rfl, -⟩, -, -⟩ := e
  refine ⟨_, _, rfl, by simp, fun p hp => ?_, fun _ => ⟨_, _, rfl, hlt, fun j hj => ?_⟩⟩
  · obtain rfl := List.mem_singleton.1 hp
    exact h2 _ (List.getElem_mem hi)
  · obtain rfl : j = 0 := by simpa using hj
    exact hc i hi
end Rg
end Go.Proofs.Ytcjpflpmidjadaa
