/-
  WHERE A TASK CAN BE, as plain data.
-/
import Derived.Test.YthbmnkeigmbbdaaGreatQeF
import Derived.Test.YthbmnkeigmbbdaaGreatBgZ
import Derived.Test.YthbmnkeigmbbdaaGreatBoLivD
namespace Go.Proofs.YthbmnkeigmbbdaaGreat
open Go.RowKit Go.Lib
namespace Bo
open Rw
set_option linter.unusedVariables false
def oBnd (k v : ByteArray) (fe : Nat) : Hd.Cd := lvO Hd.nd0 Hd.td0 5 k v fe
theorem fitS0 : FitS ⟨#[]⟩ := by unfold FitS; decide +kernel
theorem do_bnd {b : Bk} (h : chkB b = true) (k v : ByteArray) (fe : Nat) : doF b (oBnd k v fe) = ((biB b k v fe).1, (biB b k v fe).2, ByteArray.empty) := by
  unfold doF
  rw [if_pos h]
  unfold doV
  rw [if_pos (show Hd.coB (oBnd k v fe) = true from rfl), if_neg (show ¬ (oBnd k v fe).k = 7 from by show ¬ (5 : Nat) = 7; decide)]
  rfl
theorem bi_why (b : Bk) (k v : ByteArray) : (biB b k v b.fe).2 = canE b k v := by
  unfold biB
  rw [if_neg (Nat.lt_irrefl _)]
  by_cases h0 : canE b k v = 0
  · rw [if_pos h0, h0]
  · rw [if_neg h0]
theorem bnd_plain {b : Bk} (h : chkB b = true) (k v : ByteArray) : ∃ c, doF b (oBnd k v b.fe) = (c, canE b k v, ByteArray.empty) := ⟨_, by rw [do_bnd h, bi_why]⟩
theorem nds_at {w : World} {B : Nat} {a : Option Addr} {n c : Nat} {l : List Hd.Nd} (h : Nds w B (.slice a n c) l) (k : Nat) (hk : k < l.length) : ∃ g off x, a = some ⟨g, off, none⟩ ∧ g < B ∧ At w g (off + k * 6) (x : NdM) ∧ x.nd = l[k] := by
  obtain ⟨m, rfl, hs, -, -⟩ := h
  rw [List.length_map] at hk
  obtain ⟨a', c', he, -, -, -, h4⟩ := hs
  obtain ⟨g, off, rfl, -, hlt, hc⟩ := h4 (by omega)
  simp only [Value.slice.injEq] at he
  obtain ⟨rfl, -, -⟩ := he
  exact ⟨g, off, m[k], rfl, hlt, hc k hk, by simp⟩
theorem has_snoc (l : List ByteArray) (q : Nat) (h : q < l.length) (x : ByteArray) : hasK (l.take (q + 1)) x = (hasK (l.take q) x || decide (l[q] = x)) := by
  unfold hasK
  rw [List.take_succ_eq_append_getElem h, List.any_append, List.any_cons, List.any_nil, Bool.or_false]
theorem fr_mem {b : Bk} {ky : ByteArray} (h : frE b ky = 0) {v : ByteArray} (hv : v ∈ b.ns.map (·.n)) : hasK (frV b ky) v = decide (canE b ky v = 0) := by
  rw [Bool.eq_iff_iff, has_iff, decide_eq_true_eq]
  unfold frV
  rw [if_pos h]
  unfold frL
  rw [List.mem_filter, decide_eq_true_eq]
  exact ⟨fun h => h.2, fun h => ⟨hv, h⟩⟩
theorem fr_len (b : Bk) (ky : ByteArray) : (frV b ky).length ≤ b.ns.length := by
  unfold frV
  split
  · unfold frL
    have := List.length_filter_le (fun v => decide (canE b ky v = 0)) (b.ns.map (·.n))
    rwa [List.length_map] at this
  · exact Nat.zero_le _
theorem fr_chk {b : Bk} {ky : ByteArray} (h : frE b ky = 0) : chkB b = true := by
  unfold frE at h
  split at h
  · assumption
  · cases h
end Bo
end Go.Proofs.YthbmnkeigmbbdaaGreat
