/-
  The lists of 'frames behind a crash': what is left behind n frames, of bytes that were cut.
-/
import Derived.Test.YtnhkpbdggjmgdaaPackTakeMath
import Derived.Test.YtnhkpbdggjmgdaaPackBackMath
namespace Go.Proofs.Ytnhkpbdggjmgdaa
namespace TopMath
open PM

/-- Frames one behind the other. -/
def cat : List ByteArray → List UInt8
  | [] => []
  | p :: ps => frm p.data.toList ++ cat ps
theorem cat_app (ps qs : List ByteArray) : cat (ps ++ qs) = cat ps ++ cat qs := by
  induction ps with
  | nil => rfl
  | cons q ps ih => simp [cat, ih]
theorem cat_snoc (ps : List ByteArray) (p : ByteArray) : cat (ps ++ [p]) = cat ps ++ frm p.data.toList := by
  rw [cat_app]; simp [cat]
theorem cat_split (ps : List ByteArray) (n : Nat) : cat ps = cat (ps.take n) ++ cat (ps.drop n) := by
  rw [← cat_app, List.take_append_drop]
theorem cat_drop (ps : List ByteArray) (j : Nat) (h : j < ps.length) : cat (ps.drop j) = frm ps[j].data.toList ++ cat (ps.drop (j + 1)) := by
  rw [← List.getElem_cons_drop h]; rfl
theorem cat_next (ps : List ByteArray) (j : Nat) (h : j < ps.length) : (cat (ps.take (j + 1))).length = (cat (ps.take j)).length + (frm ps[j].data.toList).length := by
  rw [List.take_succ_eq_append_getElem h, cat_snoc, List.length_append]
theorem cat_mono (ps : List ByteArray) (i j : Nat) (h : i ≤ j) : (cat (ps.take i)).length ≤ (cat (ps.take j)).length := by
  have e : ps.take i = (ps.take j).take i := by rw [List.take_take, Nat.min_eq_left h]
  have := cat_split (ps.take j) i
  rw [e, this, List.length_append]
  omega
theorem cat_all (ps : List ByteArray) : (cat (ps.take ps.length)).length = (cat ps).length := by rw [List.take_length]

/-- What is left behind n frames, if the bytes were cut at c. -/
def lef (ps : List ByteArray) (c n : Nat) : List UInt8 := ((cat ps).take c).drop (cat (ps.take n)).length
theorem lef_zero (ps : List ByteArray) (c : Nat) : lef ps c 0 = (cat ps).take c := by simp [lef, cat]
theorem lef_end (ps : List ByteArray) (c : Nat) : lef ps c ps.length = [] := by
  unfold lef
  rw [cat_all]
  apply List.drop_eq_nil_of_le
  rw [List.length_take]
  omega
theorem lef_at (ps : List ByteArray) (c n : Nat) : lef ps c n = (cat (ps.drop n)).take (c - (cat (ps.take n)).length) := by
  unfold lef
  rw [List.drop_take]
  congr 1
  conv => lhs; rw [cat_split ps n]
  rw [List.drop_left]
theorem lef_len (ps : List ByteArray) (c n : Nat) : (lef ps c n).length ≤ (cat ps).length := by
  unfold lef
  rw [List.length_drop, List.length_take]
  omega
theorem nil_tfW : tfW [] = 3 := by unfold tfW; rfl
/-- A frame that is whole. -/
theorem step_whole (ps : List ByteArray) (c n : Nat) (h : n < ps.length) (hp : ¬ 65536 < ps[n].data.toList.length) (hc : (cat (ps.take (n + 1))).length ≤ c) :
    tfW (lef ps c n) = 0 ∧ tfP (lef ps c n) = ps[n].data.toList ∧ tfR (lef ps c n) = lef ps c (n + 1) := by
  have e1 := cat_next ps n h
  have e2 : lef ps c n = frm ps[n].data.toList ++ lef ps c (n + 1) := by
    rw [lef_at, lef_at, cat_drop ps n h, List.take_append, List.take_of_length_le (by omega)]
    congr 2
    omega
  rw [e2]
  exact tf_back _ _ hp
/-- A frame that was cut. -/
theorem step_short (ps : List ByteArray) (c n : Nat) (h : n < ps.length) (hp : ¬ 65536 < ps[n].data.toList.length) (hc : c < (cat (ps.take (n + 1))).length) : tfW (lef ps c n) = 3 := by
  have e1 := cat_next ps n h
  have hl : 0 < (frm ps[n].data.toList).length := by rw [frm_length]; omega
  rw [lef_at, cat_drop ps n h, List.take_append_of_le_length (by omega)]
  exact tf_short _ hp _ (by omega)
/-- What was synced is not cut. -/
theorem sure_le (ps : List ByteArray) (c n k : Nat) (hk : (cat (ps.take k)).length ≤ c) (hc : c < (cat (ps.take (n + 1))).length) : k ≤ n := by
  rcases Nat.lt_or_ge n k with h | h
  · have := cat_mono ps (n + 1) k h
    omega
  · exact h
end TopMath
end Go.Proofs.Ytnhkpbdggjmgdaa
