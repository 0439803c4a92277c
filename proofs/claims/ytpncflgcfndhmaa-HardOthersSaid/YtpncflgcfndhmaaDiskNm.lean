/-
  Names, the program's and the document's: which names they tell.
-/
import Derived.Test.YtpncflgcfndhmaaDiskNames
namespace Go.Proofs.Ytpncflgcfndhmaa
open Go.RowKit Go.Lib Go.Sort
namespace Dk
/-- Whether s begins with p. -/
def pfx (s p : ByteArray) : Bool := decide (p.size ≤ s.size) && ((s.extract 0 p.size).toList == p.toList)
/-- The names that begin so, of the first k files. -/
def nmT (fs : List Fl) (p : ByteArray) (k : Nat) : List ByteArray := ((fs.take k).filter (fun f => pfx f.nm p)).map (·.nm)
theorem nmT_zero (fs : List Fl) (p : ByteArray) : nmT fs p 0 = [] := by simp [nmT]
theorem nmT_next (fs : List Fl) (p : ByteArray) (k : Nat) (h : k < fs.length) : nmT fs p (k + 1) = nmT fs p k ++ (if pfx fs[k].nm p then [fs[k].nm] else []) := by
  unfold nmT
  rw [List.take_add_one, List.getElem?_eq_getElem h, List.filter_append, List.map_append]
  by_cases hp : pfx fs[k].nm p = true <;> simp [hp]
theorem nmT_len (fs : List Fl) (p : ByteArray) (k : Nat) : (nmT fs p k).length ≤ k := by
  unfold nmT
  rw [List.length_map]
  exact Nat.le_trans (List.length_filter_le _ _) (by rw [List.length_take]; omega)
theorem row_le {w : World} {base base' : Nat} {e : TypeId} {size n : Nat} {v : Value} {xs : List Value} (h : w.ownsRow base e size v n xs) (hb : base' ≤ base) : w.ownsRow base' e size v n xs := ⟨h.1, h.2.elim Or.inl (fun ⟨g, cap, cur, hv, hg, r⟩ => Or.inr ⟨g, cap, cur, hv, Nat.le_trans hb hg, r⟩)⟩
/-- What Names tells. -/
def nms (fs : List Fl) (dn : Bool) (p : ByteArray) : List ByteArray := if rdN fs dn = 0 then nmT fs p fs.length else []
def NamesIs (w : World) (fs : List Fl) (dn : Bool) (p : ByteArray) (e : Ending) (w' : World) : Prop :=
  ∃ v', e = .returned (.tuple #[v', .int .i64 (rdN fs dn : Nat)]) ∧ w'.ownsRow w.heap.size 9 1 v' (nms fs dn p).length ((nms fs dn p).map .string) ∧ Below w.heap.size w w'

end Dk
end Go.Proofs.Ytpncflgcfndhmaa
