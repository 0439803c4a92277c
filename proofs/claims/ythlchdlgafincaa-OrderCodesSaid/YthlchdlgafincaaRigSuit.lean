/-
  WHO SUITS WHAT: rig.allAmong, the document's within, rig.Suits, the document's Suits, and the examples.
-/
import Derived.Test.YthlchdlgafincaaRgA
import Derived.Laws.StructEq
namespace Go.Proofs.Ythlchdlgafincaa
open Go.RowKit
namespace Rg
def eqP (p q : Pr) : Bool := (p.k.toList == q.k.toList) && (p.v.toList == q.v.toList)
def isIn (o : List Pr) (p : Pr) : Bool := o.any (eqP p)
def amongB (l o : List Pr) : Bool := l.all (isIn o)
theorem all_snoc (f : Pr → Bool) (l : List Pr) (k : Nat) (h : k < l.length) : (l.take (k + 1)).all f = ((l.take k).all f && f l[k]) := by
  rw [List.take_succ_eq_append_getElem h, List.all_append]; simp
theorem any_snoc (f : Pr → Bool) (l : List Pr) (k : Nat) (h : k < l.length) : (l.take (k + 1)).any f = ((l.take k).any f || f l[k]) := by
  rw [List.take_succ_eq_append_getElem h, List.any_append]; simp
theorem in_hit (o : List Pr) (p : Pr) (j : Nat) (h : j < o.length) (he : eqP p o[j] = true) : isIn o p = true := by
  unfold isIn
  rw [List.any_eq_true]
  exact ⟨_, List.getElem_mem h, he⟩
theorem among_miss (l o : List Pr) (k : Nat) (h : k < l.length) (hn : isIn o l[k] = false) : amongB l o = false := by
  unfold amongB
  rw [← Bool.not_eq_true, List.all_eq_true]
  intro ha
  have := ha _ (List.getElem_mem h)
  rw [hn] at this; cases this
set_option maxRecDepth 100000 in
theorem eql_pair (k1 v1 k2 v2 : ByteArray) (w : World) : (binOp .eql 132 (.agg #[.string k1, .string v1]) (.agg #[.string k2, .string v2])).run Try.prog w = .ok (.bool (eqP ⟨k1, v1⟩ ⟨k2, v2⟩)) w := by
  have u9 := Try.underlying9
  have a9 := Try.isAgg9
  have z9 := Try.sizeOf9
  have hS : Try.prog.underlying 132 = some (.struct (Try.prog.fieldsOf 132)) := by kernel_rfl
  have hp : Try.prog.stoodInHeld 132 = false := by kernel_rfl
  rw [run_eql_struct, show (10000 : Nat) = 9999 + 1 from rfl, run_equalIn_agg w 9999 132 _ _ hS hp]
  simp only [Program.fieldsOf, Try.underlying132]
  go_simp
  by_cases h1 : k1.toList = k2.toList <;> by_cases h2 : v1.toList = v2.toList <;> simp [h1, h2, eqP]
theorem guard_pair : Try.prog.eqGuardType Try.prog.depth 132 = false := by kernel_rfl

end Rg
end Go.Proofs.Ythlchdlgafincaa
