/-
  Merged: BoModN, BoModT, BoModB.
-/
import Derived.Test.YthbmnkeigmbbdaaBoOwn
import Derived.Test.YthbmnkeigmbbdaaBoFindN
import Derived.Test.YthbmnkeigmbbdaaBoFindT
import Derived.Test.YthbmnkeigmbbdaaBoFindB
/-
  NODES: ONE PUT IN, ONE TAKEN OUT: book.add, book.drop.
-/
namespace Go.Proofs.Ythbmnkeigmbbdaa
open Go.RowKit Go.Lib
namespace Bo
open Rw
set_option linter.unusedVariables false
theorem after_n {w w1 w2 : World} {own : Option Nat} (h : Below w.heap.size w w1) (hg : w1.grownBy w2 own) : w.grownBy w2 own :=
  ⟨hg.os.trans h.os, hg.tape.trans h.tape, hg.output.trans h.output, Nat.le_trans h.size hg.size, fun k hk hne => (hg.block k (Nat.lt_of_lt_of_le hk h.size) hne).trans (h.block k hk)⟩

/-- What add tells: it is there, there is no room, or it is put in. -/
def AddN (w : World) (base : Nat) (v : Value) (m : List NdM) (most : Nat) (y : NdM) (e : Ending) (w' : World) : Prop :=
  (hasK (m.map (·.nd.n)) y.nd.n = true ∧ e = .returned (.tuple #[v, .int .i64 7]) ∧ Below w.heap.size w w') ∨
  (hasK (m.map (·.nd.n)) y.nd.n = false ∧ most ≤ m.length ∧ e = .returned (.tuple #[v, .int .i64 11]) ∧ Below w.heap.size w w') ∨
  (hasK (m.map (·.nd.n)) y.nd.n = false ∧ m.length < most ∧ ∃ v', e = .returned (.tuple #[v', .int .i64 0]) ∧ Own w' base 44 v' (insR m (lbK (m.map (·.nd.n)) y.nd.n) y) ∧ w.grownBy w' v.ownBlock)
/-- What drop leaves: the list as it was, or without the one of that name. -/
def DropN (w : World) (base : Nat) (v : Value) (m : List NdM) (want : ByteArray) (e : Ending) (w' : World) : Prop :=
  (hasK (m.map (·.nd.n)) want = false ∧ e = .returned v ∧ Below w.heap.size w w') ∨
  (hasK (m.map (·.nd.n)) want = true ∧ ∃ v', e = .returned v' ∧ Own w' base 44 v' (m.eraseIdx (lbK (m.map (·.nd.n)) want)) ∧ w.grownBy w' v.ownBlock)
end Bo
end Go.Proofs.Ythbmnkeigmbbdaa

/-
  TASKS: ONE PUT IN, ONE TAKEN OUT: book.add, book.drop.
-/
namespace Go.Proofs.Ythbmnkeigmbbdaa
open Go.RowKit Go.Lib
namespace Bo
open Rw
set_option linter.unusedVariables false
theorem after_t {w w1 w2 : World} {own : Option Nat} (h : Below w.heap.size w w1) (hg : w1.grownBy w2 own) : w.grownBy w2 own :=
  ⟨hg.os.trans h.os, hg.tape.trans h.tape, hg.output.trans h.output, Nat.le_trans h.size hg.size, fun k hk hne => (hg.block k (Nat.lt_of_lt_of_le hk h.size) hne).trans (h.block k hk)⟩

/-- What add tells: it is there, there is no room, or it is put in. -/
def AddT (w : World) (base : Nat) (v : Value) (m : List TdM) (most : Nat) (y : TdM) (e : Ending) (w' : World) : Prop :=
  (hasK (m.map (·.td.n)) y.td.n = true ∧ e = .returned (.tuple #[v, .int .i64 7]) ∧ Below w.heap.size w w') ∨
  (hasK (m.map (·.td.n)) y.td.n = false ∧ most ≤ m.length ∧ e = .returned (.tuple #[v, .int .i64 11]) ∧ Below w.heap.size w w') ∨
  (hasK (m.map (·.td.n)) y.td.n = false ∧ m.length < most ∧ ∃ v', e = .returned (.tuple #[v', .int .i64 0]) ∧ Own w' base 36 v' (insR m (lbK (m.map (·.td.n)) y.td.n) y) ∧ w.grownBy w' v.ownBlock)
/-- What drop leaves: the list as it was, or without the one of that name. -/
def DropT (w : World) (base : Nat) (v : Value) (m : List TdM) (want : ByteArray) (e : Ending) (w' : World) : Prop :=
  (hasK (m.map (·.td.n)) want = false ∧ e = .returned v ∧ Below w.heap.size w w') ∨
  (hasK (m.map (·.td.n)) want = true ∧ ∃ v', e = .returned v' ∧ Own w' base 36 v' (m.eraseIdx (lbK (m.map (·.td.n)) want)) ∧ w.grownBy w' v.ownBlock)
end Bo
end Go.Proofs.Ythbmnkeigmbbdaa

/-
  BINDS: ONE PUT IN, ONE TAKEN OUT: book.add, book.drop.
-/
namespace Go.Proofs.Ythbmnkeigmbbdaa
open Go.RowKit Go.Lib
namespace Bo
open Rw
set_option linter.unusedVariables false
theorem after_b {w w1 w2 : World} {own : Option Nat} (h : Below w.heap.size w w1) (hg : w1.grownBy w2 own) : w.grownBy w2 own :=
  ⟨hg.os.trans h.os, hg.tape.trans h.tape, hg.output.trans h.output, Nat.le_trans h.size hg.size, fun k hk hne => (hg.block k (Nat.lt_of_lt_of_le hk h.size) hne).trans (h.block k hk)⟩

/-- What drop leaves: the list as it was, or without the one of that name. -/
def DropB (w : World) (base : Nat) (v : Value) (m : List Rg.Pr) (want : ByteArray) (e : Ending) (w' : World) : Prop :=
  (hasK (m.map (·.k)) want = false ∧ e = .returned v ∧ Below w.heap.size w w') ∨
  (hasK (m.map (·.k)) want = true ∧ ∃ v', e = .returned v' ∧ Own w' base 38 v' (m.eraseIdx (lbK (m.map (·.k)) want)) ∧ w.grownBy w' v.ownBlock)
end Bo
end Go.Proofs.Ythbmnkeigmbbdaa
