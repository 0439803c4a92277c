/-
  Merged: BoModN, BoModT, BoModB.
-/
import Derived.Test.YthbmnkeigmbbdaaGreatBoOwn
import Derived.Test.YthbmnkeigmbbdaaGreatBoFindN
import Derived.Test.YthbmnkeigmbbdaaGreatBoFindT
import Derived.Test.YthbmnkeigmbbdaaGreatBoFindB
/-
  NODES: ONE PUT IN, ONE TAKEN OUT: book.add, book.drop.
-/
namespace Go.Proofs.YthbmnkeigmbbdaaGreat
open Go.RowKit Go.Lib
namespace Bo
open Rw
set_option linter.unusedVariables false
end Bo
end Go.Proofs.YthbmnkeigmbbdaaGreat

/-
  TASKS: ONE PUT IN, ONE TAKEN OUT: book.add, book.drop.
-/
namespace Go.Proofs.YthbmnkeigmbbdaaGreat
open Go.RowKit Go.Lib
namespace Bo
open Rw
set_option linter.unusedVariables false
end Bo
end Go.Proofs.YthbmnkeigmbbdaaGreat

/-
  BINDS: ONE PUT IN, ONE TAKEN OUT: book.add, book.drop.
-/
namespace Go.Proofs.YthbmnkeigmbbdaaGreat
open Go.RowKit Go.Lib
namespace Bo
open Rw
set_option linter.unusedVariables false
end Bo
end Go.Proofs.YthbmnkeigmbbdaaGreat
