/-
  ROWS OF k CELLS: copy; something put in; lists of cells.
-/
import Derived.Test.YthbmnkeigmbbdaaGreatBoBase
import Derived.Deep.RegionLaw
import Derived.Laws.IdiomRangeMap
import Derived.Lib.AppendZerosOnto
import Derived.Lib.Overlaps
import Derived.Shelf.Spec.SlicesInsert
namespace Go.Proofs.YthbmnkeigmbbdaaGreat
open Go.RowKit Go.Lib Go.Sort
namespace Rw
set_option linter.unusedVariables false
section
variable {P : Program}
end
section
variable {α : Type} [F : Flat α]
end
end Rw
end Go.Proofs.YthbmnkeigmbbdaaGreat
