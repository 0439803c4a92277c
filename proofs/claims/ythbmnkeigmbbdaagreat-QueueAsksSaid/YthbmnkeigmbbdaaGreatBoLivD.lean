/-
  WHAT lives COMES TO, as plain data.
-/
import Derived.Test.YthbmnkeigmbbdaaGreatBgZ
namespace Go.Proofs.YthbmnkeigmbbdaaGreat
open Go.RowKit Go.Lib
namespace Bo
open Rw
set_option linter.unusedVariables false
theorem rng_mid {w : World} {B : Nat} {cs : List Value} (h : Hd.Bxn w B cs) (o : Nat) (vs : List Value) (hv : (cs.drop o).take vs.length = vs) : w.rangeAt B o vs := fun j v hj => by
  rw [← hv, List.getElem?_take] at hj
  split at hj
  · exact h.range o j v hj
  · cases hj
end Bo
end Go.Proofs.YthbmnkeigmbbdaaGreat
