/-
  Merged: BoAddN, BoAddT, BoDrpN, BoDrpT, BoFree.
-/
import Derived.Test.YthbmnkeigmbbdaaGreatBgB
import Derived.Deep.RegionWith
import Derived.Deep.RegionHeld3
/-
  NODES: book.addNode.
-/
namespace Go.Proofs.YthbmnkeigmbbdaaGreat
open Go.RowKit Go.Lib
namespace Bo
open Rw
set_option linter.unusedVariables false
end Bo
end Go.Proofs.YthbmnkeigmbbdaaGreat

/-
  TASKS: book.addTask.
-/
namespace Go.Proofs.YthbmnkeigmbbdaaGreat
open Go.RowKit Go.Lib
namespace Bo
open Rw
set_option linter.unusedVariables false
end Bo
end Go.Proofs.YthbmnkeigmbbdaaGreat

/-
  A NODE GONE: book.dropNode.
-/
namespace Go.Proofs.YthbmnkeigmbbdaaGreat
open Go.RowKit Go.Lib
namespace Bo
open Rw
set_option linter.unusedVariables false

set_option maxHeartbeats 1000000 in
theorem isOn (o : Rg.Pr) (k : ByteArray) (g : Nat) (w : World) (hg : w.cell? ⟨g, 0, none⟩ = some (.string k)) :
    Calls Tryz.prog 164 #[.agg #[.string o.k, .string o.v], .pointer (some ⟨g, 0, none⟩)] w fun e w' => e = .returned (.bool (decide (o.v = k))) ∧ Below w.heap.size w w' := by
  have hc := cell_old (.cells #[.string o.k, .string o.v] 106) hg
  by_cases h : o.v = k
  · rw [decide_eq_true h]
    subst h
    go_enter Tryz.func164, Tryz.ntmps164
    go_wp2
    go_ret
    exact ⟨by simp, al w _⟩
  · rw [decide_eq_false h]
    obtain ⟨n1, n2⟩ := Hd.ba_no h
    go_enter Tryz.func164, Tryz.ntmps164
    go_wp2
    go_ret
    exact ⟨rfl, al w _⟩
end Bo
end Go.Proofs.YthbmnkeigmbbdaaGreat

/-
  A TASK GONE: book.dropTask.
-/
namespace Go.Proofs.YthbmnkeigmbbdaaGreat
open Go.RowKit Go.Lib
namespace Bo
open Rw
set_option linter.unusedVariables false

end Bo
end Go.Proofs.YthbmnkeigmbbdaaGreat

/-
  A BIND GONE: book.free.
-/
namespace Go.Proofs.YthbmnkeigmbbdaaGreat
open Go.RowKit Go.Lib
namespace Bo
open Rw
set_option linter.unusedVariables false

end Bo
end Go.Proofs.YthbmnkeigmbbdaaGreat
