/-
  No cell of these rows narrows 'for every input' (looked for: loops, veiled, ifaces, maps, wideKeys, modest, calm, conditions, laid).
  DERIVED. THE GIVEN ROWS OF THIS SEAT. 9 by the template 'for every input the law returns true; each argument reads behind the call as it read before'; 0 by the template 'total and deterministic' (their statements: YthbmnkeigmbbdaaGreatTotals.lean).
  GIVEN WITH THE SEED: the statements are not yours to turn. If you find one false, say at which input.
  Laid BY PROGRAM, IN A SANDBOX (cutbox-rows.mjs): the forced cells as the released guide's own fill.sh prints them over the translation ab848800978afa10… (all of the seat's roots in one cut). By AI agents, Wed Nov 11 2026. No macro, syntax, notation, axiom, sorry.
-/
import Derived.Test.YthbmnkeigmbbdaaGreatChecked
import GoSem.Claim
import GoSem.ClaimJoined
import GoSem.ClaimMapViews
import Derived.JoinedTies
import Derived.KernelRfl
namespace Go.Proofs.YthbmnkeigmbbdaaGreat
/- THE CELL 'sum', in the pinned program and in every row, IS THE sha256 OF THE DUMP (.gsa) THAT YthbmnkeigmbbdaaGreatProg.lean LOADS. Nothing in Lean hashes anything: it is a label: what it is worth is what the hold of that sum in a sandbox is worth. -/
noncomputable def Tryz.pinned : Pinned := { name := "ythbmnkeigmbbdaagreat", sum := "ab848800978afa1026ee66d0cfaad369a373b0710598915962d8008451b711c6", checked := Tryz.checked }
namespace Rows
def none {H : Type} : Left H := { results := [], args := [] }

/-- 'gafferlaw11.QueueAsks': WHATEVER THE INPUT: true; the input reads as it did. -/
def queueAsksSpec : ChangeSpec := { name := "queueAsks", fn := fun _ => fun
  | [d1, d2] => { results := [.lit (.bool true)], args := [d1, d2] }
  | _ => none }
def queueAsksRow : OpenClaim := { program := "ythbmnkeigmbbdaagreat", sum := "ab848800978afa1026ee66d0cfaad369a373b0710598915962d8008451b711c6", func := "gaffer/gafferlaw11.QueueAsks", spec := "queueAsks", unfollowed := true, recurses := true, apart := false }
def QueueAsksSaid : Prop := queueAsksRow.holds Tryz.pinned (OpenSpec.ofChange queueAsksSpec)

/-- ITS FALSE NEIGHBOUR: 'it returns false'. Refute it at one input. -/
def queueAsksWrong : ChangeSpec := { name := "queueAsks", fn := fun _ => fun
  | [d1, d2] => { results := [.lit (.bool false)], args := [d1, d2] }
  | _ => none }
def QueueAsksWrongFalsely : Prop := queueAsksRow.holds Tryz.pinned (OpenSpec.ofChange queueAsksWrong)

/-- 'gafferlaw11.QueueFree': WHATEVER THE INPUT: true; the input reads as it did. -/
def queueFreeSpec : ChangeSpec := { name := "queueFree", fn := fun _ => fun
  | [d1, d2] => { results := [.lit (.bool true)], args := [d1, d2] }
  | _ => none }
def queueFreeRow : OpenClaim := { program := "ythbmnkeigmbbdaagreat", sum := "ab848800978afa1026ee66d0cfaad369a373b0710598915962d8008451b711c6", func := "gaffer/gafferlaw11.QueueFree", spec := "queueFree", inPlace := ["slices.overlaps[gaffer/api.Node]", "slices.overlaps[gaffer/api.Task]", "slices.overlaps[gaffer/api.Bind]"], unfollowed := true, recurses := true, apart := false }
def QueueFreeSaid : Prop := queueFreeRow.holds Tryz.pinned (OpenSpec.ofChange queueFreeSpec)

/-- ITS FALSE NEIGHBOUR: 'it returns false'. Refute it at one input. -/
def queueFreeWrong : ChangeSpec := { name := "queueFree", fn := fun _ => fun
  | [d1, d2] => { results := [.lit (.bool false)], args := [d1, d2] }
  | _ => none }
def QueueFreeWrongFalsely : Prop := queueFreeRow.holds Tryz.pinned (OpenSpec.ofChange queueFreeWrong)

/-- 'gafferlaw12.SchedPlans': WHATEVER THE INPUT: true; the input reads as it did. -/
def schedPlansSpec : ChangeSpec := { name := "schedPlans", fn := fun _ => fun
  | [d1, d2] => { results := [.lit (.bool true)], args := [d1, d2] }
  | _ => none }
def schedPlansRow : OpenClaim := { program := "ythbmnkeigmbbdaagreat", sum := "ab848800978afa1026ee66d0cfaad369a373b0710598915962d8008451b711c6", func := "gaffer/gafferlaw12.SchedPlans", spec := "schedPlans", inPlace := ["slices.overlaps[gaffer/api.Node]", "slices.overlaps[gaffer/api.Task]", "slices.overlaps[gaffer/api.Bind]"], unfollowed := true, recurses := true, apart := false }
def SchedPlansSaid : Prop := schedPlansRow.holds Tryz.pinned (OpenSpec.ofChange schedPlansSpec)

/-- ITS FALSE NEIGHBOUR: 'it returns false'. Refute it at one input. -/
def schedPlansWrong : ChangeSpec := { name := "schedPlans", fn := fun _ => fun
  | [d1, d2] => { results := [.lit (.bool false)], args := [d1, d2] }
  | _ => none }
def SchedPlansWrongFalsely : Prop := schedPlansRow.holds Tryz.pinned (OpenSpec.ofChange schedPlansWrong)

/-- 'gafferlaw12.SchedAll': WHATEVER THE INPUT: true; the input reads as it did. -/
def schedAllSpec : ChangeSpec := { name := "schedAll", fn := fun _ => fun
  | [d1, d2] => { results := [.lit (.bool true)], args := [d1, d2] }
  | _ => none }
def schedAllRow : OpenClaim := { program := "ythbmnkeigmbbdaagreat", sum := "ab848800978afa1026ee66d0cfaad369a373b0710598915962d8008451b711c6", func := "gaffer/gafferlaw12.SchedAll", spec := "schedAll", inPlace := ["slices.overlaps[gaffer/api.Node]", "slices.overlaps[gaffer/api.Task]", "slices.overlaps[gaffer/api.Bind]"], unfollowed := true, recurses := true, apart := false }
def SchedAllSaid : Prop := schedAllRow.holds Tryz.pinned (OpenSpec.ofChange schedAllSpec)

/-- ITS FALSE NEIGHBOUR: 'it returns false'. Refute it at one input. -/
def schedAllWrong : ChangeSpec := { name := "schedAll", fn := fun _ => fun
  | [d1, d2] => { results := [.lit (.bool false)], args := [d1, d2] }
  | _ => none }
def SchedAllWrongFalsely : Prop := schedAllRow.holds Tryz.pinned (OpenSpec.ofChange schedAllWrong)

/-- 'gafferlaw12.SchedEnds': WHATEVER THE INPUT: true; the input reads as it did. -/
def schedEndsSpec : ChangeSpec := { name := "schedEnds", fn := fun _ => fun
  | [d] => { results := [.lit (.bool true)], args := [d] }
  | _ => none }
def schedEndsRow : OpenClaim := { program := "ythbmnkeigmbbdaagreat", sum := "ab848800978afa1026ee66d0cfaad369a373b0710598915962d8008451b711c6", func := "gaffer/gafferlaw12.SchedEnds", spec := "schedEnds", inPlace := ["slices.overlaps[gaffer/api.Node]", "slices.overlaps[gaffer/api.Task]", "slices.overlaps[gaffer/api.Bind]"], unfollowed := true, recurses := true, apart := false }
def SchedEndsSaid : Prop := schedEndsRow.holds Tryz.pinned (OpenSpec.ofChange schedEndsSpec)

/-- ITS FALSE NEIGHBOUR: 'it returns false'. Refute it at one input. -/
def schedEndsWrong : ChangeSpec := { name := "schedEnds", fn := fun _ => fun
  | [d] => { results := [.lit (.bool false)], args := [d] }
  | _ => none }
def SchedEndsWrongFalsely : Prop := schedEndsRow.holds Tryz.pinned (OpenSpec.ofChange schedEndsWrong)

/-- 'gafferlaw12.SchedFirst': WHATEVER THE INPUT: true; the input reads as it did. -/
def schedFirstSpec : ChangeSpec := { name := "schedFirst", fn := fun _ => fun
  | [d] => { results := [.lit (.bool true)], args := [d] }
  | _ => none }
def schedFirstRow : OpenClaim := { program := "ythbmnkeigmbbdaagreat", sum := "ab848800978afa1026ee66d0cfaad369a373b0710598915962d8008451b711c6", func := "gaffer/gafferlaw12.SchedFirst", spec := "schedFirst", inPlace := ["slices.overlaps[gaffer/api.Node]", "slices.overlaps[gaffer/api.Task]", "slices.overlaps[gaffer/api.Bind]"], unfollowed := true, recurses := true, apart := false }
def SchedFirstSaid : Prop := schedFirstRow.holds Tryz.pinned (OpenSpec.ofChange schedFirstSpec)

/-- ITS FALSE NEIGHBOUR: 'it returns false'. Refute it at one input. -/
def schedFirstWrong : ChangeSpec := { name := "schedFirst", fn := fun _ => fun
  | [d] => { results := [.lit (.bool false)], args := [d] }
  | _ => none }
def SchedFirstWrongFalsely : Prop := schedFirstRow.holds Tryz.pinned (OpenSpec.ofChange schedFirstWrong)

/-- 'gafferlaw12.SchedFence': WHATEVER THE INPUT: true; the input reads as it did. -/
def schedFenceSpec : ChangeSpec := { name := "schedFence", fn := fun _ => fun
  | [d1, d2, d3] => { results := [.lit (.bool true)], args := [d1, d2, d3] }
  | _ => none }
def schedFenceRow : OpenClaim := { program := "ythbmnkeigmbbdaagreat", sum := "ab848800978afa1026ee66d0cfaad369a373b0710598915962d8008451b711c6", func := "gaffer/gafferlaw12.SchedFence", spec := "schedFence", inPlace := ["slices.overlaps[gaffer/api.Node]", "slices.overlaps[gaffer/api.Task]", "slices.overlaps[gaffer/api.Bind]"], unfollowed := true, recurses := true, apart := false }
def SchedFenceSaid : Prop := schedFenceRow.holds Tryz.pinned (OpenSpec.ofChange schedFenceSpec)

/-- ITS FALSE NEIGHBOUR: 'it returns false'. Refute it at one input. -/
def schedFenceWrong : ChangeSpec := { name := "schedFence", fn := fun _ => fun
  | [d1, d2, d3] => { results := [.lit (.bool false)], args := [d1, d2, d3] }
  | _ => none }
def SchedFenceWrongFalsely : Prop := schedFenceRow.holds Tryz.pinned (OpenSpec.ofChange schedFenceWrong)

/-- 'gaffertop.TopFull': WHATEVER THE INPUT: true; the input reads as it did. -/
def topFullSpec : ChangeSpec := { name := "topFull", fn := fun _ => fun
  | [d1, d2] => { results := [.lit (.bool true)], args := [d1, d2] }
  | _ => none }
def topFullRow : OpenClaim := { program := "ythbmnkeigmbbdaagreat", sum := "ab848800978afa1026ee66d0cfaad369a373b0710598915962d8008451b711c6", func := "gaffer/gaffertop.TopFull", spec := "topFull", inPlace := ["slices.overlaps[gaffer/api.File]", "slices.overlaps[gaffer/api.Node]", "slices.overlaps[gaffer/api.Task]", "slices.overlaps[gaffer/api.Bind]"], unfollowed := true, recurses := true, apart := false }
def TopFullSaid : Prop := topFullRow.holds Tryz.pinned (OpenSpec.ofChange topFullSpec)

/-- ITS FALSE NEIGHBOUR: 'it returns false'. Refute it at one input. -/
def topFullWrong : ChangeSpec := { name := "topFull", fn := fun _ => fun
  | [d1, d2] => { results := [.lit (.bool false)], args := [d1, d2] }
  | _ => none }
def TopFullWrongFalsely : Prop := topFullRow.holds Tryz.pinned (OpenSpec.ofChange topFullWrong)

/-- 'gaffertop.TopQuiet': WHATEVER THE INPUT: true; the input reads as it did. -/
def topQuietSpec : ChangeSpec := { name := "topQuiet", fn := fun _ => fun
  | [d1, d2] => { results := [.lit (.bool true)], args := [d1, d2] }
  | _ => none }
def topQuietRow : OpenClaim := { program := "ythbmnkeigmbbdaagreat", sum := "ab848800978afa1026ee66d0cfaad369a373b0710598915962d8008451b711c6", func := "gaffer/gaffertop.TopQuiet", spec := "topQuiet", inPlace := ["slices.overlaps[gaffer/api.File]", "slices.overlaps[gaffer/api.Node]", "slices.overlaps[gaffer/api.Task]", "slices.overlaps[gaffer/api.Bind]"], unfollowed := true, recurses := true, apart := false }
def TopQuietSaid : Prop := topQuietRow.holds Tryz.pinned (OpenSpec.ofChange topQuietSpec)

/-- ITS FALSE NEIGHBOUR: 'it returns false'. Refute it at one input. -/
def topQuietWrong : ChangeSpec := { name := "topQuiet", fn := fun _ => fun
  | [d1, d2] => { results := [.lit (.bool false)], args := [d1, d2] }
  | _ => none }
def TopQuietWrongFalsely : Prop := topQuietRow.holds Tryz.pinned (OpenSpec.ofChange topQuietWrong)

/- THE SECOND FORM. 'bulk': how many values and letters a reading holds, each counted each time it is reached (what is shared counts as often as it is met; a slice's spare places count too). A statement '..UptoSaid' is the law's where the arguments, and the package variables that the reading takes, are together of bulk at most 1048576: NARROWER than '..Said'. Prove '..Said' where nothing that the law and all that it calls make is longer than what came in: it says more and counts as full. Else prove '..UptoSaid'. A law counts once. -/
mutual
def uptoBulk {H : Type} : DataW H → Nat
  | .lit (.string bytes) => bytes.length + 1
  | .lit _ => 1
  | .nil => 1
  | .ptr d => uptoBulk d + 1
  | .slice elems spare => uptoBulkAll elems + uptoBulkAll spare + 1
  | .agg parts => uptoBulkAll parts + 1
  | .iface _ d => uptoBulk d + 1
  | .map entries => uptoBulkEntries entries + 1
  | .held _ => 1
def uptoBulkAll {H : Type} : List (DataW H) → Nat
  | [] => 0
  | d :: r => uptoBulk d + uptoBulkAll r
def uptoBulkEntries {H : Type} : List (Lit × DataW H) → Nat
  | [] => 0
  | x :: r => uptoBulkEntry x + uptoBulkEntries r
def uptoBulkEntry {H : Type} : Lit × DataW H → Nat
  | (.string bytes, d) => bytes.length + uptoBulk d + 1
  | (_, d) => uptoBulk d + 1
 end
def uptoSmall : (H : Type) → List (DataW H) → Bool := fun _ ds => decide (uptoBulkAll ds ≤ 1048576)
def OpenSpec.upto (s : _root_.Go.ChangeSpec) : _root_.Go.OpenSpec := { _root_.Go.OpenSpec.ofChange s with cond := some uptoSmall }

/-- 'gafferlaw11.QueueAsks', WHERE WHAT IT READS IS OF BULK AT MOST 1048576: true; the input reads as it did. -/
def queueAsksUptoRow : OpenClaim := { program := "ythbmnkeigmbbdaagreat", sum := "ab848800978afa1026ee66d0cfaad369a373b0710598915962d8008451b711c6", func := "gaffer/gafferlaw11.QueueAsks", spec := "queueAsks", unfollowed := true, recurses := true, apart := false, narrowed := true }
def QueueAsksUptoSaid : Prop := queueAsksUptoRow.holds Tryz.pinned (OpenSpec.upto queueAsksSpec)

/-- 'gafferlaw11.QueueFree', WHERE WHAT IT READS IS OF BULK AT MOST 1048576: true; the input reads as it did. -/
def queueFreeUptoRow : OpenClaim := { program := "ythbmnkeigmbbdaagreat", sum := "ab848800978afa1026ee66d0cfaad369a373b0710598915962d8008451b711c6", func := "gaffer/gafferlaw11.QueueFree", spec := "queueFree", inPlace := ["slices.overlaps[gaffer/api.Node]", "slices.overlaps[gaffer/api.Task]", "slices.overlaps[gaffer/api.Bind]"], unfollowed := true, recurses := true, apart := false, narrowed := true }
def QueueFreeUptoSaid : Prop := queueFreeUptoRow.holds Tryz.pinned (OpenSpec.upto queueFreeSpec)

/-- 'gafferlaw12.SchedPlans', WHERE WHAT IT READS IS OF BULK AT MOST 1048576: true; the input reads as it did. -/
def schedPlansUptoRow : OpenClaim := { program := "ythbmnkeigmbbdaagreat", sum := "ab848800978afa1026ee66d0cfaad369a373b0710598915962d8008451b711c6", func := "gaffer/gafferlaw12.SchedPlans", spec := "schedPlans", inPlace := ["slices.overlaps[gaffer/api.Node]", "slices.overlaps[gaffer/api.Task]", "slices.overlaps[gaffer/api.Bind]"], unfollowed := true, recurses := true, apart := false, narrowed := true }
def SchedPlansUptoSaid : Prop := schedPlansUptoRow.holds Tryz.pinned (OpenSpec.upto schedPlansSpec)

/-- 'gafferlaw12.SchedAll', WHERE WHAT IT READS IS OF BULK AT MOST 1048576: true; the input reads as it did. -/
def schedAllUptoRow : OpenClaim := { program := "ythbmnkeigmbbdaagreat", sum := "ab848800978afa1026ee66d0cfaad369a373b0710598915962d8008451b711c6", func := "gaffer/gafferlaw12.SchedAll", spec := "schedAll", inPlace := ["slices.overlaps[gaffer/api.Node]", "slices.overlaps[gaffer/api.Task]", "slices.overlaps[gaffer/api.Bind]"], unfollowed := true, recurses := true, apart := false, narrowed := true }
def SchedAllUptoSaid : Prop := schedAllUptoRow.holds Tryz.pinned (OpenSpec.upto schedAllSpec)

/-- 'gafferlaw12.SchedEnds', WHERE WHAT IT READS IS OF BULK AT MOST 1048576: true; the input reads as it did. -/
def schedEndsUptoRow : OpenClaim := { program := "ythbmnkeigmbbdaagreat", sum := "ab848800978afa1026ee66d0cfaad369a373b0710598915962d8008451b711c6", func := "gaffer/gafferlaw12.SchedEnds", spec := "schedEnds", inPlace := ["slices.overlaps[gaffer/api.Node]", "slices.overlaps[gaffer/api.Task]", "slices.overlaps[gaffer/api.Bind]"], unfollowed := true, recurses := true, apart := false, narrowed := true }
def SchedEndsUptoSaid : Prop := schedEndsUptoRow.holds Tryz.pinned (OpenSpec.upto schedEndsSpec)

/-- 'gafferlaw12.SchedFirst', WHERE WHAT IT READS IS OF BULK AT MOST 1048576: true; the input reads as it did. -/
def schedFirstUptoRow : OpenClaim := { program := "ythbmnkeigmbbdaagreat", sum := "ab848800978afa1026ee66d0cfaad369a373b0710598915962d8008451b711c6", func := "gaffer/gafferlaw12.SchedFirst", spec := "schedFirst", inPlace := ["slices.overlaps[gaffer/api.Node]", "slices.overlaps[gaffer/api.Task]", "slices.overlaps[gaffer/api.Bind]"], unfollowed := true, recurses := true, apart := false, narrowed := true }
def SchedFirstUptoSaid : Prop := schedFirstUptoRow.holds Tryz.pinned (OpenSpec.upto schedFirstSpec)

/-- 'gafferlaw12.SchedFence', WHERE WHAT IT READS IS OF BULK AT MOST 1048576: true; the input reads as it did. -/
def schedFenceUptoRow : OpenClaim := { program := "ythbmnkeigmbbdaagreat", sum := "ab848800978afa1026ee66d0cfaad369a373b0710598915962d8008451b711c6", func := "gaffer/gafferlaw12.SchedFence", spec := "schedFence", inPlace := ["slices.overlaps[gaffer/api.Node]", "slices.overlaps[gaffer/api.Task]", "slices.overlaps[gaffer/api.Bind]"], unfollowed := true, recurses := true, apart := false, narrowed := true }
def SchedFenceUptoSaid : Prop := schedFenceUptoRow.holds Tryz.pinned (OpenSpec.upto schedFenceSpec)

/-- 'gaffertop.TopFull', WHERE WHAT IT READS IS OF BULK AT MOST 1048576: true; the input reads as it did. -/
def topFullUptoRow : OpenClaim := { program := "ythbmnkeigmbbdaagreat", sum := "ab848800978afa1026ee66d0cfaad369a373b0710598915962d8008451b711c6", func := "gaffer/gaffertop.TopFull", spec := "topFull", inPlace := ["slices.overlaps[gaffer/api.File]", "slices.overlaps[gaffer/api.Node]", "slices.overlaps[gaffer/api.Task]", "slices.overlaps[gaffer/api.Bind]"], unfollowed := true, recurses := true, apart := false, narrowed := true }
def TopFullUptoSaid : Prop := topFullUptoRow.holds Tryz.pinned (OpenSpec.upto topFullSpec)

/-- 'gaffertop.TopQuiet', WHERE WHAT IT READS IS OF BULK AT MOST 1048576: true; the input reads as it did. -/
def topQuietUptoRow : OpenClaim := { program := "ythbmnkeigmbbdaagreat", sum := "ab848800978afa1026ee66d0cfaad369a373b0710598915962d8008451b711c6", func := "gaffer/gaffertop.TopQuiet", spec := "topQuiet", inPlace := ["slices.overlaps[gaffer/api.File]", "slices.overlaps[gaffer/api.Node]", "slices.overlaps[gaffer/api.Task]", "slices.overlaps[gaffer/api.Bind]"], unfollowed := true, recurses := true, apart := false, narrowed := true }
def TopQuietUptoSaid : Prop := topQuietUptoRow.holds Tryz.pinned (OpenSpec.upto topQuietSpec)

end Rows
end Go.Proofs.YthbmnkeigmbbdaaGreat
