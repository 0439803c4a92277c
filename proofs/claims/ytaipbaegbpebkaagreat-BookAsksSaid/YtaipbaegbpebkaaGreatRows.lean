/-
  No cell of these rows narrows 'for every input' (looked for: loops, veiled, ifaces, maps, wideKeys, modest, calm, conditions, laid).
  DERIVED. THE GIVEN ROWS OF THIS SEAT. 7 by the template 'for every input the law returns true; each argument reads behind the call as it read before'; 0 by the template 'total and deterministic' (their statements: YtaipbaegbpebkaaGreatTotals.lean).
  GIVEN WITH THE SEED: the statements are not yours to turn. If you find one false, say at which input.
  Laid BY PROGRAM, IN A SANDBOX (cutbox-rows.mjs): the forced cells as the released guide's own fill.sh prints them over the translation 4350c1cc5813da9b… (all of the seat's roots in one cut). By AI agents, Wed Nov 11 2026. No macro, syntax, notation, axiom, sorry.
-/
import Derived.Test.YtaipbaegbpebkaaGreatChecked
import GoSem.Claim
import GoSem.ClaimJoined
import GoSem.ClaimMapViews
import Derived.JoinedTies
import Derived.KernelRfl
namespace Go.Proofs.YtaipbaegbpebkaaGreat
/- THE CELL 'sum', in the pinned program and in every row, IS THE sha256 OF THE DUMP (.gsa) THAT YtaipbaegbpebkaaGreatProg.lean LOADS. Nothing in Lean hashes anything: it is a label: what it is worth is what the hold of that sum in a sandbox is worth. -/
noncomputable def Tryz.pinned : Pinned := { name := "ytaipbaegbpebkaagreat", sum := "4350c1cc5813da9b9fb86274843bdd89d2be2ccd75f8a3f446169d5e97186d81", checked := Tryz.checked }
namespace Rows
def none {H : Type} : Left H := { results := [], args := [] }

/-- 'gafferlaw08.BookDoes': WHATEVER THE INPUT: true; the input reads as it did. -/
def bookDoesSpec : ChangeSpec := { name := "bookDoes", fn := fun _ => fun
  | [d1, d2] => { results := [.lit (.bool true)], args := [d1, d2] }
  | _ => none }
def bookDoesRow : OpenClaim := { program := "ytaipbaegbpebkaagreat", sum := "4350c1cc5813da9b9fb86274843bdd89d2be2ccd75f8a3f446169d5e97186d81", func := "gaffer/gafferlaw08.BookDoes", spec := "bookDoes", inPlace := ["slices.overlaps[gaffer/api.Node]", "slices.overlaps[gaffer/api.Task]", "slices.overlaps[gaffer/api.Bind]"], unfollowed := true, recurses := true, apart := false }
def BookDoesSaid : Prop := bookDoesRow.holds Tryz.pinned (OpenSpec.ofChange bookDoesSpec)

/-- ITS FALSE NEIGHBOUR: 'it returns false'. Refute it at one input. -/
def bookDoesWrong : ChangeSpec := { name := "bookDoes", fn := fun _ => fun
  | [d1, d2] => { results := [.lit (.bool false)], args := [d1, d2] }
  | _ => none }
def BookDoesWrongFalsely : Prop := bookDoesRow.holds Tryz.pinned (OpenSpec.ofChange bookDoesWrong)

/-- 'gafferlaw08.BookAsks': WHATEVER THE INPUT: true; the input reads as it did. -/
def bookAsksSpec : ChangeSpec := { name := "bookAsks", fn := fun _ => fun
  | [d1, d2, d3, d4] => { results := [.lit (.bool true)], args := [d1, d2, d3, d4] }
  | _ => none }
def bookAsksRow : OpenClaim := { program := "ytaipbaegbpebkaagreat", sum := "4350c1cc5813da9b9fb86274843bdd89d2be2ccd75f8a3f446169d5e97186d81", func := "gaffer/gafferlaw08.BookAsks", spec := "bookAsks", inPlace := ["slices.overlaps[gaffer/api.Node]", "slices.overlaps[gaffer/api.Task]", "slices.overlaps[gaffer/api.Bind]"], unfollowed := true, recurses := true, apart := false }
def BookAsksSaid : Prop := bookAsksRow.holds Tryz.pinned (OpenSpec.ofChange bookAsksSpec)

/-- ITS FALSE NEIGHBOUR: 'it returns false'. Refute it at one input. -/
def bookAsksWrong : ChangeSpec := { name := "bookAsks", fn := fun _ => fun
  | [d1, d2, d3, d4] => { results := [.lit (.bool false)], args := [d1, d2, d3, d4] }
  | _ => none }
def BookAsksWrongFalsely : Prop := bookAsksRow.holds Tryz.pinned (OpenSpec.ofChange bookAsksWrong)

/-- 'gafferlaw08.BookRight': WHATEVER THE INPUT: true; the input reads as it did. -/
def bookRightSpec : ChangeSpec := { name := "bookRight", fn := fun _ => fun
  | [d1, d2] => { results := [.lit (.bool true)], args := [d1, d2] }
  | _ => none }
def bookRightRow : OpenClaim := { program := "ytaipbaegbpebkaagreat", sum := "4350c1cc5813da9b9fb86274843bdd89d2be2ccd75f8a3f446169d5e97186d81", func := "gaffer/gafferlaw08.BookRight", spec := "bookRight", inPlace := ["slices.overlaps[gaffer/api.Node]", "slices.overlaps[gaffer/api.Task]", "slices.overlaps[gaffer/api.Bind]"], unfollowed := true, recurses := true, apart := false }
def BookRightSaid : Prop := bookRightRow.holds Tryz.pinned (OpenSpec.ofChange bookRightSpec)

/-- ITS FALSE NEIGHBOUR: 'it returns false'. Refute it at one input. -/
def bookRightWrong : ChangeSpec := { name := "bookRight", fn := fun _ => fun
  | [d1, d2] => { results := [.lit (.bool false)], args := [d1, d2] }
  | _ => none }
def BookRightWrongFalsely : Prop := bookRightRow.holds Tryz.pinned (OpenSpec.ofChange bookRightWrong)

/-- 'gafferlaw08.BookFenced': WHATEVER THE INPUT: true; the input reads as it did. -/
def bookFencedSpec : ChangeSpec := { name := "bookFenced", fn := fun _ => fun
  | [d1, d2, d3] => { results := [.lit (.bool true)], args := [d1, d2, d3] }
  | _ => none }
def bookFencedRow : OpenClaim := { program := "ytaipbaegbpebkaagreat", sum := "4350c1cc5813da9b9fb86274843bdd89d2be2ccd75f8a3f446169d5e97186d81", func := "gaffer/gafferlaw08.BookFenced", spec := "bookFenced", inPlace := ["slices.overlaps[gaffer/api.Node]", "slices.overlaps[gaffer/api.Task]", "slices.overlaps[gaffer/api.Bind]"], unfollowed := true, recurses := true, apart := false }
def BookFencedSaid : Prop := bookFencedRow.holds Tryz.pinned (OpenSpec.ofChange bookFencedSpec)

/-- ITS FALSE NEIGHBOUR: 'it returns false'. Refute it at one input. -/
def bookFencedWrong : ChangeSpec := { name := "bookFenced", fn := fun _ => fun
  | [d1, d2, d3] => { results := [.lit (.bool false)], args := [d1, d2, d3] }
  | _ => none }
def BookFencedWrongFalsely : Prop := bookFencedRow.holds Tryz.pinned (OpenSpec.ofChange bookFencedWrong)

/-- 'gafferlaw08.BookCan': WHATEVER THE INPUT: true; the input reads as it did. -/
def bookCanSpec : ChangeSpec := { name := "bookCan", fn := fun _ => fun
  | [d1, d2, d3] => { results := [.lit (.bool true)], args := [d1, d2, d3] }
  | _ => none }
def bookCanRow : OpenClaim := { program := "ytaipbaegbpebkaagreat", sum := "4350c1cc5813da9b9fb86274843bdd89d2be2ccd75f8a3f446169d5e97186d81", func := "gaffer/gafferlaw08.BookCan", spec := "bookCan", inPlace := ["slices.overlaps[gaffer/api.Node]", "slices.overlaps[gaffer/api.Task]", "slices.overlaps[gaffer/api.Bind]"], unfollowed := true, recurses := true, apart := false }
def BookCanSaid : Prop := bookCanRow.holds Tryz.pinned (OpenSpec.ofChange bookCanSpec)

/-- ITS FALSE NEIGHBOUR: 'it returns false'. Refute it at one input. -/
def bookCanWrong : ChangeSpec := { name := "bookCan", fn := fun _ => fun
  | [d1, d2, d3] => { results := [.lit (.bool false)], args := [d1, d2, d3] }
  | _ => none }
def BookCanWrongFalsely : Prop := bookCanRow.holds Tryz.pinned (OpenSpec.ofChange bookCanWrong)

/-- 'gafferlaw08.BookOwn': WHATEVER THE INPUT: true; the input reads as it did. -/
def bookOwnSpec : ChangeSpec := { name := "bookOwn", fn := fun _ => fun
  | [d1, d2] => { results := [.lit (.bool true)], args := [d1, d2] }
  | _ => none }
def bookOwnRow : OpenClaim := { program := "ytaipbaegbpebkaagreat", sum := "4350c1cc5813da9b9fb86274843bdd89d2be2ccd75f8a3f446169d5e97186d81", func := "gaffer/gafferlaw08.BookOwn", spec := "bookOwn", inPlace := ["slices.overlaps[gaffer/api.Node]", "slices.overlaps[gaffer/api.Task]", "slices.overlaps[gaffer/api.Bind]"], unfollowed := true, recurses := true, apart := false }
def BookOwnSaid : Prop := bookOwnRow.holds Tryz.pinned (OpenSpec.ofChange bookOwnSpec)

/-- ITS FALSE NEIGHBOUR: 'it returns false'. Refute it at one input. -/
def bookOwnWrong : ChangeSpec := { name := "bookOwn", fn := fun _ => fun
  | [d1, d2] => { results := [.lit (.bool false)], args := [d1, d2] }
  | _ => none }
def BookOwnWrongFalsely : Prop := bookOwnRow.holds Tryz.pinned (OpenSpec.ofChange bookOwnWrong)

/-- 'gafferlaw08.BookNames': WHATEVER THE INPUT: true; the input reads as it did. -/
def bookNamesSpec : ChangeSpec := { name := "bookNames", fn := fun _ => fun
  | [d1, d2] => { results := [.lit (.bool true)], args := [d1, d2] }
  | _ => none }
def bookNamesRow : OpenClaim := { program := "ytaipbaegbpebkaagreat", sum := "4350c1cc5813da9b9fb86274843bdd89d2be2ccd75f8a3f446169d5e97186d81", func := "gaffer/gafferlaw08.BookNames", spec := "bookNames", inPlace := ["slices.overlaps[gaffer/api.Node]", "slices.overlaps[gaffer/api.Task]", "slices.overlaps[gaffer/api.Bind]"], unfollowed := true, recurses := true, apart := false }
def BookNamesSaid : Prop := bookNamesRow.holds Tryz.pinned (OpenSpec.ofChange bookNamesSpec)

/-- ITS FALSE NEIGHBOUR: 'it returns false'. Refute it at one input. -/
def bookNamesWrong : ChangeSpec := { name := "bookNames", fn := fun _ => fun
  | [d1, d2] => { results := [.lit (.bool false)], args := [d1, d2] }
  | _ => none }
def BookNamesWrongFalsely : Prop := bookNamesRow.holds Tryz.pinned (OpenSpec.ofChange bookNamesWrong)

/- THE SECOND FORM. 'bulk': how many values and letters a reading holds, each counted each time it is reached (what is shared counts as often as it is met; a slice's spare places count too). A statement '..UptoSaid' is the law's where the arguments, and the package variables that the reading takes, are together of bulk at most 1048576: NARROWER than '..Said'. Prove '..Said' where nothing that the law and all that it calls make is longer than what came in: it says more and counts as full. Else prove '..UptoSaid'. A law counts once. -/
mutual
def uptoBulk {H : Type} : DataW H → Nat
  | .lit (.string bytes) => bytes.length + 1
  | .lit _ => 1
  | .nil => 1
  | .ptr d => uptoBulk d + 1
  | .slice elems spare => uptoBulkAll elems + uptoBulkAll spare + 1
  | .agg parts => uptoBulkAll parts + 1
  | .iface _ d => uptoBulk d + 1
  | .map entries => uptoBulkEntries entries + 1
  | .held _ => 1
def uptoBulkAll {H : Type} : List (DataW H) → Nat
  | [] => 0
  | d :: r => uptoBulk d + uptoBulkAll r
def uptoBulkEntries {H : Type} : List (Lit × DataW H) → Nat
  | [] => 0
  | x :: r => uptoBulkEntry x + uptoBulkEntries r
def uptoBulkEntry {H : Type} : Lit × DataW H → Nat
  | (.string bytes, d) => bytes.length + uptoBulk d + 1
  | (_, d) => uptoBulk d + 1
 end
def uptoSmall : (H : Type) → List (DataW H) → Bool := fun _ ds => decide (uptoBulkAll ds ≤ 1048576)
def OpenSpec.upto (s : _root_.Go.ChangeSpec) : _root_.Go.OpenSpec := { _root_.Go.OpenSpec.ofChange s with cond := some uptoSmall }

/-- 'gafferlaw08.BookDoes', WHERE WHAT IT READS IS OF BULK AT MOST 1048576: true; the input reads as it did. -/
def bookDoesUptoRow : OpenClaim := { program := "ytaipbaegbpebkaagreat", sum := "4350c1cc5813da9b9fb86274843bdd89d2be2ccd75f8a3f446169d5e97186d81", func := "gaffer/gafferlaw08.BookDoes", spec := "bookDoes", inPlace := ["slices.overlaps[gaffer/api.Node]", "slices.overlaps[gaffer/api.Task]", "slices.overlaps[gaffer/api.Bind]"], unfollowed := true, recurses := true, apart := false, narrowed := true }
def BookDoesUptoSaid : Prop := bookDoesUptoRow.holds Tryz.pinned (OpenSpec.upto bookDoesSpec)

/-- 'gafferlaw08.BookAsks', WHERE WHAT IT READS IS OF BULK AT MOST 1048576: true; the input reads as it did. -/
def bookAsksUptoRow : OpenClaim := { program := "ytaipbaegbpebkaagreat", sum := "4350c1cc5813da9b9fb86274843bdd89d2be2ccd75f8a3f446169d5e97186d81", func := "gaffer/gafferlaw08.BookAsks", spec := "bookAsks", inPlace := ["slices.overlaps[gaffer/api.Node]", "slices.overlaps[gaffer/api.Task]", "slices.overlaps[gaffer/api.Bind]"], unfollowed := true, recurses := true, apart := false, narrowed := true }
def BookAsksUptoSaid : Prop := bookAsksUptoRow.holds Tryz.pinned (OpenSpec.upto bookAsksSpec)

/-- 'gafferlaw08.BookRight', WHERE WHAT IT READS IS OF BULK AT MOST 1048576: true; the input reads as it did. -/
def bookRightUptoRow : OpenClaim := { program := "ytaipbaegbpebkaagreat", sum := "4350c1cc5813da9b9fb86274843bdd89d2be2ccd75f8a3f446169d5e97186d81", func := "gaffer/gafferlaw08.BookRight", spec := "bookRight", inPlace := ["slices.overlaps[gaffer/api.Node]", "slices.overlaps[gaffer/api.Task]", "slices.overlaps[gaffer/api.Bind]"], unfollowed := true, recurses := true, apart := false, narrowed := true }
def BookRightUptoSaid : Prop := bookRightUptoRow.holds Tryz.pinned (OpenSpec.upto bookRightSpec)

/-- 'gafferlaw08.BookFenced', WHERE WHAT IT READS IS OF BULK AT MOST 1048576: true; the input reads as it did. -/
def bookFencedUptoRow : OpenClaim := { program := "ytaipbaegbpebkaagreat", sum := "4350c1cc5813da9b9fb86274843bdd89d2be2ccd75f8a3f446169d5e97186d81", func := "gaffer/gafferlaw08.BookFenced", spec := "bookFenced", inPlace := ["slices.overlaps[gaffer/api.Node]", "slices.overlaps[gaffer/api.Task]", "slices.overlaps[gaffer/api.Bind]"], unfollowed := true, recurses := true, apart := false, narrowed := true }
def BookFencedUptoSaid : Prop := bookFencedUptoRow.holds Tryz.pinned (OpenSpec.upto bookFencedSpec)

/-- 'gafferlaw08.BookCan', WHERE WHAT IT READS IS OF BULK AT MOST 1048576: true; the input reads as it did. -/
def bookCanUptoRow : OpenClaim := { program := "ytaipbaegbpebkaagreat", sum := "4350c1cc5813da9b9fb86274843bdd89d2be2ccd75f8a3f446169d5e97186d81", func := "gaffer/gafferlaw08.BookCan", spec := "bookCan", inPlace := ["slices.overlaps[gaffer/api.Node]", "slices.overlaps[gaffer/api.Task]", "slices.overlaps[gaffer/api.Bind]"], unfollowed := true, recurses := true, apart := false, narrowed := true }
def BookCanUptoSaid : Prop := bookCanUptoRow.holds Tryz.pinned (OpenSpec.upto bookCanSpec)

/-- 'gafferlaw08.BookOwn', WHERE WHAT IT READS IS OF BULK AT MOST 1048576: true; the input reads as it did. -/
def bookOwnUptoRow : OpenClaim := { program := "ytaipbaegbpebkaagreat", sum := "4350c1cc5813da9b9fb86274843bdd89d2be2ccd75f8a3f446169d5e97186d81", func := "gaffer/gafferlaw08.BookOwn", spec := "bookOwn", inPlace := ["slices.overlaps[gaffer/api.Node]", "slices.overlaps[gaffer/api.Task]", "slices.overlaps[gaffer/api.Bind]"], unfollowed := true, recurses := true, apart := false, narrowed := true }
def BookOwnUptoSaid : Prop := bookOwnUptoRow.holds Tryz.pinned (OpenSpec.upto bookOwnSpec)

/-- 'gafferlaw08.BookNames', WHERE WHAT IT READS IS OF BULK AT MOST 1048576: true; the input reads as it did. -/
def bookNamesUptoRow : OpenClaim := { program := "ytaipbaegbpebkaagreat", sum := "4350c1cc5813da9b9fb86274843bdd89d2be2ccd75f8a3f446169d5e97186d81", func := "gaffer/gafferlaw08.BookNames", spec := "bookNames", inPlace := ["slices.overlaps[gaffer/api.Node]", "slices.overlaps[gaffer/api.Task]", "slices.overlaps[gaffer/api.Bind]"], unfollowed := true, recurses := true, apart := false, narrowed := true }
def BookNamesUptoSaid : Prop := bookNamesUptoRow.holds Tryz.pinned (OpenSpec.upto bookNamesSpec)

end Rows
end Go.Proofs.YtaipbaegbpebkaaGreat
