/-
  No cell of these rows narrows 'for every input' (looked for: loops, veiled, ifaces, maps, wideKeys, modest, calm, conditions, laid).
  DERIVED. THE GIVEN ROWS OF THIS SEAT. 5 by the template 'for every input the law returns true; each argument reads behind the call as it read before'; 0 by the template 'total and deterministic' (their statements: YtpncflgcfndhmaaTotals.lean).
  GIVEN WITH THE SEED: the statements are not yours to turn. If you find one false, say at which input.
  Laid BY PROGRAM, IN A SANDBOX (cutbox-rows.mjs): the forced cells as the released guide's own fill.sh prints them over the translation 705b5a9165d9f2fc… (all of the seat's roots in one cut). By AI agents, Wed Nov 11 2026. No macro, syntax, notation, axiom, sorry.
-/
import Derived.Test.YtpncflgcfndhmaaChecked
import GoSem.Claim
import GoSem.ClaimJoined
import GoSem.ClaimMapViews
import Derived.JoinedTies
import Derived.KernelRfl
namespace Go.Proofs.Ytpncflgcfndhmaa
/- THE CELL 'sum', in the pinned program and in every row, IS THE sha256 OF THE DUMP (.gsa) THAT YtpncflgcfndhmaaProg.lean LOADS. Nothing in Lean hashes anything: it is a label: what it is worth is what the hold of that sum in a sandbox is worth. -/
noncomputable def Try.pinned : Pinned := { name := "ytpncflgcfndhmaa", sum := "705b5a9165d9f2fcce74c5c56c26f7710cea9111196ab17c0e36c4ef56d94b35", checked := Try.checked }
namespace Rows
def none {H : Type} : Left H := { results := [], args := [] }

/-- 'gafferlaw04.HardDoes': WHATEVER THE INPUT: true; the input reads as it did. -/
def hardDoesSpec : ChangeSpec := { name := "hardDoes", fn := fun _ => fun
  | [d1, d2] => { results := [.lit (.bool true)], args := [d1, d2] }
  | _ => none }
def hardDoesRow : OpenClaim := { program := "ytpncflgcfndhmaa", sum := "705b5a9165d9f2fcce74c5c56c26f7710cea9111196ab17c0e36c4ef56d94b35", func := "gaffer/gafferlaw04.HardDoes", spec := "hardDoes", inPlace := ["slices.overlaps[gaffer/api.File]"], unfollowed := true, recurses := true, apart := false }
def HardDoesSaid : Prop := hardDoesRow.holds Try.pinned (OpenSpec.ofChange hardDoesSpec)

/-- ITS FALSE NEIGHBOUR: 'it returns false'. Refute it at one input. -/
def hardDoesWrong : ChangeSpec := { name := "hardDoes", fn := fun _ => fun
  | [d1, d2] => { results := [.lit (.bool false)], args := [d1, d2] }
  | _ => none }
def HardDoesWrongFalsely : Prop := hardDoesRow.holds Try.pinned (OpenSpec.ofChange hardDoesWrong)

/-- 'gafferlaw04.HardOne': WHATEVER THE INPUT: true; the input reads as it did. -/
def hardOneSpec : ChangeSpec := { name := "hardOne", fn := fun _ => fun
  | [d1, d2, d3, d4] => { results := [.lit (.bool true)], args := [d1, d2, d3, d4] }
  | _ => none }
def hardOneRow : OpenClaim := { program := "ytpncflgcfndhmaa", sum := "705b5a9165d9f2fcce74c5c56c26f7710cea9111196ab17c0e36c4ef56d94b35", func := "gaffer/gafferlaw04.HardOne", spec := "hardOne", inPlace := ["slices.overlaps[gaffer/api.File]"], unfollowed := true, recurses := true, apart := false }
def HardOneSaid : Prop := hardOneRow.holds Try.pinned (OpenSpec.ofChange hardOneSpec)

/-- ITS FALSE NEIGHBOUR: 'it returns false'. Refute it at one input. -/
def hardOneWrong : ChangeSpec := { name := "hardOne", fn := fun _ => fun
  | [d1, d2, d3, d4] => { results := [.lit (.bool false)], args := [d1, d2, d3, d4] }
  | _ => none }
def HardOneWrongFalsely : Prop := hardOneRow.holds Try.pinned (OpenSpec.ofChange hardOneWrong)

/-- 'gafferlaw04.HardOthers': WHATEVER THE INPUT: true; the input reads as it did. -/
def hardOthersSpec : ChangeSpec := { name := "hardOthers", fn := fun _ => fun
  | [d1, d2, d3] => { results := [.lit (.bool true)], args := [d1, d2, d3] }
  | _ => none }
def hardOthersRow : OpenClaim := { program := "ytpncflgcfndhmaa", sum := "705b5a9165d9f2fcce74c5c56c26f7710cea9111196ab17c0e36c4ef56d94b35", func := "gaffer/gafferlaw04.HardOthers", spec := "hardOthers", inPlace := ["slices.overlaps[gaffer/api.File]"], unfollowed := true, recurses := true, apart := false }
def HardOthersSaid : Prop := hardOthersRow.holds Try.pinned (OpenSpec.ofChange hardOthersSpec)

/-- ITS FALSE NEIGHBOUR: 'it returns false'. Refute it at one input. -/
def hardOthersWrong : ChangeSpec := { name := "hardOthers", fn := fun _ => fun
  | [d1, d2, d3] => { results := [.lit (.bool false)], args := [d1, d2, d3] }
  | _ => none }
def HardOthersWrongFalsely : Prop := hardOthersRow.holds Try.pinned (OpenSpec.ofChange hardOthersWrong)

/-- 'gafferlaw04.HardTwo': WHATEVER THE INPUT: true; the input reads as it did. -/
def hardTwoSpec : ChangeSpec := { name := "hardTwo", fn := fun _ => fun
  | [d1, d2, d3, d4] => { results := [.lit (.bool true)], args := [d1, d2, d3, d4] }
  | _ => none }
def hardTwoRow : OpenClaim := { program := "ytpncflgcfndhmaa", sum := "705b5a9165d9f2fcce74c5c56c26f7710cea9111196ab17c0e36c4ef56d94b35", func := "gaffer/gafferlaw04.HardTwo", spec := "hardTwo", inPlace := ["slices.overlaps[gaffer/api.File]"], unfollowed := true, recurses := true, apart := false }
def HardTwoSaid : Prop := hardTwoRow.holds Try.pinned (OpenSpec.ofChange hardTwoSpec)

/-- ITS FALSE NEIGHBOUR: 'it returns false'. Refute it at one input. -/
def hardTwoWrong : ChangeSpec := { name := "hardTwo", fn := fun _ => fun
  | [d1, d2, d3, d4] => { results := [.lit (.bool false)], args := [d1, d2, d3, d4] }
  | _ => none }
def HardTwoWrongFalsely : Prop := hardTwoRow.holds Try.pinned (OpenSpec.ofChange hardTwoWrong)

/-- 'gafferlaw04.HardAgain': WHATEVER THE INPUT: true; the input reads as it did. -/
def hardAgainSpec : ChangeSpec := { name := "hardAgain", fn := fun _ => fun
  | [d1, d2] => { results := [.lit (.bool true)], args := [d1, d2] }
  | _ => none }
def hardAgainRow : OpenClaim := { program := "ytpncflgcfndhmaa", sum := "705b5a9165d9f2fcce74c5c56c26f7710cea9111196ab17c0e36c4ef56d94b35", func := "gaffer/gafferlaw04.HardAgain", spec := "hardAgain", inPlace := ["slices.overlaps[gaffer/api.File]"], unfollowed := true, recurses := true, apart := false }
def HardAgainSaid : Prop := hardAgainRow.holds Try.pinned (OpenSpec.ofChange hardAgainSpec)

/-- ITS FALSE NEIGHBOUR: 'it returns false'. Refute it at one input. -/
def hardAgainWrong : ChangeSpec := { name := "hardAgain", fn := fun _ => fun
  | [d1, d2] => { results := [.lit (.bool false)], args := [d1, d2] }
  | _ => none }
def HardAgainWrongFalsely : Prop := hardAgainRow.holds Try.pinned (OpenSpec.ofChange hardAgainWrong)

/- THE SECOND FORM. 'bulk': how many values and letters a reading holds, each counted each time it is reached (what is shared counts as often as it is met; a slice's spare places count too). A statement '..UptoSaid' is the law's where the arguments, and the package variables that the reading takes, are together of bulk at most 1048576: NARROWER than '..Said'. Prove '..Said' where nothing that the law and all that it calls make is longer than what came in: it says more and counts as full. Else prove '..UptoSaid'. A law counts once. -/
mutual
def uptoBulk {H : Type} : DataW H → Nat
  | .lit (.string bytes) => bytes.length + 1
  | .lit _ => 1
  | .nil => 1
  | .ptr d => uptoBulk d + 1
  | .slice elems spare => uptoBulkAll elems + uptoBulkAll spare + 1
  | .agg parts => uptoBulkAll parts + 1
  | .iface _ d => uptoBulk d + 1
  | .map entries => uptoBulkEntries entries + 1
  | .held _ => 1
def uptoBulkAll {H : Type} : List (DataW H) → Nat
  | [] => 0
  | d :: r => uptoBulk d + uptoBulkAll r
def uptoBulkEntries {H : Type} : List (Lit × DataW H) → Nat
  | [] => 0
  | x :: r => uptoBulkEntry x + uptoBulkEntries r
def uptoBulkEntry {H : Type} : Lit × DataW H → Nat
  | (.string bytes, d) => bytes.length + uptoBulk d + 1
  | (_, d) => uptoBulk d + 1
 end
def uptoSmall : (H : Type) → List (DataW H) → Bool := fun _ ds => decide (uptoBulkAll ds ≤ 1048576)
def OpenSpec.upto (s : _root_.Go.ChangeSpec) : _root_.Go.OpenSpec := { _root_.Go.OpenSpec.ofChange s with cond := some uptoSmall }

/-- 'gafferlaw04.HardDoes', WHERE WHAT IT READS IS OF BULK AT MOST 1048576: true; the input reads as it did. -/
def hardDoesUptoRow : OpenClaim := { program := "ytpncflgcfndhmaa", sum := "705b5a9165d9f2fcce74c5c56c26f7710cea9111196ab17c0e36c4ef56d94b35", func := "gaffer/gafferlaw04.HardDoes", spec := "hardDoes", inPlace := ["slices.overlaps[gaffer/api.File]"], unfollowed := true, recurses := true, apart := false, narrowed := true }
def HardDoesUptoSaid : Prop := hardDoesUptoRow.holds Try.pinned (OpenSpec.upto hardDoesSpec)

/-- 'gafferlaw04.HardOne', WHERE WHAT IT READS IS OF BULK AT MOST 1048576: true; the input reads as it did. -/
def hardOneUptoRow : OpenClaim := { program := "ytpncflgcfndhmaa", sum := "705b5a9165d9f2fcce74c5c56c26f7710cea9111196ab17c0e36c4ef56d94b35", func := "gaffer/gafferlaw04.HardOne", spec := "hardOne", inPlace := ["slices.overlaps[gaffer/api.File]"], unfollowed := true, recurses := true, apart := false, narrowed := true }
def HardOneUptoSaid : Prop := hardOneUptoRow.holds Try.pinned (OpenSpec.upto hardOneSpec)

/-- 'gafferlaw04.HardOthers', WHERE WHAT IT READS IS OF BULK AT MOST 1048576: true; the input reads as it did. -/
def hardOthersUptoRow : OpenClaim := { program := "ytpncflgcfndhmaa", sum := "705b5a9165d9f2fcce74c5c56c26f7710cea9111196ab17c0e36c4ef56d94b35", func := "gaffer/gafferlaw04.HardOthers", spec := "hardOthers", inPlace := ["slices.overlaps[gaffer/api.File]"], unfollowed := true, recurses := true, apart := false, narrowed := true }
def HardOthersUptoSaid : Prop := hardOthersUptoRow.holds Try.pinned (OpenSpec.upto hardOthersSpec)

/-- 'gafferlaw04.HardTwo', WHERE WHAT IT READS IS OF BULK AT MOST 1048576: true; the input reads as it did. -/
def hardTwoUptoRow : OpenClaim := { program := "ytpncflgcfndhmaa", sum := "705b5a9165d9f2fcce74c5c56c26f7710cea9111196ab17c0e36c4ef56d94b35", func := "gaffer/gafferlaw04.HardTwo", spec := "hardTwo", inPlace := ["slices.overlaps[gaffer/api.File]"], unfollowed := true, recurses := true, apart := false, narrowed := true }
def HardTwoUptoSaid : Prop := hardTwoUptoRow.holds Try.pinned (OpenSpec.upto hardTwoSpec)

/-- 'gafferlaw04.HardAgain', WHERE WHAT IT READS IS OF BULK AT MOST 1048576: true; the input reads as it did. -/
def hardAgainUptoRow : OpenClaim := { program := "ytpncflgcfndhmaa", sum := "705b5a9165d9f2fcce74c5c56c26f7710cea9111196ab17c0e36c4ef56d94b35", func := "gaffer/gafferlaw04.HardAgain", spec := "hardAgain", inPlace := ["slices.overlaps[gaffer/api.File]"], unfollowed := true, recurses := true, apart := false, narrowed := true }
def HardAgainUptoSaid : Prop := hardAgainUptoRow.holds Try.pinned (OpenSpec.upto hardAgainSpec)

end Rows
end Go.Proofs.Ytpncflgcfndhmaa
