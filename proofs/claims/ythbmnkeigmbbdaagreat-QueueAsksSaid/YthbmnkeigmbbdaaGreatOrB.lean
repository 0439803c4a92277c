/-
  Merged: OrdAmt, OrdPair, OrdPrs, OrdNode, OrdTask, OrdFld, OrdCmk.
-/
import Derived.Test.YthbmnkeigmbbdaaGreatPkQ
import Derived.Test.YthbmnkeigmbbdaaGreatRgA
import Derived.Shelf.Abstract
import Derived.Test.YthbmnkeigmbbdaaGreatOrA
/-
  AMOUNTS and pairs, as bytes.
-/
namespace Go.Proofs.YthbmnkeigmbbdaaGreat
open Go.RowKit
namespace Hd
open PM
def amB (a0 a1 a2 : Nat) : List UInt8 := num a0 ++ num a1 ++ num a2
set_option maxHeartbeats 1000000 in
theorem ar0 (z0 z1 z2 : Int) (w : World) : (Instr.index 39 (.agg #[.int .i64 z0, .int .i64 z1, .int .i64 z2]) (.int .i64 0)).run Tryz.prog w = .ok (.int .i64 z0) w := by kernel_rfl
theorem ar1 (z0 z1 z2 : Int) (w : World) : (Instr.index 39 (.agg #[.int .i64 z0, .int .i64 z1, .int .i64 z2]) (.int .i64 1)).run Tryz.prog w = .ok (.int .i64 z1) w := by kernel_rfl
theorem ar2 (z0 z1 z2 : Int) (w : World) : (Instr.index 39 (.agg #[.int .i64 z0, .int .i64 z1, .int .i64 z2]) (.int .i64 2)).run Tryz.prog w = .ok (.int .i64 z2) w := by kernel_rfl
end Hd
end Go.Proofs.YthbmnkeigmbbdaaGreat

/-
  PAIRS, as bytes.
-/
namespace Go.Proofs.YthbmnkeigmbbdaaGreat
open Go.RowKit
namespace Hd
open PM
end Hd
end Go.Proofs.YthbmnkeigmbbdaaGreat

/-
  PAIRS made as bytes, whole.
-/
namespace Go.Proofs.YthbmnkeigmbbdaaGreat
open Go.RowKit
namespace Hd
open PM
def prF (p : Rg.Pr) : List UInt8 := txt p.k.data.toList ++ txt p.v.data.toList
/-- The bytes of pairs. -/
def prB (ps : List Rg.Pr) : List UInt8 := num ps.length ++ ps.flatMap prF
end Hd
end Go.Proofs.YthbmnkeigmbbdaaGreat

/-
  A NODE, as bytes.
-/
namespace Go.Proofs.YthbmnkeigmbbdaaGreat
open Go.RowKit
namespace Hd
open PM
def ndB (nm : ByteArray) (h0 h1 h2 : Nat) (ls ts : List Rg.Pr) : List UInt8 := txt nm.data.toList ++ amB h0 h1 h2 ++ prB ls ++ prB ts
end Hd
end Go.Proofs.YthbmnkeigmbbdaaGreat

/-
  A TASK, as bytes.
-/
namespace Go.Proofs.YthbmnkeigmbbdaaGreat
open Go.RowKit
namespace Hd
open PM
end Hd
end Go.Proofs.YthbmnkeigmbbdaaGreat

/-
  WHAT AN ORDER's KIND HAS, as bytes.
-/
namespace Go.Proofs.YthbmnkeigmbbdaaGreat
open Go.RowKit
namespace Hd
open PM
end Hd
end Go.Proofs.YthbmnkeigmbbdaaGreat

/-
  A COMMAND made.
-/
namespace Go.Proofs.YthbmnkeigmbbdaaGreat
open Go.RowKit
namespace Hd
open PM Hc
/-- What the making asks of pairs, of a node, of a task, of a command. -/
def FitP (ps : List Rg.Pr) : Prop := ps.length ≤ 1000 ∧ ∀ p ∈ ps, p.k.size ≤ 1000 ∧ p.v.size ≤ 1000
def FitZ (z : Int) : Prop := 0 ≤ z ∧ z < 9223372036854775808
structure FitN (m : Nd) : Prop where
  nm : m.n.size ≤ 1000
  z0 : FitZ m.z0
  z1 : FitZ m.z1
  z2 : FitZ m.z2
  ls : FitP m.ls
  ts : FitP m.ts
structure FitT (m : Td) : Prop where
  nm : m.n.size ≤ 1000
  z0 : FitZ m.z0
  z1 : FitZ m.z1
  z2 : FitZ m.z2
  ws : FitP m.ws
  bs : FitP m.bs
  g : m.g.size ≤ 1000
  a : m.a.size ≤ 1000
  r : -1000 ≤ m.r ∧ m.r ≤ 1000
structure FitC (c : Cd) : Prop where
  cl : c.cl < 2 ^ 64
  sq : c.sq < 2 ^ 64
  k : c.k < 256
  nd : c.k = 1 → FitN c.nd
  td : c.k = 3 → FitT c.td
  on : c.k = 5 → c.on.size ≤ 1000 ∧ c.fe < 2 ^ 64
  na : c.k ≠ 1 → c.k ≠ 3 → c.na.size ≤ 1000
/-- The four lists lie below block B. -/
structure PrsIn (w : World) (B : Nat) (c : Cd) (v2 v3 v4 v5 : Value) : Prop where
  h2 : Rg.Pairs w B v2 c.nd.ls
  h3 : Rg.Pairs w B v3 c.nd.ts
  h4 : Rg.Pairs w B v4 c.td.ws
  h5 : Rg.Pairs w B v5 c.td.bs
theorem PrsIn.keep {w w' : World} {B : Nat} {c : Cd} {v2 v3 v4 v5 : Value} (h : PrsIn w B c v2 v3 v4 v5) (hb : Below B w w') : PrsIn w' B c v2 v3 v4 v5 := ⟨h.h2.keep hb, h.h3.keep hb, h.h4.keep hb, h.h5.keep hb⟩
end Hd
end Go.Proofs.YthbmnkeigmbbdaaGreat
