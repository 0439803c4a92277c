/-
  book.CheckOrder: whether an order has no others than its kind's.
-/
import Derived.Test.YthbmnkeigmbbdaaBookZero
import Derived.Test.YthbmnkeigmbbdaaOrA
namespace Go.Proofs.Ythbmnkeigmbbdaa
open Go.RowKit
namespace Hd
open PM Hc Rg
def zF (n : Nat) : Bool := decide (n = 0)
def zNd (n : Nd) : Bool := zN n.n n.z0 n.z1 n.z2 n.ls.length n.ts.length
def zTd (n : Td) : Bool := zT n.n n.z0 n.z1 n.z2 n.ws.length n.bs.length n.g n.a n.r
/-- Whether an order is one of its kind. -/
def coB (c : Cd) : Bool :=
  if c.k = 1 then zTd c.td && (zB c.na && (zB c.on && zF c.fe))
  else if c.k = 3 then zNd c.nd && (zB c.na && (zB c.on && zF c.fe))
  else if c.k = 5 then zNd c.nd && zTd c.td
  else if c.k = 2 ∨ c.k = 4 ∨ c.k = 6 ∨ c.k = 7 then zNd c.nd && (zTd c.td && (zB c.on && zF c.fe))
  else false
def coE (b : Bool) : Nat := if b = true then 0 else 4
/-- An order's cells. -/
def orC (c : Cd) (v2 v3 v4 v5 : Value) : List Value := (cdC c v2 v3 v4 v5).drop 2
end Hd
end Go.Proofs.Ythbmnkeigmbbdaa
