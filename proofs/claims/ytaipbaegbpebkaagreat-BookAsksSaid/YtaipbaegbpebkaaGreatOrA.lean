/-
  Merged: OrdBx, OrdTka, PartsTm, OrdTkp, OrdTkq, OrdTkn, OrdTkf, OrdCd.
-/
import Derived.Test.YtaipbaegbpebkaaGreatOrdTold
import Derived.Deep.MidRow
import Derived.Deep.LoopGhost
import Derived.Test.YtaipbaegbpebkaaGreatHardPart
import Derived.Test.YtaipbaegbpebkaaGreatPartsMk
import Derived.Deep.RegionLaw
import Derived.Laws.OwnMore
import Derived.Deep.OwnRows
import Derived.Shelf.Abstract
import Derived.Test.YtaipbaegbpebkaaGreatRgA
/-
  A BOX OF ANY CELLS: what it is behind stores, other calls, and as a result.
-/
namespace Go.Proofs.YtaipbaegbpebkaaGreat
open Go.RowKit
namespace Hd
open PM
/-- Block B is a box of the cells cs. -/
def Bxn (w : World) (B : Nat) (cs : List Value) : Prop := ∃ T, w.heap[B]? = some (.cells cs.toArray T (0, 0))
theorem Bxn.lt {w : World} {B : Nat} {cs : List Value} (h : Bxn w B cs) : B < w.heap.size := by
 obtain ⟨T, h⟩ := h
 exact (Array.getElem?_eq_some_iff.1 h).1
theorem Bxn.cell {w : World} {B : Nat} {cs : List Value} (h : Bxn w B cs) (i : Nat) : w.cell? ⟨B, i, none⟩ = cs[i]? := by
 obtain ⟨T, h⟩ := h
 simp [World.cell?, h]
theorem Bxn.fz {w : World} {B : Nat} {cs : List Value} (h : Bxn w B cs) (i : Nat) : w.frozen? ⟨B, i, none⟩ = false := by
 obtain ⟨T, h⟩ := h
 simp [World.frozen?, h]
theorem Bxn.set {w : World} {B : Nat} {cs : List Value} (h : Bxn w B cs) (i : Nat) (u : Value) : Bxn (w.setCell ⟨B, i, none⟩ u) B (cs.set i u) := by
 obtain ⟨T, h⟩ := h
 exact ⟨T, by simp [World.setCell, Array.getElem?_modify, h]⟩
theorem Bxn.below {w w' : World} {B : Nat} {cs : List Value} (h : Bxn w B cs) (hb : Below w.heap.size w w') : Bxn w' B cs := by
 have hl := h.lt
 obtain ⟨T, h⟩ := h
 exact ⟨T, (hb.block B hl).trans h⟩
theorem Bxn.made (w : World) (cs : List Value) (T : TypeId) : Bxn (w.alloc (.cells cs.toArray T)) w.heap.size cs := ⟨T, heap_alloc_new w _⟩
theorem Bxn.apart {w : World} {B p : Nat} {cs : List Value} (h : Bxn w B cs) (hp : p ≠ B) (o : Nat) (u : Value) : Bxn (w.setCell ⟨p, o, none⟩ u) B cs :=
 h.imp fun _ h => (Below.heap_setCell w ⟨p, o, none⟩ u B (by rintro rfl; exact hp rfl)).trans h
theorem Bxn.range {w : World} {B : Nat} {cs : List Value} (h : Bxn w B cs) (o : Nat) : w.rangeAt B o (cs.drop o) := by
 intro j v hj
 rw [h.cell]
 rw [List.getElem?_drop] at hj
 exact hj
theorem bodyPost_bx {fn : Func} {p : Tmp} {ty : TypeId} (h : fn.results = #[.cell p ty]) {R : Ending → World → Prop} {a : Act} {w : World} (B : Nat) (cs : List Value) (d : TypeDesc) (hd : a.defers = [])
 (hp : a.tmps.getD p undef = .pointer (some ⟨B, 0, none⟩)) (hx : Bxn w B cs) (hu : Tryz.prog.underlying ty = some d) (hr : d.isRow = true) (hi : (Tryz.prog.info? ty).map (·.size) = some cs.length)
 (hR : R (.returned (.agg cs.toArray)) w) : bodyPost Tryz.prog fn R .ret a w := by
 refine bodyPost_ret ?_ hd hR
 rw [one_result h, hp]
 have := run_loadVar_mid w B 0 ty cs d (hx.range 0) hu hr hi
 simp [asAddr, this, Result.andThen]
theorem bodyPost_bx2 {fn : Func} {p u : Tmp} {ty : TypeId} (h : fn.results = #[.cell p ty, .tmp u]) {R : Ending → World → Prop} {a : Act} {w : World} (B : Nat) (cs : List Value) (d : TypeDesc) (hd : a.defers = [])
 (hp : a.tmps.getD p undef = .pointer (some ⟨B, 0, none⟩)) (hx : Bxn w B cs) (hu : Tryz.prog.underlying ty = some d) (hr : d.isRow = true) (hi : (Tryz.prog.info? ty).map (·.size) = some cs.length)
 (hR : R (.returned (.tuple #[.agg cs.toArray, a.tmps.getD u undef])) w) : bodyPost Tryz.prog fn R .ret a w := by
 refine bodyPost_ret ?_ hd hR
 rw [results_cell_tmp h, hp]
 have := run_loadVar_mid w B 0 ty cs d (hx.range 0) hu hr hi
 simp [asAddr, this, Result.andThen]
/-! A struct stored whole. -/
theorem only_setCells (R : Nat) : ∀ (vs : List Value) (o : Nat) (w : World), Only R w (w.setCells R o vs)
 | [], _, w => Only.refl R w
 | v :: r, o, w => ((Only.refl R w).set o v).trans (only_setCells R r (o + 1) _)
theorem heap_setCells (R : Nat) (T : TypeId) : ∀ (vs : List Value) (o : Nat) (w : World) (cs : List Value), w.heap[R]? = some (.cells cs.toArray T (0, 0)) → o + vs.length = cs.length →
 (w.setCells R o vs).heap[R]? = some (.cells (cs.take o ++ vs).toArray T (0, 0))
 | [], o, w, cs, h, hl => by
   rw [List.append_nil, List.take_of_length_le (by simp at hl; omega)]
   exact h
 | v :: r, o, w, cs, h, hl => by
   rw [World.setCells]
   have hlt : o < cs.length := by simp at hl; omega
   have h1 : (w.setCell ⟨R, o, none⟩ v).heap[R]? = some (.cells (cs.set o v).toArray T (0, 0)) := by simp [World.setCell, Array.getElem?_modify, h]
   rw [heap_setCells R T r (o + 1) _ (cs.set o v) h1 (by simp at hl ⊢; omega)]
   have e : (cs.set o v).take (o + 1) = cs.take o ++ [v] := by
    rw [List.set_eq_take_append_cons_drop, if_pos hlt, List.take_append]
    have hl2 : (cs.take o).length = o := by rw [List.length_take]; omega
    rw [hl2, List.take_of_length_le (by omega), show o + 1 - o = 1 by omega]
    rfl
   rw [e, List.append_assoc]
   rfl
theorem Bxn.all {w : World} {R : Nat} {rs : List Value} (h : Bxn w R rs) (vs : List Value) (hl : vs.length = rs.length) : Bxn (w.setCells R 0 vs) R vs := by
 obtain ⟨T, h⟩ := h
 exact ⟨T, heap_setCells R T vs 0 w rs h (by omega)⟩
theorem Bxn.there {w : World} {R : Nat} {rs : List Value} (h : Bxn w R rs) (n : Nat) (hn : n = rs.length) : w.there R 0 n := fun j hj => by
 rw [Nat.zero_add]
 refine ⟨?_, h.fz j⟩
 rw [h.cell, List.getElem?_eq_getElem (by omega)]
 rfl
end Hd
end Go.Proofs.YtaipbaegbpebkaaGreat
/-
  AMOUNTS taken.
-/
namespace Go.Proofs.YtaipbaegbpebkaaGreat
open Go.RowKit
namespace Hd
open PM
end Hd
end Go.Proofs.YtaipbaegbpebkaaGreat
/-
  TIMES of a taker, and what two blocks that turn leave (as in PartsMb, without a disk).
-/
namespace Go.Proofs.YtaipbaegbpebkaaGreat
open Go.RowKit
namespace Hc
open PM Hd
end Hc
end Go.Proofs.YtaipbaegbpebkaaGreat
/-
  PAIRS taken.
-/
namespace Go.Proofs.YtaipbaegbpebkaaGreat
open Go.RowKit
namespace Hd
open PM Hc
end Hd
end Go.Proofs.YtaipbaegbpebkaaGreat
/-
  PAIRS taken: the closure, and the whole.
-/
namespace Go.Proofs.YtaipbaegbpebkaaGreat
open Go.RowKit
namespace Hd
open PM Hc
end Hd
end Go.Proofs.YtaipbaegbpebkaaGreat
/-
  A NODE and a TASK, taken.
-/
namespace Go.Proofs.YtaipbaegbpebkaaGreat
open Go.RowKit
namespace Hd
open PM Hc
end Hd
end Go.Proofs.YtaipbaegbpebkaaGreat
/-
  WHAT AN ORDER's KIND HAS, taken.
-/
namespace Go.Proofs.YtaipbaegbpebkaaGreat
open Go.RowKit
namespace Hd
open PM Hc
end Hd
end Go.Proofs.YtaipbaegbpebkaaGreat
/-
  A COMMAND as plain data, and what is taken of bytes as one.
-/
namespace Go.Proofs.YtaipbaegbpebkaaGreat
open Go.RowKit
namespace Hd
open PM Hc
structure Nd where
 n : ByteArray
 z0 : Int
 z1 : Int
 z2 : Int
 ls : List Rg.Pr
 ts : List Rg.Pr
structure Td where
 n : ByteArray
 z0 : Int
 z1 : Int
 z2 : Int
 ws : List Rg.Pr
 bs : List Rg.Pr
 g : ByteArray
 a : ByteArray
 r : Int
structure Cd where
 cl : Nat
 sq : Nat
 k : Nat
 nd : Nd
 td : Td
 na : ByteArray
 on : ByteArray
 fe : Nat
def nd0 : Nd := ⟨⟨#[]⟩, 0, 0, 0, [], []⟩
def td0 : Td := ⟨⟨#[]⟩, 0, 0, 0, [], [], ⟨#[]⟩, ⟨#[]⟩, 0⟩
/-- The cells of a command. -/
def cdC (c : Cd) (v2 v3 v4 v5 : Value) : List Value :=
 [.int .u64 (c.cl : Nat), .int .u64 (c.sq : Nat), .int .u8 (c.k : Nat), .string c.nd.n, .int .i64 c.nd.z0, .int .i64 c.nd.z1, .int .i64 c.nd.z2, v2, v3,
  .string c.td.n, .int .i64 c.td.z0, .int .i64 c.td.z1, .int .i64 c.td.z2, v4, v5, .string c.td.g, .string c.td.a, .int .i64 c.td.r, .string c.na, .string c.on, .int .u64 (c.fe : Nat)]
end Hd
end Go.Proofs.YtaipbaegbpebkaaGreat
