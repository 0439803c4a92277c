/-
  WHETHER TWO ARE ONE: gafferref08.samePairs, SameNode, SameTask, SameOrder.
-/
import Derived.Test.YtaipbaegbpebkaaBookCo
import Derived.Test.YtaipbaegbpebkaaRigSuit
import Derived.Test.YtaipbaegbpebkaaOrB
import Derived.Test.YtaipbaegbpebkaaRigCheck
import Derived.Deep.QuietTactic
import Derived.BigQuiet
import Derived.Deep.LoopGhost
namespace Go.Proofs.Ytaipbaegbpebkaa
open Go.RowKit
namespace Hd
open PM Hc Rg
instance decPr : DecidableEq Rg.Pr := fun a b =>
  if h : a.k = b.k ∧ a.v = b.v then isTrue (by cases a; cases b; simp only [Rg.Pr.mk.injEq]; exact h) else isFalse (by rintro rfl; exact h ⟨rfl, rfl⟩)
def smS (a b : ByteArray) : Bool := decide (a = b)
def smP (a b : List Rg.Pr) : Bool := decide (a = b)
def smI (a b : Int) : Bool := decide (a = b)
def smN (a b : Nat) : Bool := decide (a = b)
theorem ba_ext {a b : ByteArray} (h : a.toList = b.toList) : a = b := by
  rw [ByteArray.toList_eq, ByteArray.toList_eq] at h
  exact ByteArray.ext (Array.ext' h)
theorem ba_no {a b : ByteArray} (h : ¬ a = b) : (a.toList == b.toList) = false ∧ ¬ a.toList = b.toList := by
  have h2 : ¬ a.toList = b.toList := fun e => h (ba_ext e)
  exact ⟨by simpa using h2, h2⟩
theorem eqP_iff {p q : Rg.Pr} : eqP p q = true ↔ p = q := by
  obtain ⟨a, b⟩ := p
  obtain ⟨c, d⟩ := q
  unfold eqP
  simp only [Bool.and_eq_true, beq_iff_eq, Rg.Pr.mk.injEq]
  exact ⟨fun h => ⟨ba_ext h.1, ba_ext h.2⟩, fun h => by rw [h.1, h.2]; exact ⟨rfl, rfl⟩⟩
set_option maxRecDepth 100000 in
theorem neq_pair (k1 v1 k2 v2 : ByteArray) (w : World) : (binOp .neq 106 (.agg #[.string k1, .string v1]) (.agg #[.string k2, .string v2])).run Try.prog w = .ok (.bool (!eqP ⟨k1, v1⟩ ⟨k2, v2⟩)) w := by
  have u9 := Try.underlying9
  have a9 := Try.isAgg9
  have z9 := Try.sizeOf9
  have hS : Try.prog.underlying 106 = some (.struct (Try.prog.fieldsOf 106)) := by kernel_rfl
  have hp : Try.prog.stoodInHeld 106 = false := by kernel_rfl
  rw [run_neq_struct, show (10000 : Nat) = 9999 + 1 from rfl, run_equalIn_agg w 9999 106 _ _ hS hp]
  simp only [Program.fieldsOf, Try.underlying106]
  go_simp
  by_cases h1 : k1.toList = k2.toList <;> by_cases h2 : v1.toList = v2.toList <;> simp [h1, h2, eqP]
theorem pr_ne (ps qs : List Rg.Pr) (k : Nat) (hk : k < ps.length) (hj : k < qs.length) (h : eqP ps[k] qs[k] = false) : smP ps qs = false := by
  refine decide_eq_false fun e => ?_
  subst e
  rw [eqP_iff.2 rfl] at h
  cases h
theorem pr_all (ps qs : List Rg.Pr) (h : ps.length = qs.length) (ht : ps.take ps.length = qs.take ps.length) : smP ps qs = true := by
  refine decide_eq_true ?_
  rw [List.take_length, h, List.take_length] at ht
  exact ht
/-- Two boxes, and what is below them as it was. -/
structure Bb (w0 : World) (cs ds : List Value) (x : World) : Prop where
  bx : Bxn x w0.heap.size cs
  bz : Bxn x (w0.heap.size + 1) ds
  be : Below w0.heap.size w0 x
theorem Bb.made (w : World) (cs ds : List Value) (T : TypeId) : Bb w cs ds ((w.alloc (.cells cs.toArray T)).alloc (.cells ds.toArray T)) := by
  have h1 : Below w.heap.size w (w.alloc (.cells cs.toArray T)) := (Below.refl _ _).alloc (Nat.le_refl _) _
  have h2 : Below (w.alloc (.cells cs.toArray T)).heap.size (w.alloc (.cells cs.toArray T)) ((w.alloc (.cells cs.toArray T)).alloc (.cells ds.toArray T)) := (Below.refl _ _).alloc (Nat.le_refl _) _
  refine ⟨(Bxn.made w _ _).below h2, ?_, h1.trans (h2.mono h1.size)⟩
  have := Bxn.made (w.alloc (.cells cs.toArray T)) ds T
  rw [World.size_alloc] at this
  exact this
theorem Bb.below {w0 x x' : World} {cs ds : List Value} (h : Bb w0 cs ds x) (hb : Below x.heap.size x x') : Bb w0 cs ds x' := ⟨h.bx.below hb, h.bz.below hb, h.be.trans (hb.mono h.be.size)⟩
theorem PrsIn.ovr {w z : World} {c : Cd} {v2 v3 v4 v5 : Value} (h : PrsIn w w.heap.size c v2 v3 v4 v5) (hb : Below w.heap.size w z) : PrsIn z z.heap.size c v2 v3 v4 v5 := ⟨(h.h2.ovr hb), (h.h3.ovr hb), (h.h4.ovr hb), (h.h5.ovr hb)⟩
def smNd (a b : Nd) : Bool := smS a.n b.n && (eqA a.z0 a.z1 a.z2 b.z0 b.z1 b.z2 && (smP a.ls b.ls && (smP a.ts b.ts)))
def smTd (a b : Td) : Bool := smS a.n b.n && (eqA a.z0 a.z1 a.z2 b.z0 b.z1 b.z2 && (smP a.ws b.ws && (smP a.bs b.bs && (smS a.g b.g && (smS a.a b.a && (smI a.r b.r))))))
theorem eqA_iff {a0 a1 a2 b0 b1 b2 : Int} : eqA a0 a1 a2 b0 b1 b2 = true ↔ a0 = b0 ∧ a1 = b1 ∧ a2 = b2 := by
  unfold eqA
  simp [Bool.and_eq_true]
theorem smNd_iff {a b : Nd} : smNd a b = true ↔ a = b := by
  obtain ⟨n, z0, z1, z2, ls, ts⟩ := a
  obtain ⟨m, y0, y1, y2, ks, us⟩ := b
  unfold smNd smS smP
  simp only [Bool.and_eq_true, decide_eq_true_eq, eqA_iff, Nd.mk.injEq]
  exact ⟨fun ⟨a, ⟨b, c, d⟩, e, f⟩ => ⟨a, b, c, d, e, f⟩, fun ⟨a, b, c, d, e, f⟩ => ⟨a, ⟨b, c, d⟩, e, f⟩⟩
theorem smTd_iff {a b : Td} : smTd a b = true ↔ a = b := by
  obtain ⟨n, z0, z1, z2, ls, ts, g, a, r⟩ := a
  obtain ⟨m, y0, y1, y2, ks, us, g2, a2, r2⟩ := b
  unfold smTd smS smP smI
  simp only [Bool.and_eq_true, decide_eq_true_eq, eqA_iff, Td.mk.injEq]
  exact ⟨fun ⟨a, ⟨b, c, d⟩, e, f, g, h, i⟩ => ⟨a, b, c, d, e, f, g, h, i⟩, fun ⟨a, b, c, d, e, f, g, h, i⟩ => ⟨a, ⟨b, c, d⟩, e, f, g, h, i⟩⟩
/-- A node's, a task's cells. -/
def ndC (n : Nd) (v2 v3 : Value) : List Value := [.string n.n, .int .i64 n.z0, .int .i64 n.z1, .int .i64 n.z2, v2, v3]
def tdC (n : Td) (v4 v5 : Value) : List Value := [.string n.n, .int .i64 n.z0, .int .i64 n.z1, .int .i64 n.z2, v4, v5, .string n.g, .string n.a, .int .i64 n.r]
end Hd
end Go.Proofs.Ytaipbaegbpebkaa
