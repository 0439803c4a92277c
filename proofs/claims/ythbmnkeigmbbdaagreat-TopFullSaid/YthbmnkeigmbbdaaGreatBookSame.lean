/-
  WHETHER TWO ARE ONE: gafferref08.samePairs, SameNode, SameTask, SameOrder.
-/
import Derived.Test.YthbmnkeigmbbdaaGreatBookCo
import Derived.Test.YthbmnkeigmbbdaaGreatRigSuit
import Derived.Test.YthbmnkeigmbbdaaGreatOrB
import Derived.Test.YthbmnkeigmbbdaaGreatRigCheck
import Derived.Deep.QuietTactic
import Derived.BigQuiet
import Derived.Deep.LoopGhost
namespace Go.Proofs.YthbmnkeigmbbdaaGreat
open Go.RowKit
namespace Hd
open PM Hc Rg
instance decPr : DecidableEq Rg.Pr := fun a b =>
  if h : a.k = b.k ∧ a.v = b.v then isTrue (by cases a; cases b; simp only [Rg.Pr.mk.injEq]; exact h) else isFalse (by rintro rfl; exact h ⟨rfl, rfl⟩)
theorem ba_ext {a b : ByteArray} (h : a.toList = b.toList) : a = b := by
  rw [ByteArray.toList_eq, ByteArray.toList_eq] at h
  exact ByteArray.ext (Array.ext' h)
theorem ba_no {a b : ByteArray} (h : ¬ a = b) : (a.toList == b.toList) = false ∧ ¬ a.toList = b.toList := by
  have h2 : ¬ a.toList = b.toList := fun e => h (ba_ext e)
  exact ⟨by simpa using h2, h2⟩
/-- Two boxes, and what is below them as it was. -/
structure Bb (w0 : World) (cs ds : List Value) (x : World) : Prop where
  bx : Bxn x w0.heap.size cs
  bz : Bxn x (w0.heap.size + 1) ds
  be : Below w0.heap.size w0 x
theorem Bb.made (w : World) (cs ds : List Value) (T : TypeId) : Bb w cs ds ((w.alloc (.cells cs.toArray T)).alloc (.cells ds.toArray T)) := by
  have h1 : Below w.heap.size w (w.alloc (.cells cs.toArray T)) := (Below.refl _ _).alloc (Nat.le_refl _) _
  have h2 : Below (w.alloc (.cells cs.toArray T)).heap.size (w.alloc (.cells cs.toArray T)) ((w.alloc (.cells cs.toArray T)).alloc (.cells ds.toArray T)) := (Below.refl _ _).alloc (Nat.le_refl _) _
  refine ⟨(Bxn.made w _ _).below h2, ?_, h1.trans (h2.mono h1.size)⟩
  have := Bxn.made (w.alloc (.cells cs.toArray T)) ds T
  rw [World.size_alloc] at this
  exact this
theorem Bb.below {w0 x x' : World} {cs ds : List Value} (h : Bb w0 cs ds x) (hb : Below x.heap.size x x') : Bb w0 cs ds x' := ⟨h.bx.below hb, h.bz.below hb, h.be.trans (hb.mono h.be.size)⟩
theorem PrsIn.ovr {w z : World} {c : Cd} {v2 v3 v4 v5 : Value} (h : PrsIn w w.heap.size c v2 v3 v4 v5) (hb : Below w.heap.size w z) : PrsIn z z.heap.size c v2 v3 v4 v5 := ⟨(h.h2.ovr hb), (h.h3.ovr hb), (h.h4.ovr hb), (h.h5.ovr hb)⟩
end Hd
end Go.Proofs.YthbmnkeigmbbdaaGreat
