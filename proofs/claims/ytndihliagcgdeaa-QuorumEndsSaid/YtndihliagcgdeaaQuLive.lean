/-
  most and settled of gafferlaw15 are true.
-/
import Derived.Test.YtndihliagcgdeaaQuNx
namespace Go.Proofs.Ytndihliagcgdeaa
open Go.RowKit Go.Lib
namespace Qu
open Lo
set_option linter.unusedVariables false
theorem ints_new (z : World) (ks : List Int) (T : TypeId) (hl : ks.length ≤ 17592186044416) (hr : ∀ x ∈ ks, -9223372036854775808 ≤ x ∧ x ≤ 9223372036854775807) :
    IntsR (z.alloc (.cells (ks.map fun k => Value.int .i64 k).toArray T)) 0 (z.alloc (.cells (ks.map fun k => Value.int .i64 k).toArray T)).heap.size (.slice (some ⟨z.heap.size, 0, none⟩) ks.length ks.length) ks := by
  refine ⟨_, _, rfl, hl, hr, fun hp => ⟨z.heap.size, 0, rfl, Nat.zero_le _, by rw [World.size_alloc]; omega, fun i hi => ?_⟩⟩
  rw [cell_of_row _ _ _ _ _ (0, 0) (heap_alloc_new z _), Nat.zero_add]
  simp [List.getElem?_eq_getElem hi]
theorem pe_new (z : World) (T : TypeId) : PeR (z.alloc (.cells #[.int .i64 2, .int .u64 0, .int .u64 5, .int .i64 3, .int .u64 0, .int .u64 7] T)) 0 (z.alloc (.cells #[.int .i64 2, .int .u64 0, .int .u64 5, .int .i64 3, .int .u64 0, .int .u64 7] T)).heap.size (.slice (some ⟨z.heap.size, 0, none⟩) 2 2) [⟨2, 0, 5⟩, ⟨3, 0, 7⟩] := by
  refine ⟨_, _, rfl, by decide, ?_, fun hp => ⟨z.heap.size, 0, rfl, Nat.zero_le _, by rw [World.size_alloc]; omega, fun i hi => ?_⟩⟩
  · intro p hp
    simp at hp
    rcases hp with rfl | rfl <;> exact ⟨⟨by decide, by decide⟩, by unfold Lt64; decide, by unfold Lt64; decide⟩
  · rw [cell_of_row _ _ _ _ _ (0, 0) (heap_alloc_new z _), cell_of_row _ _ _ _ _ (0, 0) (heap_alloc_new z _), cell_of_row _ _ _ _ _ (0, 0) (heap_alloc_new z _)]
    match i, hi with
    | 0, _ => exact ⟨rfl, rfl, rfl⟩
    | 1, _ => exact ⟨rfl, rfl, rfl⟩
    | i + 2, h => exact absurd h (by simp)
theorem al (z : World) (o : Obj) : Below z.heap.size z (z.alloc o) := (Below.refl _ _).alloc (Nat.le_refl _) _
theorem bd {x : Int} (h : 0 ≤ x ∧ x ≤ 9) : -9223372036854775808 ≤ x ∧ x ≤ 9223372036854775807 := by omega
theorem m1 : mostB [1, 2, 3] [2, 1] = true := by decide +kernel
theorem m2 : mostB [1, 2, 3, 4] [1, 2] = false := by decide +kernel
theorem s1 : setB [1, 2, 3] 1 9 [⟨2, 0, 5⟩, ⟨3, 0, 7⟩] = 7 := by decide +kernel
theorem n1 : nextE [1, 2] [1] = 0 := by decide +kernel
theorem n2 : nextE [1] [1] = 1 := by decide +kernel
/-- Two rows that were just made, one behind the other. -/
theorem two_new (z : World) (ks so : List Int) (T U : TypeId) (hk : ks.length ≤ 17592186044416) (hs : so.length ≤ 17592186044416) (hr : ∀ x ∈ ks, 0 ≤ x ∧ x ≤ 9) (hr2 : ∀ x ∈ so, 0 ≤ x ∧ x ≤ 9) :
    IntsR ((z.alloc (.cells (ks.map fun k => Value.int .i64 k).toArray T)).alloc (.cells (so.map fun k => Value.int .i64 k).toArray U)) 0 ((z.alloc (.cells (ks.map fun k => Value.int .i64 k).toArray T)).alloc (.cells (so.map fun k => Value.int .i64 k).toArray U)).heap.size (.slice (some ⟨z.heap.size, 0, none⟩) ks.length ks.length) ks ∧
    IntsR ((z.alloc (.cells (ks.map fun k => Value.int .i64 k).toArray T)).alloc (.cells (so.map fun k => Value.int .i64 k).toArray U)) 0 ((z.alloc (.cells (ks.map fun k => Value.int .i64 k).toArray T)).alloc (.cells (so.map fun k => Value.int .i64 k).toArray U)).heap.size (.slice (some ⟨z.heap.size + 1, 0, none⟩) so.length so.length) so := by
  refine ⟨(ints_new z ks T hk (fun x hx => bd (hr x hx))).on (al _ _), ?_⟩
  have := ints_new (z.alloc (.cells (ks.map fun k => Value.int .i64 k).toArray T)) so U hs (fun x hx => bd (hr2 x hx))
  rw [World.size_alloc z] at this
  exact this
theorem two_below {B : Nat} {a z : World} (h : Below B a z) (hB : B ≤ z.heap.size) (o p : Obj) : Below B a ((z.alloc o).alloc p) := (h.alloc hB _).alloc (by rw [World.size_alloc]; omega) _
set_option maxHeartbeats 2000000 in
theorem call_most (z : World) (ks so : List Int) (T U : TypeId) (b : Bool) (hb : mostB ks so = b) (hk : ks.length ≤ 17592186044416) (hs : so.length ≤ 17592186044416) (hr : ∀ x ∈ ks, 0 ≤ x ∧ x ≤ 9) (hr2 : ∀ x ∈ so, 0 ≤ x ∧ x ≤ 9) :
    Calls Try.prog 12 #[.slice (some ⟨z.heap.size, 0, none⟩) ks.length ks.length, .slice (some ⟨z.heap.size + 1, 0, none⟩) so.length so.length] ((z.alloc (.cells (ks.map fun k => Value.int .i64 k).toArray T)).alloc (.cells (so.map fun k => Value.int .i64 k).toArray U)) fun e w' => e = .returned (.bool b) ∧ Below z.heap.size z w' := by
  obtain ⟨i1, i2⟩ := two_new z ks so T U hk hs hr hr2
  refine (the_majority _ _ ks so _ i1 i2).mono ?_
  rintro e w' ⟨he, h⟩
  rw [hb] at he
  have h2 := two_below (Below.refl z.heap.size z) (Nat.le_refl _) (.cells (ks.map fun k => Value.int .i64 k).toArray T) (.cells (so.map fun k => Value.int .i64 k).toArray U)
  exact ⟨he, h2.trans (h.mono h2.size)⟩
set_option maxHeartbeats 2000000 in
theorem call_next (z : World) (ks so : List Int) (T U : TypeId) (b : Nat) (hb : nextE ks so = b) (hk : ks.length ≤ 17592186044416) (hs : so.length ≤ 17592186044416) (hr : ∀ x ∈ ks, 0 ≤ x ∧ x ≤ 9) (hr2 : ∀ x ∈ so, 0 ≤ x ∧ x ≤ 9) :
    Calls Try.prog 14 #[.slice (some ⟨z.heap.size, 0, none⟩) ks.length ks.length, .slice (some ⟨z.heap.size + 1, 0, none⟩) so.length so.length] ((z.alloc (.cells (ks.map fun k => Value.int .i64 k).toArray T)).alloc (.cells (so.map fun k => Value.int .i64 k).toArray U)) fun e w' => e = .returned (.int .i64 (b : Nat)) ∧ Below z.heap.size z w' := by
  obtain ⟨i1, i2⟩ := two_new z ks so T U hk hs hr hr2
  refine (the_next _ _ ks so _ i1 i2).mono ?_
  rintro e w' ⟨he, h⟩
  rw [hb] at he
  have h2 := two_below (Below.refl z.heap.size z) (Nat.le_refl _) (.cells (ks.map fun k => Value.int .i64 k).toArray T) (.cells (so.map fun k => Value.int .i64 k).toArray U)
  exact ⟨he, h2.trans (h.mono h2.size)⟩
theorem call_set (z : World) (T U : TypeId) :
    Calls Try.prog 16 #[.slice (some ⟨z.heap.size, 0, none⟩) 3 3, .int .i64 1, .int .u64 9, .slice (some ⟨z.heap.size + 1, 0, none⟩) 2 2] ((z.alloc (.cells #[.int .i64 1, .int .i64 2, .int .i64 3] T)).alloc (.cells #[.int .i64 2, .int .u64 0, .int .u64 5, .int .i64 3, .int .u64 0, .int .u64 7] U)) fun e w' => e = .returned (.int .u64 7) ∧ Below z.heap.size z w' := by
  have i1 := (ints_new z [1, 2, 3] T (by decide) (by decide)).on (al _ (.cells #[.int .i64 2, .int .u64 0, .int .u64 5, .int .i64 3, .int .u64 0, .int .u64 7] U))
  have i2 := pe_new (z.alloc (.cells #[.int .i64 1, .int .i64 2, .int .i64 3] T)) U
  rw [World.size_alloc z] at i2
  refine (the_settled (.slice (some ⟨z.heap.size, 0, none⟩) 3 3) (.slice (some ⟨z.heap.size + 1, 0, none⟩) 2 2) [1, 2, 3] 1 9 [⟨2, 0, 5⟩, ⟨3, 0, 7⟩] _ i1 i2).mono ?_
  rintro e w' ⟨he, h⟩
  rw [s1] at he
  have h2 := two_below (Below.refl z.heap.size z) (Nat.le_refl _) (.cells #[.int .i64 1, .int .i64 2, .int .i64 3] T) (.cells #[.int .i64 2, .int .u64 0, .int .u64 5, .int .i64 3, .int .u64 0, .int .u64 7] U)
  exact ⟨he, h2.trans (h.mono h2.size)⟩
set_option maxHeartbeats 2000000 in
theorem most_true (w : World) : Calls Try.prog 10 #[] w fun e w' => e = .returned (.bool true) ∧ Below w.heap.size w w' := by
  have K1 := Lib.hid (fun z T U => call_most z [1, 2, 3] [2, 1] T U true m1 (by decide) (by decide) (by decide) (by decide))
  have K2 := Lib.hid (fun z T U => call_most z [1, 2, 3, 4] [1, 2] T U false m2 (by decide) (by decide) (by decide) (by decide))
  go_enter Try.func10, Try.ntmps10
  go_wp2_with fail
  refine Calls.mono (K1.out w _ _) ?_
  rintro e w1 ⟨rfl, hb⟩
  have HB := Lib.hid hb
  clear hb
  go_wp2_with fail
  refine Calls.mono (K2.out w1 _ _) ?_
  rintro e w2 ⟨rfl, hb⟩
  have HB2 := Lib.hid (HB.out.trans (hb.mono HB.out.size))
  clear hb
  go_wp2
  go_ret
  exact ⟨rfl, HB2.out⟩
set_option maxHeartbeats 2000000 in
theorem settled_true (w : World) : Calls Try.prog 11 #[] w fun e w' => e = .returned (.bool true) ∧ Below w.heap.size w w' := by
  have K1 := Lib.hid (fun z T U => call_set z T U)
  have K2 := Lib.hid (fun z T U => call_next z [1, 2] [1] T U 0 n1 (by decide) (by decide) (by decide) (by decide))
  have K3 := Lib.hid (fun z T U => call_next z [1] [1] T U 1 n2 (by decide) (by decide) (by decide) (by decide))
  go_enter Try.func11, Try.ntmps11
  go_wp2_with fail
  refine Calls.mono (K1.out w _ _) ?_
  rintro e w1 ⟨rfl, hb⟩
  have HB := Lib.hid hb
  clear hb
  go_wp2_with fail
  refine Calls.mono (K2.out w1 _ _) ?_
  rintro e w2 ⟨rfl, hb⟩
  have HB2 := Lib.hid (HB.out.trans (hb.mono HB.out.size))
  clear hb
  go_wp2_with fail
  refine Calls.mono (K3.out w2 _ _) ?_
  rintro e w3 ⟨rfl, hb⟩
  have HB3 := Lib.hid (HB2.out.trans (hb.mono HB2.out.size))
  clear hb
  go_wp2
  go_ret
  exact ⟨rfl, HB3.out⟩
end Qu
end Go.Proofs.Ytndihliagcgdeaa
