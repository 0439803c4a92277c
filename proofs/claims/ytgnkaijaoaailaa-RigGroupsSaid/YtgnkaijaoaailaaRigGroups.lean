/-
  WALK of the law on tasks of one group.
-/
import Derived.Test.YtgnkaijaoaailaaRigBear
namespace Go.Proofs.Ytgnkaijaoaailaa
open Go.RowKit
namespace Rg
theorem ko_none (g : ByteArray) : koB ⟨#[]⟩ g = false := koB_nil _ _ (by decide +kernel)
theorem bear_free (xg yg : ByteArray) : bearB ⟨#[]⟩ xg ⟨#[]⟩ yg = true := by unfold bearB; rw [ko_none, ko_none]; rfl
theorem bear_shun (g : ByteArray) : bearB g g ⟨#[]⟩ g = g.toList.isEmpty := by
  unfold bearB
  rw [ko_none]
  unfold koB
  cases g.toList.isEmpty <;> simp
set_option maxHeartbeats 800000 in
theorem rigGroups (xn xg xa : ByteArray) (x0 x1 x2 xr : Int) (xwa xba : Option Addr) (xwn xwc xbn xbc : Nat) (yn yg ya : ByteArray) (y0 y1 y2 yr : Int) (ywa yba : Option Addr) (ywn ywc ybn ybc : Nat) (gr : ByteArray) (w : World) :
    Calls Try.prog 11 #[.agg #[.string xn, .int .i64 x0, .int .i64 x1, .int .i64 x2, .slice xwa xwn xwc, .slice xba xbn xbc, .string xg, .string xa, .int .i64 xr], .agg #[.string yn, .int .i64 y0, .int .i64 y1, .int .i64 y2, .slice ywa ywn ywc, .slice yba ybn ybc, .string yg, .string ya, .int .i64 yr], .string gr] w fun e w' => e = .returned (.bool true) ∧ Below w.heap.size w w' := by
  go_enter Try.func11, Try.ntmps11
  go_wp2_with fail
  refine (bears_true _).mono ?_
  rintro e w1 ⟨rfl, hb⟩
  obtain ⟨c0, c1, hbw⟩ := boxed hb
  have f0 : ∀ i, w1.frozen? ⟨w.heap.size, i, none⟩ = false := fun i => (hb.frozen (by show w.heap.size < _; simp; omega)).trans (by simp [go_sem])
  have f1 : ∀ i, w1.frozen? ⟨w.heap.size + 1, i, none⟩ = false := fun i => (hb.frozen (by show w.heap.size + 1 < _; simp)).trans (by simp [go_sem])
  have hz := hb.size
  simp at hz
  have HB := Lib.hid hbw
  clear hb hbw
  go_wp2_with fail
  refine (bear_at (r := true) (bear_free _ _) _).mono ?_
  rintro e w2 ⟨rfl, hb⟩
  have hz2 := hb.size
  simp at hz2
  have d0 : w2.cell? ⟨w.heap.size, 0, none⟩ = some (.string xn) ∧ w2.cell? ⟨w.heap.size, 1, none⟩ = some (.int .i64 x0) ∧ w2.cell? ⟨w.heap.size, 2, none⟩ = some (.int .i64 x1) ∧ w2.cell? ⟨w.heap.size, 3, none⟩ = some (.int .i64 x2) ∧ w2.cell? ⟨w.heap.size, 4, none⟩ = some (.slice xwa xwn xwc) ∧ w2.cell? ⟨w.heap.size, 5, none⟩ = some (.slice xba xbn xbc) ∧ w2.cell? ⟨w.heap.size, 6, none⟩ = some (.string xg) ∧ w2.cell? ⟨w.heap.size, 7, none⟩ = some (.string ⟨#[]⟩) ∧ w2.cell? ⟨w.heap.size, 8, none⟩ = some (.int .i64 xr) := by
    refine ⟨?_, ?_, ?_, ?_, ?_, ?_, ?_, ?_, ?_⟩ <;> (rw [hb.cell (by simp; omega)]; simp [go_sem, c0])
  have d1 : w2.cell? ⟨w.heap.size + 1, 0, none⟩ = some (.string yn) ∧ w2.cell? ⟨w.heap.size + 1, 1, none⟩ = some (.int .i64 y0) ∧ w2.cell? ⟨w.heap.size + 1, 2, none⟩ = some (.int .i64 y1) ∧ w2.cell? ⟨w.heap.size + 1, 3, none⟩ = some (.int .i64 y2) ∧ w2.cell? ⟨w.heap.size + 1, 4, none⟩ = some (.slice ywa ywn ywc) ∧ w2.cell? ⟨w.heap.size + 1, 5, none⟩ = some (.slice yba ybn ybc) ∧ w2.cell? ⟨w.heap.size + 1, 6, none⟩ = some (.string yg) ∧ w2.cell? ⟨w.heap.size + 1, 7, none⟩ = some (.string ⟨#[]⟩) ∧ w2.cell? ⟨w.heap.size + 1, 8, none⟩ = some (.int .i64 yr) := by
    refine ⟨?_, ?_, ?_, ?_, ?_, ?_, ?_, ?_, ?_⟩ <;> (rw [hb.cell (by simp; omega)]; simp [go_sem, c1])
  obtain ⟨a0, a1, a2, a3, a4, a5, a6, a7, a8⟩ := d0
  obtain ⟨b0, b1, b2, b3, b4, b5, b6, b7, b8⟩ := d1
  have g0 : ∀ i, w2.frozen? ⟨w.heap.size, i, none⟩ = false := fun i => (hb.frozen (by show w.heap.size < _; simp; omega)).trans (by simp [go_sem, f0])
  have g1 : ∀ i, w2.frozen? ⟨w.heap.size + 1, i, none⟩ = false := fun i => (hb.frozen (by show w.heap.size + 1 < _; simp; omega)).trans (by simp [go_sem, f1])
  have HB2 : Hid (Below w.heap.size w w2) := by
    refine Below.trans ?_ (hb.mono (by simp; omega))
    exact (HB.out.setCell (Nat.le_refl _) _).setCell (by show w.heap.size ≤ w.heap.size + 1; omega) _
  clear hb c0 c1 f0 f1
  go_wp2_with fail
  refine (bear_at (r := gr.toList.isEmpty) (bear_shun _) _).mono ?_
  rintro e w3 ⟨rfl, hb⟩
  have HB3 : Hid (Below w.heap.size w w3) := by
    refine Below.trans ?_ (hb.mono (by simp; omega))
    exact ((HB2.out.setCell (Nat.le_refl _) _).setCell (by show w.heap.size ≤ w.heap.size + 1; omega) _).setCell (Nat.le_refl _) _
  clear hb
  go_wp2
  go_ret
  exact ⟨by simp, HB3.out⟩
end Rg
end Go.Proofs.Ytgnkaijaoaailaa
