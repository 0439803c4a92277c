/-
  lives is true.
-/
import Derived.Test.YtjgdmdgiicpemaaDiskLives
namespace Go.Proofs.Ytjgdmdgiicpemaa
open Go.RowKit Go.Lib Go.Sort
namespace Dk
theorem l1 (w : World) : Calls Try.prog 9 #[.agg #[.slice none 0 0, .bool false, .int .i64 (-1)], .string ⟨#[97]⟩, .string ⟨#[120, 121]⟩] w (DoIs w F1 false (-1) 0) :=
  add_first (.slice none 0 0) (-1) ⟨#[97]⟩ ⟨#[120, 121]⟩ (by omega) (by omega) (by omega) ok_a (by decide) w (nil_files w)
theorem l2 (v : Value) (w : World) (hv : Files w w.heap.size v F1) : Calls Try.prog 36 #[.agg #[v, .bool false, .int .i64 (-1)], .string ⟨#[97]⟩] w (DoIs w F2 false (-1) 0) :=
  sync_one v (-1) ⟨⟨#[97]⟩, ⟨#[120, 121]⟩, 0⟩ (by omega) (by omega) (by omega) (by decide) (by decide) w hv
theorem l3 (v : Value) (w : World) (hv : Files w w.heap.size v F2) : Calls Try.prog 9 #[.agg #[v, .bool false, .int .i64 (-1)], .string ⟨#[97]⟩, .string ⟨#[122, 119]⟩] w (DoIs w F3 false (-1) 0) := by
  have := add_more v (-1) ⟨⟨#[97]⟩, ⟨#[120, 121]⟩, 2⟩ ⟨#[122, 119]⟩ (by omega) (by omega) (by omega) ok_a (by decide) (by decide) (by decide) w hv
  rw [app_zw] at this
  exact this
theorem l4 (v : Value) (w : World) (hv : Files w w.heap.size v F3) : Calls Try.prog 38 #[.agg #[v, .bool false, .int .i64 (-1)], .string ⟨#[97]⟩, .string ⟨#[98]⟩] w (DoIs w F3 false (-1) 9) :=
  swap_wet v (-1) ⟨⟨#[97]⟩, ⟨#[120, 121, 122, 119]⟩, 2⟩ ⟨#[98]⟩ (by decide) (by decide) w hv
theorem l5 (v : Value) (b : Nat) (w : World) (hv : Files w w.heap.size v F3) (hb : b < w.heap.size) (hc : w.cell? ⟨b, 0, none⟩ = some (.int .i64 1)) : Calls Try.prog 7 #[.agg #[v, .bool false, .int .i64 (-1)], .slice (some ⟨b, 0, none⟩) 1 1] w (DoIs w F4 false (-1) 0) := by
  have hk : Ints w w.heap.size (.slice (some ⟨b, 0, none⟩) 1 1) [1] := by
    refine ⟨_, _, rfl, by simp, by simp, fun _ => ⟨b, 0, rfl, hb, fun i hi => ?_⟩⟩
    obtain rfl : i = 0 := by simp at hi; omega
    exact hc
  have := crash_own v _ false (-1) F3 [1] w hv hk (chk_one _ (by decide))
  rw [show crS F3 [1] F3.length = F4 by show [(⟨⟨#[97]⟩, (⟨#[120, 121, 122, 119]⟩ : ByteArray).extract 0 3, 3⟩ : Fl)] = F4; rw [ext_xyz]; rfl] at this
  exact this
theorem l6 (v : Value) (w : World) (hv : Files w w.heap.size v F4) : Calls Try.prog 10 #[.agg #[v, .bool false, .int .i64 (-1)], .string ⟨#[97]⟩] w fun e w' => e = .returned (.tuple #[.string ⟨#[120, 121, 122]⟩, .int .i64 0]) ∧ Below w.heap.size w w' := by
  have h := read_own v false (-1) F4 ⟨#[97]⟩ w hv
  have hi : idxN F4 ⟨#[97]⟩ = 0 := idx_one _ _ rfl
  have hc : chkN F4 = 0 := chk_one _ (by decide)
  unfold ReadIs rdS rdE rdN at h
  rw [hc, hi] at h
  exact h
theorem f1_fine : Fine F1 := fine_one _ (by decide)
theorem f2_fine : Fine F2 := fine_one _ (by decide)
theorem f3_fine : Fine F3 := fine_one _ (by decide)
theorem f4_fine : Fine F4 := fine_one _ (by decide)

structure Dx (B : Nat) (w : World) (v : Value) (dn : Bool) (fu : Int) : Prop where
  d0 : w.cell? ⟨B, 0, none⟩ = some v
  d1 : w.cell? ⟨B, 1, none⟩ = some (.bool dn)
  d2 : w.cell? ⟨B, 2, none⟩ = some (.int .i64 fu)
  f0 : w.frozen? ⟨B, 0, none⟩ = false
  f1 : w.frozen? ⟨B, 1, none⟩ = false
  f2 : w.frozen? ⟨B, 2, none⟩ = false
theorem Dx.keep {B C : Nat} {w w' : World} {v : Value} {dn : Bool} {fu : Int} (h : Dx B w v dn fu) (hb : Below C w w') (hC : B < C) : Dx B w' v dn fu :=
  have a0 : ∀ o, w'.cell? ⟨B, o, none⟩ = w.cell? ⟨B, o, none⟩ := fun _ => hb.cell hC
  have b0 : ∀ o, w'.frozen? ⟨B, o, none⟩ = w.frozen? ⟨B, o, none⟩ := fun _ => hb.frozen hC
  ⟨(a0 _).trans h.d0, (a0 _).trans h.d1, (a0 _).trans h.d2, (b0 _).trans h.f0, (b0 _).trans h.f1, (b0 _).trans h.f2⟩
theorem Dx.made (w : World) (v : Value) (dn : Bool) (fu : Int) : Dx w.heap.size (w.alloc (.cells #[v, .bool dn, .int .i64 fu] 27)) v dn fu := by
  constructor <;> simp [go_sem]
def st3 (w : World) (B : Nat) (v : Value) (dn : Bool) (fu : Int) : World := ((w.setCell ⟨B, 0, none⟩ v).setCell ⟨B, 1, none⟩ (.bool dn)).setCell ⟨B, 2, none⟩ (.int .i64 fu)
theorem Dx.st {B : Nat} {w : World} {v v' : Value} {dn dn' : Bool} {fu fu' : Int} (h : Dx B w v dn fu) : Dx B (st3 w B v' dn' fu') v' dn' fu' := by
  obtain ⟨h0, h1, h2, g0, g1, g2⟩ := h
  unfold st3
  have n01 : (⟨B, 0, none⟩ : Addr) ≠ ⟨B, 1, none⟩ := by simp
  have n02 : (⟨B, 0, none⟩ : Addr) ≠ ⟨B, 2, none⟩ := by simp
  have n12 : (⟨B, 1, none⟩ : Addr) ≠ ⟨B, 2, none⟩ := by simp
  refine ⟨?_, ?_, ?_, by simp [g0], by simp [g1], by simp [g2]⟩
  · rw [World.cell?_setCell_other _ _ _ _ n02.symm, World.cell?_setCell_other _ _ _ _ n01.symm]; exact World.cell?_setCell_same _ _ _ h0
  · rw [World.cell?_setCell_other _ _ _ _ n12.symm]; exact World.cell?_setCell_same _ _ _ (by rw [World.cell?_setCell_other _ _ _ _ n01]; exact h1)
  · exact World.cell?_setCell_same _ _ _ (by rw [World.cell?_setCell_other _ _ _ _ n12, World.cell?_setCell_other _ _ _ _ n02]; exact h2)
/-- A variable at B holds a disk of these files. -/
structure St (w : World) (B : Nat) (x : World) (v : Value) (dn : Bool) (fu : Int) (fs : List Fl) : Prop where
  lo : w.heap.size ≤ B
  hi : B < x.heap.size
  below : Below w.heap.size w x
  dx : Dx B x v dn fu
  files : Files x x.heap.size v fs
theorem St.keep {w x x' : World} {B : Nat} {v : Value} {dn : Bool} {fu : Int} {fs : List Fl} (h : St w B x v dn fu fs) (hb : Below x.heap.size x x') : St w B x' v dn fu fs :=
  ⟨h.lo, Nat.lt_of_lt_of_le h.hi hb.size, h.below.trans (hb.mono h.below.size), h.dx.keep hb h.hi, h.files.on hb hb.size⟩
theorem St.step {w x x' : World} {B : Nat} {v : Value} {dn dn2 : Bool} {fu fu2 : Int} {fs fs2 : List Fl} {r : Nat} {e : Ending} (h : St w B x v dn fu fs) (hd : DoIs x fs2 dn2 fu2 r e x') (hf : Fine fs2) (hl : fs2.length ≤ 4611686018427387904) :
    ∃ v', e = .returned (.tuple #[.agg #[v', .bool dn2, .int .i64 fu2], .int .i64 (r : Nat)]) ∧ (∃ a c, v' = .slice a fs2.length c) ∧ St w B x' v dn fu fs ∧ St w B (st3 x' B v' dn2 fu2) v' dn2 fu2 fs2 ∧ Files x' x'.heap.size v' fs2 := by
  obtain ⟨v', rfl, ho, hb⟩ := hd
  have h' := h.keep hb
  refine ⟨v', rfl, ho.slice, h', ⟨h.lo, by unfold st3; simpa using h'.hi, bset (bset (bset h'.below h.lo _) h.lo _) h.lo _, h'.dx.st, ?_⟩, ho.files hf hl⟩
  exact Own.files (((ho.sb h.hi _).sb h.hi _).sb h.hi _) hf hl

end Dk
end Go.Proofs.Ytjgdmdgiicpemaa
