/-
  gafferlaw11.lives.
-/
import Derived.Test.YthbmnkeigmbbdaaGreatQqA
import Derived.Test.YthbmnkeigmbbdaaGreatQeF
namespace Go.Proofs.YthbmnkeigmbbdaaGreat
open Go.RowKit Go.Lib
namespace Bo
open Rw
set_option linter.unusedVariables false
def lqN : Hd.Nd := ⟨⟨#[110]⟩, 0, 0, 0, [], []⟩
def lqO : Hd.Nd := ⟨⟨#[111]⟩, 0, 0, 0, [], [⟨⟨#[120]⟩, ⟨#[]⟩⟩]⟩
def lqT (n : ByteArray) (r : Int) : Hd.Td := ⟨n, 0, 0, 0, [], [], ⟨#[]⟩, ⟨#[]⟩, r⟩
def lqB : Bk := ⟨[lqN, lqO], [lqT ⟨#[97]⟩ 5, lqT ⟨#[98]⟩ 5, lqT ⟨#[99]⟩ 1], [], 0⟩
theorem lq_chk : chkB lqB = true := by kernel_rfl
theorem lq_wt : wtV lqB = [lqT ⟨#[97]⟩ 5, lqT ⟨#[98]⟩ 5, lqT ⟨#[99]⟩ 1] := by kernel_rfl
theorem lq_fa : frE lqB ⟨#[97]⟩ = 0 := by kernel_rfl
theorem lq_va : frV lqB ⟨#[97]⟩ = [⟨#[110]⟩] := by kernel_rfl
theorem lq_fz : frE lqB ⟨#[122]⟩ = 6 := by kernel_rfl
theorem lq_f1 : FitN lqN := by unfold FitN FitS FitL Rg.In64 lqN; decide +kernel
theorem lq_f2 : FitN lqO := by unfold FitN FitS FitL Rg.In64 lqO; decide +kernel
theorem lq_f3 : FitT (lqT ⟨#[97]⟩ 5) := by unfold FitT FitS FitL Rg.In64 lqT; decide +kernel
theorem lq_f4 : FitT (lqT ⟨#[98]⟩ 5) := by unfold FitT FitS FitL Rg.In64 lqT; decide +kernel
theorem lq_f5 : FitT (lqT ⟨#[99]⟩ 1) := by unfold FitT FitS FitL Rg.In64 lqT; decide +kernel
theorem lq_books (w : World) : Books ((((w.alloc (.cells #[.string ⟨#[120]⟩, .string ⟨#[]⟩] 89)).alloc (.cells #[.string ⟨#[110]⟩, .int .i64 0, .int .i64 0, .int .i64 0, .slice none 0 0, .slice none 0 0, .string ⟨#[111]⟩, .int .i64 0, .int .i64 0, .int .i64 0, .slice none 0 0, .slice (some ⟨w.heap.size, 0, none⟩) 1 1] 45)).alloc (.cells #[.string ⟨#[97]⟩, .int .i64 0, .int .i64 0, .int .i64 0, .slice none 0 0, .slice none 0 0, .string ⟨#[]⟩, .string ⟨#[]⟩, .int .i64 5, .string ⟨#[98]⟩, .int .i64 0, .int .i64 0, .int .i64 0, .slice none 0 0, .slice none 0 0, .string ⟨#[]⟩, .string ⟨#[]⟩, .int .i64 5, .string ⟨#[99]⟩, .int .i64 0, .int .i64 0, .int .i64 0, .slice none 0 0, .slice none 0 0, .string ⟨#[]⟩, .string ⟨#[]⟩, .int .i64 1] 42)).alloc (.cells #[.slice (some ⟨w.heap.size + 1, 0, none⟩) 2 2, .slice (some ⟨w.heap.size + 1 + 1, 0, none⟩) 3 3, .slice none 0 0, .int .u64 0] 27)) (w.heap.size + 1 + 1 + 1 + 1) (.slice (some ⟨w.heap.size + 1, 0, none⟩) 2 2) (.slice (some ⟨w.heap.size + 1 + 1, 0, none⟩) 3 3) (.slice none 0 0) lqB := by
  have hp : Sl (w.alloc (.cells #[.string ⟨#[120]⟩, .string ⟨#[]⟩] 89)) w.heap.size (w.heap.size + 1) (.slice (some ⟨w.heap.size, 0, none⟩) 1 1) [(⟨⟨#[120]⟩, ⟨#[]⟩⟩ : Rg.Pr)] := by
    have h := sl_new w [(⟨⟨#[120]⟩, ⟨#[]⟩⟩ : Rg.Pr)] 89 (by simp)
    simp only [World.size_alloc] at h
    exact h
  have hn : Sl ((w.alloc (.cells #[.string ⟨#[120]⟩, .string ⟨#[]⟩] 89)).alloc (.cells #[.string ⟨#[110]⟩, .int .i64 0, .int .i64 0, .int .i64 0, .slice none 0 0, .slice none 0 0, .string ⟨#[111]⟩, .int .i64 0, .int .i64 0, .int .i64 0, .slice none 0 0, .slice (some ⟨w.heap.size, 0, none⟩) 1 1] 45)) (w.heap.size + 1) (w.heap.size + 1 + 1) (.slice (some ⟨w.heap.size + 1, 0, none⟩) 2 2) [(⟨lqN, none, 0, none, 0⟩ : NdM), ⟨lqO, none, 0, some ⟨w.heap.size, 0, none⟩, 1⟩] := by
    have h := sl_new (w.alloc (.cells #[.string ⟨#[120]⟩, .string ⟨#[]⟩] 89)) [(⟨lqN, none, 0, none, 0⟩ : NdM), ⟨lqO, none, 0, some ⟨w.heap.size, 0, none⟩, 1⟩] 45 (by simp)
    simp only [World.size_alloc] at h
    exact h
  have ht : Sl (((w.alloc (.cells #[.string ⟨#[120]⟩, .string ⟨#[]⟩] 89)).alloc (.cells #[.string ⟨#[110]⟩, .int .i64 0, .int .i64 0, .int .i64 0, .slice none 0 0, .slice none 0 0, .string ⟨#[111]⟩, .int .i64 0, .int .i64 0, .int .i64 0, .slice none 0 0, .slice (some ⟨w.heap.size, 0, none⟩) 1 1] 45)).alloc (.cells #[.string ⟨#[97]⟩, .int .i64 0, .int .i64 0, .int .i64 0, .slice none 0 0, .slice none 0 0, .string ⟨#[]⟩, .string ⟨#[]⟩, .int .i64 5, .string ⟨#[98]⟩, .int .i64 0, .int .i64 0, .int .i64 0, .slice none 0 0, .slice none 0 0, .string ⟨#[]⟩, .string ⟨#[]⟩, .int .i64 5, .string ⟨#[99]⟩, .int .i64 0, .int .i64 0, .int .i64 0, .slice none 0 0, .slice none 0 0, .string ⟨#[]⟩, .string ⟨#[]⟩, .int .i64 1] 42)) (w.heap.size + 1 + 1) (w.heap.size + 1 + 1 + 1) (.slice (some ⟨w.heap.size + 1 + 1, 0, none⟩) 3 3) [(⟨lqT ⟨#[97]⟩ 5, none, 0, none, 0⟩ : TdM), ⟨lqT ⟨#[98]⟩ 5, none, 0, none, 0⟩, ⟨lqT ⟨#[99]⟩ 1, none, 0, none, 0⟩] := by
    have h := sl_new ((w.alloc (.cells #[.string ⟨#[120]⟩, .string ⟨#[]⟩] 89)).alloc (.cells #[.string ⟨#[110]⟩, .int .i64 0, .int .i64 0, .int .i64 0, .slice none 0 0, .slice none 0 0, .string ⟨#[111]⟩, .int .i64 0, .int .i64 0, .int .i64 0, .slice none 0 0, .slice (some ⟨w.heap.size, 0, none⟩) 1 1] 45)) [(⟨lqT ⟨#[97]⟩ 5, none, 0, none, 0⟩ : TdM), ⟨lqT ⟨#[98]⟩ 5, none, 0, none, 0⟩, ⟨lqT ⟨#[99]⟩ 1, none, 0, none, 0⟩] 42 (by simp)
    simp only [World.size_alloc] at h
    exact h
  have hAB : Below (w.heap.size + 1) (w.alloc (.cells #[.string ⟨#[120]⟩, .string ⟨#[]⟩] 89)) ((w.alloc (.cells #[.string ⟨#[120]⟩, .string ⟨#[]⟩] 89)).alloc (.cells #[.string ⟨#[110]⟩, .int .i64 0, .int .i64 0, .int .i64 0, .slice none 0 0, .slice none 0 0, .string ⟨#[111]⟩, .int .i64 0, .int .i64 0, .int .i64 0, .slice none 0 0, .slice (some ⟨w.heap.size, 0, none⟩) 1 1] 45)) := by have h := al (w.alloc (.cells #[.string ⟨#[120]⟩, .string ⟨#[]⟩] 89)) (.cells #[.string ⟨#[110]⟩, .int .i64 0, .int .i64 0, .int .i64 0, .slice none 0 0, .slice none 0 0, .string ⟨#[111]⟩, .int .i64 0, .int .i64 0, .int .i64 0, .slice none 0 0, .slice (some ⟨w.heap.size, 0, none⟩) 1 1] 45); simp only [World.size_alloc] at h; exact h
  have hBC : Below (w.heap.size + 1 + 1) ((w.alloc (.cells #[.string ⟨#[120]⟩, .string ⟨#[]⟩] 89)).alloc (.cells #[.string ⟨#[110]⟩, .int .i64 0, .int .i64 0, .int .i64 0, .slice none 0 0, .slice none 0 0, .string ⟨#[111]⟩, .int .i64 0, .int .i64 0, .int .i64 0, .slice none 0 0, .slice (some ⟨w.heap.size, 0, none⟩) 1 1] 45)) (((w.alloc (.cells #[.string ⟨#[120]⟩, .string ⟨#[]⟩] 89)).alloc (.cells #[.string ⟨#[110]⟩, .int .i64 0, .int .i64 0, .int .i64 0, .slice none 0 0, .slice none 0 0, .string ⟨#[111]⟩, .int .i64 0, .int .i64 0, .int .i64 0, .slice none 0 0, .slice (some ⟨w.heap.size, 0, none⟩) 1 1] 45)).alloc (.cells #[.string ⟨#[97]⟩, .int .i64 0, .int .i64 0, .int .i64 0, .slice none 0 0, .slice none 0 0, .string ⟨#[]⟩, .string ⟨#[]⟩, .int .i64 5, .string ⟨#[98]⟩, .int .i64 0, .int .i64 0, .int .i64 0, .slice none 0 0, .slice none 0 0, .string ⟨#[]⟩, .string ⟨#[]⟩, .int .i64 5, .string ⟨#[99]⟩, .int .i64 0, .int .i64 0, .int .i64 0, .slice none 0 0, .slice none 0 0, .string ⟨#[]⟩, .string ⟨#[]⟩, .int .i64 1] 42)) := by have h := al ((w.alloc (.cells #[.string ⟨#[120]⟩, .string ⟨#[]⟩] 89)).alloc (.cells #[.string ⟨#[110]⟩, .int .i64 0, .int .i64 0, .int .i64 0, .slice none 0 0, .slice none 0 0, .string ⟨#[111]⟩, .int .i64 0, .int .i64 0, .int .i64 0, .slice none 0 0, .slice (some ⟨w.heap.size, 0, none⟩) 1 1] 45)) (.cells #[.string ⟨#[97]⟩, .int .i64 0, .int .i64 0, .int .i64 0, .slice none 0 0, .slice none 0 0, .string ⟨#[]⟩, .string ⟨#[]⟩, .int .i64 5, .string ⟨#[98]⟩, .int .i64 0, .int .i64 0, .int .i64 0, .slice none 0 0, .slice none 0 0, .string ⟨#[]⟩, .string ⟨#[]⟩, .int .i64 5, .string ⟨#[99]⟩, .int .i64 0, .int .i64 0, .int .i64 0, .slice none 0 0, .slice none 0 0, .string ⟨#[]⟩, .string ⟨#[]⟩, .int .i64 1] 42); simp only [World.size_alloc] at h; exact h
  have hCD : Below (w.heap.size + 1 + 1 + 1) (((w.alloc (.cells #[.string ⟨#[120]⟩, .string ⟨#[]⟩] 89)).alloc (.cells #[.string ⟨#[110]⟩, .int .i64 0, .int .i64 0, .int .i64 0, .slice none 0 0, .slice none 0 0, .string ⟨#[111]⟩, .int .i64 0, .int .i64 0, .int .i64 0, .slice none 0 0, .slice (some ⟨w.heap.size, 0, none⟩) 1 1] 45)).alloc (.cells #[.string ⟨#[97]⟩, .int .i64 0, .int .i64 0, .int .i64 0, .slice none 0 0, .slice none 0 0, .string ⟨#[]⟩, .string ⟨#[]⟩, .int .i64 5, .string ⟨#[98]⟩, .int .i64 0, .int .i64 0, .int .i64 0, .slice none 0 0, .slice none 0 0, .string ⟨#[]⟩, .string ⟨#[]⟩, .int .i64 5, .string ⟨#[99]⟩, .int .i64 0, .int .i64 0, .int .i64 0, .slice none 0 0, .slice none 0 0, .string ⟨#[]⟩, .string ⟨#[]⟩, .int .i64 1] 42)) ((((w.alloc (.cells #[.string ⟨#[120]⟩, .string ⟨#[]⟩] 89)).alloc (.cells #[.string ⟨#[110]⟩, .int .i64 0, .int .i64 0, .int .i64 0, .slice none 0 0, .slice none 0 0, .string ⟨#[111]⟩, .int .i64 0, .int .i64 0, .int .i64 0, .slice none 0 0, .slice (some ⟨w.heap.size, 0, none⟩) 1 1] 45)).alloc (.cells #[.string ⟨#[97]⟩, .int .i64 0, .int .i64 0, .int .i64 0, .slice none 0 0, .slice none 0 0, .string ⟨#[]⟩, .string ⟨#[]⟩, .int .i64 5, .string ⟨#[98]⟩, .int .i64 0, .int .i64 0, .int .i64 0, .slice none 0 0, .slice none 0 0, .string ⟨#[]⟩, .string ⟨#[]⟩, .int .i64 5, .string ⟨#[99]⟩, .int .i64 0, .int .i64 0, .int .i64 0, .slice none 0 0, .slice none 0 0, .string ⟨#[]⟩, .string ⟨#[]⟩, .int .i64 1] 42)).alloc (.cells #[.slice (some ⟨w.heap.size + 1, 0, none⟩) 2 2, .slice (some ⟨w.heap.size + 1 + 1, 0, none⟩) 3 3, .slice none 0 0, .int .u64 0] 27)) := by have h := al (((w.alloc (.cells #[.string ⟨#[120]⟩, .string ⟨#[]⟩] 89)).alloc (.cells #[.string ⟨#[110]⟩, .int .i64 0, .int .i64 0, .int .i64 0, .slice none 0 0, .slice none 0 0, .string ⟨#[111]⟩, .int .i64 0, .int .i64 0, .int .i64 0, .slice none 0 0, .slice (some ⟨w.heap.size, 0, none⟩) 1 1] 45)).alloc (.cells #[.string ⟨#[97]⟩, .int .i64 0, .int .i64 0, .int .i64 0, .slice none 0 0, .slice none 0 0, .string ⟨#[]⟩, .string ⟨#[]⟩, .int .i64 5, .string ⟨#[98]⟩, .int .i64 0, .int .i64 0, .int .i64 0, .slice none 0 0, .slice none 0 0, .string ⟨#[]⟩, .string ⟨#[]⟩, .int .i64 5, .string ⟨#[99]⟩, .int .i64 0, .int .i64 0, .int .i64 0, .slice none 0 0, .slice none 0 0, .string ⟨#[]⟩, .string ⟨#[]⟩, .int .i64 1] 42)) (.cells #[.slice (some ⟨w.heap.size + 1, 0, none⟩) 2 2, .slice (some ⟨w.heap.size + 1 + 1, 0, none⟩) 3 3, .slice none 0 0, .int .u64 0] 27); simp only [World.size_alloc] at h; exact h
  have hAD := (hAB.trans (hBC.mono (by omega))).trans (hCD.mono (by omega))
  have hBD := hBC.trans (hCD.mono (by omega))
  refine ⟨⟨_, rfl, (hn.keep hBD).more (by omega) (Nat.zero_le _), ?_, by decide⟩, ⟨_, rfl, (ht.keep hCD).more (by omega) (Nat.zero_le _), ?_, by decide⟩, ⟨Sl.nil _ _ _, by simp [lqB], by decide⟩, by decide⟩
  · intro x hx
    rcases List.mem_cons.1 hx with rfl | hx
    · exact ⟨⟨Sl.nil _ _ _, Sl.nil _ _ _⟩, lq_f1⟩
    · rw [List.mem_singleton.1 hx]
      exact ⟨⟨Sl.nil _ _ _, (hp.keep hAD).more (by omega) (Nat.zero_le _)⟩, lq_f2⟩
  · intro x hx
    rcases List.mem_cons.1 hx with rfl | hx
    · exact ⟨⟨Sl.nil _ _ _, Sl.nil _ _ _⟩, lq_f3⟩
    · rcases List.mem_cons.1 hx with rfl | hx
      · exact ⟨⟨Sl.nil _ _ _, Sl.nil _ _ _⟩, lq_f4⟩
      · rw [List.mem_singleton.1 hx]
        exact ⟨⟨Sl.nil _ _ _, Sl.nil _ _ _⟩, lq_f5⟩
set_option maxRecDepth 100000 in
set_option maxHeartbeats 4000000 in
theorem livesQ_any (w : World) : Calls Tryz.prog 18 #[] w fun e w' => e = .returned (.bool true) ∧ Below w.heap.size w w' := by
  obtain ⟨W1, hW1⟩ : ∃ W1, W1 = (((w.alloc (.cells #[.string ⟨#[120]⟩, .string ⟨#[]⟩] 89)).alloc (.cells #[.string ⟨#[110]⟩, .int .i64 0, .int .i64 0, .int .i64 0, .slice none 0 0, .slice none 0 0, .string ⟨#[111]⟩, .int .i64 0, .int .i64 0, .int .i64 0, .slice none 0 0, .slice (some ⟨w.heap.size, 0, none⟩) 1 1] 45)).alloc (.cells #[.string ⟨#[97]⟩, .int .i64 0, .int .i64 0, .int .i64 0, .slice none 0 0, .slice none 0 0, .string ⟨#[]⟩, .string ⟨#[]⟩, .int .i64 5, .string ⟨#[98]⟩, .int .i64 0, .int .i64 0, .int .i64 0, .slice none 0 0, .slice none 0 0, .string ⟨#[]⟩, .string ⟨#[]⟩, .int .i64 5, .string ⟨#[99]⟩, .int .i64 0, .int .i64 0, .int .i64 0, .slice none 0 0, .slice none 0 0, .string ⟨#[]⟩, .string ⟨#[]⟩, .int .i64 1] 42)).alloc (.cells #[.slice (some ⟨w.heap.size + 1, 0, none⟩) 2 2, .slice (some ⟨w.heap.size + 1 + 1, 0, none⟩) 3 3, .slice none 0 0, .int .u64 0] 27) := ⟨_, rfl⟩
  have hz : W1.heap.size = w.heap.size + 1 + 1 + 1 + 1 := by rw [hW1]; simp
  have hbk : Books W1 W1.heap.size (.slice (some ⟨w.heap.size + 1, 0, none⟩) 2 2) (.slice (some ⟨w.heap.size + 1 + 1, 0, none⟩) 3 3) (.slice none 0 0) lqB := by rw [hz, hW1]; exact lq_books w
  have hbw : Below w.heap.size w W1 := by rw [hW1]; exact (((al w _).alloc (by simp) _).alloc (by simp; omega) _).alloc (by simp; omega) _
  have hbx : Hd.Bxn W1 (w.heap.size + 1 + 1 + 1) [.slice (some ⟨w.heap.size + 1, 0, none⟩) 2 2, .slice (some ⟨w.heap.size + 1 + 1, 0, none⟩) 3 3, .slice none 0 0, .int .u64 0] := by
    rw [hW1]
    have := Hd.Bxn.made (((w.alloc (.cells #[.string ⟨#[120]⟩, .string ⟨#[]⟩] 89)).alloc (.cells #[.string ⟨#[110]⟩, .int .i64 0, .int .i64 0, .int .i64 0, .slice none 0 0, .slice none 0 0, .string ⟨#[111]⟩, .int .i64 0, .int .i64 0, .int .i64 0, .slice none 0 0, .slice (some ⟨w.heap.size, 0, none⟩) 1 1] 45)).alloc (.cells #[.string ⟨#[97]⟩, .int .i64 0, .int .i64 0, .int .i64 0, .slice none 0 0, .slice none 0 0, .string ⟨#[]⟩, .string ⟨#[]⟩, .int .i64 5, .string ⟨#[98]⟩, .int .i64 0, .int .i64 0, .int .i64 0, .slice none 0 0, .slice none 0 0, .string ⟨#[]⟩, .string ⟨#[]⟩, .int .i64 5, .string ⟨#[99]⟩, .int .i64 0, .int .i64 0, .int .i64 0, .slice none 0 0, .slice none 0 0, .string ⟨#[]⟩, .string ⟨#[]⟩, .int .i64 1] 42)) [.slice (some ⟨w.heap.size + 1, 0, none⟩) 2 2, .slice (some ⟨w.heap.size + 1 + 1, 0, none⟩) 3 3, .slice none 0 0, .int .u64 0] 27
    simp only [World.size_alloc] at this
    exact this
  have HWQ : Hid (∀ z, Below W1.heap.size W1 z → Calls Tryz.prog 12 #[.agg #[.slice (some ⟨w.heap.size + 1, 0, none⟩) 2 2, .slice (some ⟨w.heap.size + 1 + 1, 0, none⟩) 3 3, .slice none 0 0, .int .u64 0]] z fun e w' => ∃ g cap, e = .returned (.tuple #[.slice (some ⟨g, 0, none⟩) 3 cap, .int .i64 0]) ∧ w'.cell? ⟨g, 0, none⟩ = some (.string ⟨#[97]⟩) ∧ w'.cell? ⟨g, 18, none⟩ = some (.string ⟨#[99]⟩) ∧ Below z.heap.size z w') := fun z hz => by
    refine (waitq_any lqB _ _ _ z (hbk.on hz)).mono ?_
    rintro e w' ⟨v, m, he, ho, hm, -, hb⟩
    rw [lq_chk, if_pos rfl, lq_wt] at hm
    have hl : m.length = 3 := by have := congrArg List.length hm; simpa using this
    obtain ⟨g, cap, rfl, -, -, hat, -⟩ := ho.form (by omega)
    have h0 := (at_td (hat 0 (by omega))).1
    have h2 := (at_td (hat 2 (by omega))).1
    have e0 : m[0].td.n = ⟨#[97]⟩ := by have := congrArg (fun l => l[0]?.map (·.n)) hm; simpa [hl, lqT] using this
    have e2 : m[2].td.n = ⟨#[99]⟩ := by have := congrArg (fun l => l[2]?.map (·.n)) hm; simpa [hl, lqT] using this
    rw [e0] at h0
    rw [e2] at h2
    refine ⟨g, cap, ?_, h0, h2, hb⟩
    rw [he, lq_chk, hl]
    rfl
  have HLQ : Hid (∀ z, Below W1.heap.size W1 z → Calls Tryz.prog 14 #[.agg #[.slice (some ⟨w.heap.size + 1, 0, none⟩) 2 2, .slice (some ⟨w.heap.size + 1 + 1, 0, none⟩) 3 3, .slice none 0 0, .int .u64 0]] z fun e w' => ∃ a c, e = .returned (.tuple #[.slice a 2 c, .int .i64 0]) ∧ Below z.heap.size z w') := fun z hz => by
    refine (loads_any lqB _ _ _ z (hbk.on hz)).mono ?_
    rintro e w' ⟨v, l, he, ho, hm, -, hb⟩
    rw [lq_chk, if_pos rfl] at hm
    have hl : (l.map (mkL lqB)).length = 2 := by have := congrArg List.length hm; simpa [lqB] using this
    obtain ⟨a, c, rfl⟩ := ho.slice
    refine ⟨a, c, ?_, hb⟩
    rw [he, lq_chk, hl]
    rfl
  have HFA : Hid (∀ z, Below W1.heap.size W1 z → Calls Tryz.prog 16 #[.agg #[.slice (some ⟨w.heap.size + 1, 0, none⟩) 2 2, .slice (some ⟨w.heap.size + 1 + 1, 0, none⟩) 3 3, .slice none 0 0, .int .u64 0], .string ⟨#[97]⟩] z fun e w' => ∃ g cap, e = .returned (.tuple #[.slice (some ⟨g, 0, none⟩) 1 cap, .int .i64 0]) ∧ w'.cell? ⟨g, 0, none⟩ = some (.string ⟨#[110]⟩) ∧ Below z.heap.size z w') := fun z hz => by
    refine (free_any lqB _ _ _ ⟨#[97]⟩ z (hbk.on hz)).mono ?_
    rintro e w' ⟨v, he, ho, hb⟩
    rw [lq_va] at ho
    obtain ⟨g, cap, rfl, -, -, hat, -⟩ := ho.form (by decide)
    refine ⟨g, cap, ?_, hat 0 (by decide) 0 _ rfl, hb⟩
    rw [he, lq_fa]
    rfl
  have HFZ : Hid (∀ z, Below W1.heap.size W1 z → Calls Tryz.prog 16 #[.agg #[.slice (some ⟨w.heap.size + 1, 0, none⟩) 2 2, .slice (some ⟨w.heap.size + 1 + 1, 0, none⟩) 3 3, .slice none 0 0, .int .u64 0], .string ⟨#[122]⟩] z fun e w' => ∃ a n c, e = .returned (.tuple #[.slice a n c, .int .i64 6]) ∧ Below z.heap.size z w') := fun z hz => by
    refine (free_any lqB _ _ _ ⟨#[122]⟩ z (hbk.on hz)).mono ?_
    rintro e w' ⟨v, he, ho, hb⟩
    obtain ⟨a, c, rfl⟩ := ho.slice
    refine ⟨a, (frV lqB ⟨#[122]⟩).length, c, ?_, hb⟩
    rw [he, lq_fz]
    rfl
  have HW := Lib.hid hW1
  have HX := Lib.hid hbx
  have HB0 := Lib.hid hbw
  have HZ := Lib.hid hz
  clear hW1 hz hbk hbw hbx
  go_enter Tryz.func18, Tryz.ntmps18
  go_upto_region 2 with fail
  rw [← HW.out]
  have b0 : W1.cell? ⟨w.heap.size + 1 + 1 + 1, 0, none⟩ = some (.slice (some ⟨w.heap.size + 1, 0, none⟩) 2 2) := HX.out.cell 0
  have b1 : W1.cell? ⟨w.heap.size + 1 + 1 + 1, 1, none⟩ = some (.slice (some ⟨w.heap.size + 1 + 1, 0, none⟩) 3 3) := HX.out.cell 1
  have b2 : W1.cell? ⟨w.heap.size + 1 + 1 + 1, 2, none⟩ = some (.slice none 0 0) := HX.out.cell 2
  have b3 : W1.cell? ⟨w.heap.size + 1 + 1 + 1, 3, none⟩ = some (.int .u64 0) := HX.out.cell 3
  go_wp2_with fail
  refine (HWQ.out W1 (Below.refl _ _)).mono ?_
  rintro e w1 ⟨g, cap, rfl, hg0, hg2, hb⟩
  have HG := Lib.hid (And.intro hg0 hg2)
  have H1 : Hid (Below W1.heap.size W1 w1) := hb
  have HX1 := Lib.hid (HX.out.below hb)
  have HGL : Hid (g < w1.heap.size) := World.block_lt_of_cell? w1 _ hg0
  clear hb b0 b1 b2 b3 hg0 hg2
  have b0 : w1.cell? ⟨w.heap.size + 1 + 1 + 1, 0, none⟩ = some (.slice (some ⟨w.heap.size + 1, 0, none⟩) 2 2) := HX1.out.cell 0
  have b1 : w1.cell? ⟨w.heap.size + 1 + 1 + 1, 1, none⟩ = some (.slice (some ⟨w.heap.size + 1 + 1, 0, none⟩) 3 3) := HX1.out.cell 1
  have b2 : w1.cell? ⟨w.heap.size + 1 + 1 + 1, 2, none⟩ = some (.slice none 0 0) := HX1.out.cell 2
  have b3 : w1.cell? ⟨w.heap.size + 1 + 1 + 1, 3, none⟩ = some (.int .u64 0) := HX1.out.cell 3
  go_wp2_with fail
  refine (HLQ.out w1 H1.out).mono ?_
  rintro e w2 ⟨al', cl, rfl, hb⟩
  have H2 : Hid (Below W1.heap.size W1 w2) := H1.out.trans (hb.mono H1.out.size)
  have HX2 := Lib.hid (HX1.out.below hb)
  have HU2 : Hid (Below w1.heap.size w1 w2) := hb
  clear hb b0 b1 b2 b3
  have b0 : w2.cell? ⟨w.heap.size + 1 + 1 + 1, 0, none⟩ = some (.slice (some ⟨w.heap.size + 1, 0, none⟩) 2 2) := HX2.out.cell 0
  have b1 : w2.cell? ⟨w.heap.size + 1 + 1 + 1, 1, none⟩ = some (.slice (some ⟨w.heap.size + 1 + 1, 0, none⟩) 3 3) := HX2.out.cell 1
  have b2 : w2.cell? ⟨w.heap.size + 1 + 1 + 1, 2, none⟩ = some (.slice none 0 0) := HX2.out.cell 2
  have b3 : w2.cell? ⟨w.heap.size + 1 + 1 + 1, 3, none⟩ = some (.int .u64 0) := HX2.out.cell 3
  go_wp2_with fail
  refine (HFA.out w2 H2.out).mono ?_
  rintro e w3 ⟨gf, cf, rfl, hf0, hb⟩
  have HF := Lib.hid hf0
  have HFL : Hid (gf < w3.heap.size) := World.block_lt_of_cell? w3 _ hf0
  have H3 : Hid (Below W1.heap.size W1 w3) := H2.out.trans (hb.mono H2.out.size)
  have HX3 := Lib.hid (HX2.out.below hb)
  have HU3 : Hid (Below w1.heap.size w1 w3) := HU2.out.trans (hb.mono HU2.out.size)
  clear hb b0 b1 b2 b3 hf0
  have b0 : w3.cell? ⟨w.heap.size + 1 + 1 + 1, 0, none⟩ = some (.slice (some ⟨w.heap.size + 1, 0, none⟩) 2 2) := HX3.out.cell 0
  have b1 : w3.cell? ⟨w.heap.size + 1 + 1 + 1, 1, none⟩ = some (.slice (some ⟨w.heap.size + 1 + 1, 0, none⟩) 3 3) := HX3.out.cell 1
  have b2 : w3.cell? ⟨w.heap.size + 1 + 1 + 1, 2, none⟩ = some (.slice none 0 0) := HX3.out.cell 2
  have b3 : w3.cell? ⟨w.heap.size + 1 + 1 + 1, 3, none⟩ = some (.int .u64 0) := HX3.out.cell 3
  go_wp2_with fail
  refine (HFZ.out w3 H3.out).mono ?_
  rintro e w4 ⟨az, nz, cz, rfl, hb⟩
  have H4 : Hid (Below W1.heap.size W1 w4) := H3.out.trans (hb.mono H3.out.size)
  have HU4 : Hid (Below w1.heap.size w1 w4) := HU3.out.trans (hb.mono HU3.out.size)
  have c0 : w4.cell? ⟨g, 0, none⟩ = some (.string ⟨#[97]⟩) := (HU4.out.cell (p := ⟨g, 0, none⟩) HGL.out).trans HG.out.1
  have c2 : w4.cell? ⟨g, 18, none⟩ = some (.string ⟨#[99]⟩) := (HU4.out.cell (p := ⟨g, 18, none⟩) HGL.out).trans HG.out.2
  have f0 : w4.cell? ⟨gf, 0, none⟩ = some (.string ⟨#[110]⟩) := (hb.cell (p := ⟨gf, 0, none⟩) HFL.out).trans HF.out
  have HE : Hid (Below w.heap.size w w4) := HB0.out.trans (H4.out.mono HB0.out.size)
  clear hb b0 b1 b2 b3
  go_wp2
  go_ret
  exact ⟨rfl, HE.out⟩
end Bo
end Go.Proofs.YthbmnkeigmbbdaaGreat
