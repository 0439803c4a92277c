/-
  Merged: BoRowP, BoRowN, BoRowT, BoRowB.
-/
import Derived.Test.YthbmnkeigmbbdaaGreatBoRowG
/-
  PAIRS OF THE CALL's OWN: slices.Clone, slices.Insert, slices.Delete.
-/
namespace Go.Proofs.YthbmnkeigmbbdaaGreat
open Go.RowKit Go.Lib Go.Sort
namespace Bo
open Rw
set_option linter.unusedVariables false
theorem info_p : (Tryz.prog.info? 89).map (fun i => (i.zero, i.size, i.bytes)) = some (some (.agg #[.string ByteArray.empty, .string ByteArray.empty]), 2, 32) := by kernel_rfl
set_option maxHeartbeats 1000000 in
theorem clone_p (v : Value) (l : List Rg.Pr) (w : World) {A : Nat} (hv : Sl w A w.heap.size v l) (hby : l.length * 32 ≤ 140737488355328) :
    Calls Tryz.prog 159 #[v] w fun e w' => ∃ v', e = .returned v' ∧ Own w' w.heap.size 89 v' l ∧ Below w.heap.size w w' := by
  have q22 : ∀ (w : World) (a : Option Addr) (n c n' c' : Nat), (binOp .eql 40 (.slice a n c) (.slice none n' c')).run Tryz.prog w = .ok (.bool a.isNone) w := fun w a n c n' c' => Lib.run_eql_slice_nil w _ _ a n c n' c' Tryz.underlying40
  have hv2 := hv
  obtain ⟨a, c, rfl, hc0, hnil, hl, hc⟩ := hv
  cases a with
  | none =>
    have h0 : l = [] := List.eq_nil_of_length_eq_zero (by have := hnil rfl; omega)
    subst h0
    clear hc hv2 hl hnil hc0
    go_enter Tryz.func159, Tryz.ntmps159
    go_wp2
    go_ret
    exact ⟨_, rfl, Own.nil _ _ _, Below.refl _ _⟩
  | some ad =>
    obtain ⟨i0, hi, hz0, hz1, hz2⟩ := info_parts info_p
    have A := Lib.hid hv2.news
    have hmx : l.length ≤ maxLen := by simp only [maxLen]; omega
    have hl3 : (flat l).length = l.length * 2 := flat_len l
    have h1 := flat_one l
    have HLL := Lib.hid hby
    clear hc hv2 hnil hc0
    have H3 := Lib.hid hl3
    have H1 := Lib.hid h1
    clear hl3 h1 hby
    have HF : Hid (∀ (w1 : World) (v' : Value), w1.ownsRow w.heap.size 89 2 v' l.length (flat l) → Own w1 w.heap.size 89 v' l) := fun _ _ h => h
    generalize flat l = xs at A H3 H1 HF
    go_enter Tryz.func159, Tryz.ntmps159
    go_wp2_with (at_builtin; refine wpList_append_own _ rfl _ _ 40 rfl w.heap.size 89 i0 _ 2 32 Tryz.underlying40 hi hz0 hz1 hz2 rfl (by omega) _ _ _ rfl (World.ownsRow_made w #[] 0 (Nat.le_refl _) (Nat.zero_le _) (by simp)) ad l.length c xs rfl H3.out (fun j u hj => Lib.cell?_alloc_some _ (A.out j u hj)) H1.out (by rw [Nat.zero_add]; exact hmx) (by rw [Nat.zero_add]; exact HLL.out) (by simp) ?_; intro v' w1 hown hgrow hnil)
    go_ret
    exact ⟨_, rfl, HF.out _ _ (by simpa using hown), ((Below.refl _ w).alloc (Nat.le_refl _) _).grown hgrow (by simp) (fun k hk => Nat.le_of_eq (Option.some.inj hk))⟩
end Bo
end Go.Proofs.YthbmnkeigmbbdaaGreat

/-
  NODES OF THE CALL's OWN: slices.Clone, slices.Insert, slices.Delete.
-/
namespace Go.Proofs.YthbmnkeigmbbdaaGreat
open Go.RowKit Go.Lib Go.Sort
namespace Bo
open Rw
set_option linter.unusedVariables false
theorem info_n : (Tryz.prog.info? 45).map (fun i => (i.zero, i.size, i.bytes)) = some (some (.agg #[.string ByteArray.empty, .int .i64 0, .int .i64 0, .int .i64 0, .slice none 0 0, .slice none 0 0]), 6, 88) := by kernel_rfl
set_option maxHeartbeats 1000000 in
theorem clone_n (v : Value) (l : List NdM) (w : World) {A : Nat} (hv : Sl w A w.heap.size v l) (hby : l.length * 88 ≤ 140737488355328) :
    Calls Tryz.prog 158 #[v] w fun e w' => ∃ v', e = .returned v' ∧ Own w' w.heap.size 45 v' l ∧ Below w.heap.size w w' := by
  have q22 : ∀ (w : World) (a : Option Addr) (n c n' c' : Nat), (binOp .eql 22 (.slice a n c) (.slice none n' c')).run Tryz.prog w = .ok (.bool a.isNone) w := fun w a n c n' c' => Lib.run_eql_slice_nil w _ _ a n c n' c' Tryz.underlying22
  have hv2 := hv
  obtain ⟨a, c, rfl, hc0, hnil, hl, hc⟩ := hv
  cases a with
  | none =>
    have h0 : l = [] := List.eq_nil_of_length_eq_zero (by have := hnil rfl; omega)
    subst h0
    clear hc hv2 hl hnil hc0
    go_enter Tryz.func158, Tryz.ntmps158
    go_wp2
    go_ret
    exact ⟨_, rfl, Own.nil _ _ _, Below.refl _ _⟩
  | some ad =>
    obtain ⟨i0, hi, hz0, hz1, hz2⟩ := info_parts info_n
    have A := Lib.hid hv2.news
    have hmx : l.length ≤ maxLen := by simp only [maxLen]; omega
    have hl3 : (flat l).length = l.length * 6 := flat_len l
    have h1 := flat_one l
    have HLL := Lib.hid hby
    clear hc hv2 hnil hc0
    have H3 := Lib.hid hl3
    have H1 := Lib.hid h1
    clear hl3 h1 hby
    have HF : Hid (∀ (w1 : World) (v' : Value), w1.ownsRow w.heap.size 45 6 v' l.length (flat l) → Own w1 w.heap.size 45 v' l) := fun _ _ h => h
    generalize flat l = xs at A H3 H1 HF
    go_enter Tryz.func158, Tryz.ntmps158
    go_wp2_with (at_builtin; refine wpList_append_own _ rfl _ _ 22 rfl w.heap.size 45 i0 _ 6 88 Tryz.underlying22 hi hz0 hz1 hz2 rfl (by omega) _ _ _ rfl (World.ownsRow_made w #[] 0 (Nat.le_refl _) (Nat.zero_le _) (by simp)) ad l.length c xs rfl H3.out (fun j u hj => Lib.cell?_alloc_some _ (A.out j u hj)) H1.out (by rw [Nat.zero_add]; exact hmx) (by rw [Nat.zero_add]; exact HLL.out) (by simp) ?_; intro v' w1 hown hgrow hnil)
    go_ret
    exact ⟨_, rfl, HF.out _ _ (by simpa using hown), ((Below.refl _ w).alloc (Nat.le_refl _) _).grown hgrow (by simp) (fun k hk => Nat.le_of_eq (Option.some.inj hk))⟩

end Bo
end Go.Proofs.YthbmnkeigmbbdaaGreat

/-
  TASKS OF THE CALL's OWN: slices.Clone, slices.Insert, slices.Delete.
-/
namespace Go.Proofs.YthbmnkeigmbbdaaGreat
open Go.RowKit Go.Lib Go.Sort
namespace Bo
open Rw
set_option linter.unusedVariables false
theorem info_t : (Tryz.prog.info? 42).map (fun i => (i.zero, i.size, i.bytes)) = some (some (.agg #[.string ByteArray.empty, .int .i64 0, .int .i64 0, .int .i64 0, .slice none 0 0, .slice none 0 0, .string ByteArray.empty, .string ByteArray.empty, .int .i64 0]), 9, 128) := by kernel_rfl
set_option maxHeartbeats 1000000 in
theorem clone_t (v : Value) (l : List TdM) (w : World) {A : Nat} (hv : Sl w A w.heap.size v l) (hby : l.length * 128 ≤ 140737488355328) :
    Calls Tryz.prog 160 #[v] w fun e w' => ∃ v', e = .returned v' ∧ Own w' w.heap.size 42 v' l ∧ Below w.heap.size w w' := by
  have q22 : ∀ (w : World) (a : Option Addr) (n c n' c' : Nat), (binOp .eql 23 (.slice a n c) (.slice none n' c')).run Tryz.prog w = .ok (.bool a.isNone) w := fun w a n c n' c' => Lib.run_eql_slice_nil w _ _ a n c n' c' Tryz.underlying23
  have hv2 := hv
  obtain ⟨a, c, rfl, hc0, hnil, hl, hc⟩ := hv
  cases a with
  | none =>
    have h0 : l = [] := List.eq_nil_of_length_eq_zero (by have := hnil rfl; omega)
    subst h0
    clear hc hv2 hl hnil hc0
    go_enter Tryz.func160, Tryz.ntmps160
    go_wp2
    go_ret
    exact ⟨_, rfl, Own.nil _ _ _, Below.refl _ _⟩
  | some ad =>
    obtain ⟨i0, hi, hz0, hz1, hz2⟩ := info_parts info_t
    have A := Lib.hid hv2.news
    have hmx : l.length ≤ maxLen := by simp only [maxLen]; omega
    have hl3 : (flat l).length = l.length * 9 := flat_len l
    have h1 := flat_one l
    have HLL := Lib.hid hby
    clear hc hv2 hnil hc0
    have H3 := Lib.hid hl3
    have H1 := Lib.hid h1
    clear hl3 h1 hby
    have HF : Hid (∀ (w1 : World) (v' : Value), w1.ownsRow w.heap.size 42 9 v' l.length (flat l) → Own w1 w.heap.size 42 v' l) := fun _ _ h => h
    generalize flat l = xs at A H3 H1 HF
    go_enter Tryz.func160, Tryz.ntmps160
    go_wp2_with (at_builtin; refine wpList_append_own _ rfl _ _ 23 rfl w.heap.size 42 i0 _ 9 128 Tryz.underlying23 hi hz0 hz1 hz2 rfl (by omega) _ _ _ rfl (World.ownsRow_made w #[] 0 (Nat.le_refl _) (Nat.zero_le _) (by simp)) ad l.length c xs rfl H3.out (fun j u hj => Lib.cell?_alloc_some _ (A.out j u hj)) H1.out (by rw [Nat.zero_add]; exact hmx) (by rw [Nat.zero_add]; exact HLL.out) (by simp) ?_; intro v' w1 hown hgrow hnil)
    go_ret
    exact ⟨_, rfl, HF.out _ _ (by simpa using hown), ((Below.refl _ w).alloc (Nat.le_refl _) _).grown hgrow (by simp) (fun k hk => Nat.le_of_eq (Option.some.inj hk))⟩

end Bo
end Go.Proofs.YthbmnkeigmbbdaaGreat

/-
  BINDS OF THE CALL's OWN: slices.Clone, slices.Insert, slices.Delete.
-/
namespace Go.Proofs.YthbmnkeigmbbdaaGreat
open Go.RowKit Go.Lib Go.Sort
namespace Bo
open Rw
set_option linter.unusedVariables false
theorem info_b : (Tryz.prog.info? 106).map (fun i => (i.zero, i.size, i.bytes)) = some (some (.agg #[.string ByteArray.empty, .string ByteArray.empty]), 2, 32) := by kernel_rfl
set_option maxHeartbeats 1000000 in
theorem clone_b (v : Value) (l : List Rg.Pr) (w : World) {A : Nat} (hv : Sl w A w.heap.size v l) (hby : l.length * 32 ≤ 140737488355328) :
    Calls Tryz.prog 94 #[v] w fun e w' => ∃ v', e = .returned v' ∧ Own w' w.heap.size 106 v' l ∧ Below w.heap.size w w' := by
  have q22 : ∀ (w : World) (a : Option Addr) (n c n' c' : Nat), (binOp .eql 24 (.slice a n c) (.slice none n' c')).run Tryz.prog w = .ok (.bool a.isNone) w := fun w a n c n' c' => Lib.run_eql_slice_nil w _ _ a n c n' c' Tryz.underlying24
  have hv2 := hv
  obtain ⟨a, c, rfl, hc0, hnil, hl, hc⟩ := hv
  cases a with
  | none =>
    have h0 : l = [] := List.eq_nil_of_length_eq_zero (by have := hnil rfl; omega)
    subst h0
    clear hc hv2 hl hnil hc0
    go_enter Tryz.func94, Tryz.ntmps94
    go_wp2
    go_ret
    exact ⟨_, rfl, Own.nil _ _ _, Below.refl _ _⟩
  | some ad =>
    obtain ⟨i0, hi, hz0, hz1, hz2⟩ := info_parts info_b
    have A := Lib.hid hv2.news
    have hmx : l.length ≤ maxLen := by simp only [maxLen]; omega
    have hl3 : (flat l).length = l.length * 2 := flat_len l
    have h1 := flat_one l
    have HLL := Lib.hid hby
    clear hc hv2 hnil hc0
    have H3 := Lib.hid hl3
    have H1 := Lib.hid h1
    clear hl3 h1 hby
    have HF : Hid (∀ (w1 : World) (v' : Value), w1.ownsRow w.heap.size 106 2 v' l.length (flat l) → Own w1 w.heap.size 106 v' l) := fun _ _ h => h
    generalize flat l = xs at A H3 H1 HF
    go_enter Tryz.func94, Tryz.ntmps94
    go_wp2_with (at_builtin; refine wpList_append_own _ rfl _ _ 24 rfl w.heap.size 106 i0 _ 2 32 Tryz.underlying24 hi hz0 hz1 hz2 rfl (by omega) _ _ _ rfl (World.ownsRow_made w #[] 0 (Nat.le_refl _) (Nat.zero_le _) (by simp)) ad l.length c xs rfl H3.out (fun j u hj => Lib.cell?_alloc_some _ (A.out j u hj)) H1.out (by rw [Nat.zero_add]; exact hmx) (by rw [Nat.zero_add]; exact HLL.out) (by simp) ?_; intro v' w1 hown hgrow hnil)
    go_ret
    exact ⟨_, rfl, HF.out _ _ (by simpa using hown), ((Below.refl _ w).alloc (Nat.le_refl _) _).grown hgrow (by simp) (fun k hk => Nat.le_of_eq (Option.some.inj hk))⟩

end Bo
end Go.Proofs.YthbmnkeigmbbdaaGreat
