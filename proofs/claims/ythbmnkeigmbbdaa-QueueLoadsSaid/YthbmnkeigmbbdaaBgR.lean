/-
  Merged: BoRowP, BoRowN, BoRowT, BoRowB.
-/
import Derived.Test.YthbmnkeigmbbdaaBoRowG
/-
  PAIRS OF THE CALL's OWN: slices.Clone, slices.Insert, slices.Delete.
-/
namespace Go.Proofs.Ythbmnkeigmbbdaa
open Go.RowKit Go.Lib Go.Sort
namespace Bo
open Rw
set_option linter.unusedVariables false
theorem info_p : (Try.prog.info? 51).map (fun i => (i.zero, i.size, i.bytes)) = some (some (.agg #[.string ByteArray.empty, .string ByteArray.empty]), 2, 32) := by kernel_rfl
theorem size_p : (Try.prog.info? 51).map (·.size) = some 2 := by kernel_rfl
theorem zero_p (w : World) : (zeroValue 51).run Try.prog w = .ok (.agg #[.string ByteArray.empty, .string ByteArray.empty]) w := by
  obtain ⟨i0, hi0, hz0, hz1, hz2⟩ := info_parts info_p
  simp [zeroValue, typeInfo, hi0, hz0]
theorem fl_p (l : List Rg.Pr) : (flat l).length = l.length * 2 := flat_len l

set_option maxHeartbeats 1000000 in
theorem clone_p (v : Value) (l : List Rg.Pr) (w : World) {A : Nat} (hv : Sl w A w.heap.size v l) (hby : l.length * 32 ≤ 140737488355328) :
    Calls Try.prog 103 #[v] w fun e w' => ∃ v', e = .returned v' ∧ Own w' w.heap.size 51 v' l ∧ Below w.heap.size w w' := by
  have q22 : ∀ (w : World) (a : Option Addr) (n c n' c' : Nat), (binOp .eql 34 (.slice a n c) (.slice none n' c')).run Try.prog w = .ok (.bool a.isNone) w := fun w a n c n' c' => Lib.run_eql_slice_nil w _ _ a n c n' c' Try.underlying34
  have hv2 := hv
  obtain ⟨a, c, rfl, hc0, hnil, hl, hc⟩ := hv
  cases a with
  | none =>
    have h0 : l = [] := List.eq_nil_of_length_eq_zero (by have := hnil rfl; omega)
    subst h0
    clear hc hv2 hl hnil hc0
    go_enter Try.func103, Try.ntmps103
    go_wp2
    go_ret
    exact ⟨_, rfl, Own.nil _ _ _, Below.refl _ _⟩
  | some ad =>
    obtain ⟨i0, hi, hz0, hz1, hz2⟩ := info_parts info_p
    have A := Lib.hid hv2.news
    have hmx : l.length ≤ maxLen := by simp only [maxLen]; omega
    have hl3 : (flat l).length = l.length * 2 := flat_len l
    have h1 := flat_one l
    have HLL := Lib.hid hby
    clear hc hv2 hnil hc0
    have H3 := Lib.hid hl3
    have H1 := Lib.hid h1
    clear hl3 h1 hby
    have HF : Hid (∀ (w1 : World) (v' : Value), w1.ownsRow w.heap.size 51 2 v' l.length (flat l) → Own w1 w.heap.size 51 v' l) := fun _ _ h => h
    generalize flat l = xs at A H3 H1 HF
    go_enter Try.func103, Try.ntmps103
    go_wp2_with (at_builtin; refine wpList_append_own _ rfl _ _ 34 rfl w.heap.size 51 i0 _ 2 32 Try.underlying34 hi hz0 hz1 hz2 rfl (by omega) _ _ _ rfl (World.ownsRow_made w #[] 0 (Nat.le_refl _) (Nat.zero_le _) (by simp)) ad l.length c xs rfl H3.out (fun j u hj => Lib.cell?_alloc_some _ (A.out j u hj)) H1.out (by rw [Nat.zero_add]; exact hmx) (by rw [Nat.zero_add]; exact HLL.out) (by simp) ?_; intro v' w1 hown hgrow hnil)
    go_ret
    exact ⟨_, rfl, HF.out _ _ (by simpa using hown), ((Below.refl _ w).alloc (Nat.le_refl _) _).grown hgrow (by simp) (fun k hk => Nat.le_of_eq (Option.some.inj hk))⟩
end Bo
end Go.Proofs.Ythbmnkeigmbbdaa

/-
  NODES OF THE CALL's OWN: slices.Clone, slices.Insert, slices.Delete.
-/
namespace Go.Proofs.Ythbmnkeigmbbdaa
open Go.RowKit Go.Lib Go.Sort
namespace Bo
open Rw
set_option linter.unusedVariables false
theorem info_n : (Try.prog.info? 44).map (fun i => (i.zero, i.size, i.bytes)) = some (some (.agg #[.string ByteArray.empty, .int .i64 0, .int .i64 0, .int .i64 0, .slice none 0 0, .slice none 0 0]), 6, 88) := by kernel_rfl
theorem size_n : (Try.prog.info? 44).map (·.size) = some 6 := by kernel_rfl
theorem zero_n (w : World) : (zeroValue 44).run Try.prog w = .ok (.agg #[.string ByteArray.empty, .int .i64 0, .int .i64 0, .int .i64 0, .slice none 0 0, .slice none 0 0]) w := by
  obtain ⟨i0, hi0, hz0, hz1, hz2⟩ := info_parts info_n
  simp [zeroValue, typeInfo, hi0, hz0]
theorem fl_n (l : List NdM) : (flat l).length = l.length * 6 := flat_len l

set_option maxHeartbeats 1000000 in
theorem clone_n (v : Value) (l : List NdM) (w : World) {A : Nat} (hv : Sl w A w.heap.size v l) (hby : l.length * 88 ≤ 140737488355328) :
    Calls Try.prog 102 #[v] w fun e w' => ∃ v', e = .returned v' ∧ Own w' w.heap.size 44 v' l ∧ Below w.heap.size w w' := by
  have q22 : ∀ (w : World) (a : Option Addr) (n c n' c' : Nat), (binOp .eql 22 (.slice a n c) (.slice none n' c')).run Try.prog w = .ok (.bool a.isNone) w := fun w a n c n' c' => Lib.run_eql_slice_nil w _ _ a n c n' c' Try.underlying22
  have hv2 := hv
  obtain ⟨a, c, rfl, hc0, hnil, hl, hc⟩ := hv
  cases a with
  | none =>
    have h0 : l = [] := List.eq_nil_of_length_eq_zero (by have := hnil rfl; omega)
    subst h0
    clear hc hv2 hl hnil hc0
    go_enter Try.func102, Try.ntmps102
    go_wp2
    go_ret
    exact ⟨_, rfl, Own.nil _ _ _, Below.refl _ _⟩
  | some ad =>
    obtain ⟨i0, hi, hz0, hz1, hz2⟩ := info_parts info_n
    have A := Lib.hid hv2.news
    have hmx : l.length ≤ maxLen := by simp only [maxLen]; omega
    have hl3 : (flat l).length = l.length * 6 := flat_len l
    have h1 := flat_one l
    have HLL := Lib.hid hby
    clear hc hv2 hnil hc0
    have H3 := Lib.hid hl3
    have H1 := Lib.hid h1
    clear hl3 h1 hby
    have HF : Hid (∀ (w1 : World) (v' : Value), w1.ownsRow w.heap.size 44 6 v' l.length (flat l) → Own w1 w.heap.size 44 v' l) := fun _ _ h => h
    generalize flat l = xs at A H3 H1 HF
    go_enter Try.func102, Try.ntmps102
    go_wp2_with (at_builtin; refine wpList_append_own _ rfl _ _ 22 rfl w.heap.size 44 i0 _ 6 88 Try.underlying22 hi hz0 hz1 hz2 rfl (by omega) _ _ _ rfl (World.ownsRow_made w #[] 0 (Nat.le_refl _) (Nat.zero_le _) (by simp)) ad l.length c xs rfl H3.out (fun j u hj => Lib.cell?_alloc_some _ (A.out j u hj)) H1.out (by rw [Nat.zero_add]; exact hmx) (by rw [Nat.zero_add]; exact HLL.out) (by simp) ?_; intro v' w1 hown hgrow hnil)
    go_ret
    exact ⟨_, rfl, HF.out _ _ (by simpa using hown), ((Below.refl _ w).alloc (Nat.le_refl _) _).grown hgrow (by simp) (fun k hk => Nat.le_of_eq (Option.some.inj hk))⟩

theorem zlen_n (k : Nat) : (Builtin.zeroCells (Value.agg #[.string ByteArray.empty, .int .i64 0, .int .i64 0, .int .i64 0, .slice none 0 0, .slice none 0 0]).cells k).size = k * 6 := by simp [Builtin.zeroCells, Value.cells]
end Bo
end Go.Proofs.Ythbmnkeigmbbdaa

/-
  TASKS OF THE CALL's OWN: slices.Clone, slices.Insert, slices.Delete.
-/
namespace Go.Proofs.Ythbmnkeigmbbdaa
open Go.RowKit Go.Lib Go.Sort
namespace Bo
open Rw
set_option linter.unusedVariables false
theorem info_t : (Try.prog.info? 36).map (fun i => (i.zero, i.size, i.bytes)) = some (some (.agg #[.string ByteArray.empty, .int .i64 0, .int .i64 0, .int .i64 0, .slice none 0 0, .slice none 0 0, .string ByteArray.empty, .string ByteArray.empty, .int .i64 0]), 9, 128) := by kernel_rfl
theorem size_t : (Try.prog.info? 36).map (·.size) = some 9 := by kernel_rfl
theorem zero_t (w : World) : (zeroValue 36).run Try.prog w = .ok (.agg #[.string ByteArray.empty, .int .i64 0, .int .i64 0, .int .i64 0, .slice none 0 0, .slice none 0 0, .string ByteArray.empty, .string ByteArray.empty, .int .i64 0]) w := by
  obtain ⟨i0, hi0, hz0, hz1, hz2⟩ := info_parts info_t
  simp [zeroValue, typeInfo, hi0, hz0]
theorem fl_t (l : List TdM) : (flat l).length = l.length * 9 := flat_len l

set_option maxHeartbeats 1000000 in
theorem clone_t (v : Value) (l : List TdM) (w : World) {A : Nat} (hv : Sl w A w.heap.size v l) (hby : l.length * 128 ≤ 140737488355328) :
    Calls Try.prog 104 #[v] w fun e w' => ∃ v', e = .returned v' ∧ Own w' w.heap.size 36 v' l ∧ Below w.heap.size w w' := by
  have q22 : ∀ (w : World) (a : Option Addr) (n c n' c' : Nat), (binOp .eql 23 (.slice a n c) (.slice none n' c')).run Try.prog w = .ok (.bool a.isNone) w := fun w a n c n' c' => Lib.run_eql_slice_nil w _ _ a n c n' c' Try.underlying23
  have hv2 := hv
  obtain ⟨a, c, rfl, hc0, hnil, hl, hc⟩ := hv
  cases a with
  | none =>
    have h0 : l = [] := List.eq_nil_of_length_eq_zero (by have := hnil rfl; omega)
    subst h0
    clear hc hv2 hl hnil hc0
    go_enter Try.func104, Try.ntmps104
    go_wp2
    go_ret
    exact ⟨_, rfl, Own.nil _ _ _, Below.refl _ _⟩
  | some ad =>
    obtain ⟨i0, hi, hz0, hz1, hz2⟩ := info_parts info_t
    have A := Lib.hid hv2.news
    have hmx : l.length ≤ maxLen := by simp only [maxLen]; omega
    have hl3 : (flat l).length = l.length * 9 := flat_len l
    have h1 := flat_one l
    have HLL := Lib.hid hby
    clear hc hv2 hnil hc0
    have H3 := Lib.hid hl3
    have H1 := Lib.hid h1
    clear hl3 h1 hby
    have HF : Hid (∀ (w1 : World) (v' : Value), w1.ownsRow w.heap.size 36 9 v' l.length (flat l) → Own w1 w.heap.size 36 v' l) := fun _ _ h => h
    generalize flat l = xs at A H3 H1 HF
    go_enter Try.func104, Try.ntmps104
    go_wp2_with (at_builtin; refine wpList_append_own _ rfl _ _ 23 rfl w.heap.size 36 i0 _ 9 128 Try.underlying23 hi hz0 hz1 hz2 rfl (by omega) _ _ _ rfl (World.ownsRow_made w #[] 0 (Nat.le_refl _) (Nat.zero_le _) (by simp)) ad l.length c xs rfl H3.out (fun j u hj => Lib.cell?_alloc_some _ (A.out j u hj)) H1.out (by rw [Nat.zero_add]; exact hmx) (by rw [Nat.zero_add]; exact HLL.out) (by simp) ?_; intro v' w1 hown hgrow hnil)
    go_ret
    exact ⟨_, rfl, HF.out _ _ (by simpa using hown), ((Below.refl _ w).alloc (Nat.le_refl _) _).grown hgrow (by simp) (fun k hk => Nat.le_of_eq (Option.some.inj hk))⟩

theorem zlen_t (k : Nat) : (Builtin.zeroCells (Value.agg #[.string ByteArray.empty, .int .i64 0, .int .i64 0, .int .i64 0, .slice none 0 0, .slice none 0 0, .string ByteArray.empty, .string ByteArray.empty, .int .i64 0]).cells k).size = k * 9 := by simp [Builtin.zeroCells, Value.cells]
end Bo
end Go.Proofs.Ythbmnkeigmbbdaa

/-
  BINDS OF THE CALL's OWN: slices.Clone, slices.Insert, slices.Delete.
-/
namespace Go.Proofs.Ythbmnkeigmbbdaa
open Go.RowKit Go.Lib Go.Sort
namespace Bo
open Rw
set_option linter.unusedVariables false
theorem info_b : (Try.prog.info? 38).map (fun i => (i.zero, i.size, i.bytes)) = some (some (.agg #[.string ByteArray.empty, .string ByteArray.empty]), 2, 32) := by kernel_rfl
theorem size_b : (Try.prog.info? 38).map (·.size) = some 2 := by kernel_rfl
theorem zero_b (w : World) : (zeroValue 38).run Try.prog w = .ok (.agg #[.string ByteArray.empty, .string ByteArray.empty]) w := by
  obtain ⟨i0, hi0, hz0, hz1, hz2⟩ := info_parts info_b
  simp [zeroValue, typeInfo, hi0, hz0]
theorem fl_b (l : List Rg.Pr) : (flat l).length = l.length * 2 := flat_len l

set_option maxHeartbeats 1000000 in
theorem clone_b (v : Value) (l : List Rg.Pr) (w : World) {A : Nat} (hv : Sl w A w.heap.size v l) (hby : l.length * 32 ≤ 140737488355328) :
    Calls Try.prog 93 #[v] w fun e w' => ∃ v', e = .returned v' ∧ Own w' w.heap.size 38 v' l ∧ Below w.heap.size w w' := by
  have q22 : ∀ (w : World) (a : Option Addr) (n c n' c' : Nat), (binOp .eql 24 (.slice a n c) (.slice none n' c')).run Try.prog w = .ok (.bool a.isNone) w := fun w a n c n' c' => Lib.run_eql_slice_nil w _ _ a n c n' c' Try.underlying24
  have hv2 := hv
  obtain ⟨a, c, rfl, hc0, hnil, hl, hc⟩ := hv
  cases a with
  | none =>
    have h0 : l = [] := List.eq_nil_of_length_eq_zero (by have := hnil rfl; omega)
    subst h0
    clear hc hv2 hl hnil hc0
    go_enter Try.func93, Try.ntmps93
    go_wp2
    go_ret
    exact ⟨_, rfl, Own.nil _ _ _, Below.refl _ _⟩
  | some ad =>
    obtain ⟨i0, hi, hz0, hz1, hz2⟩ := info_parts info_b
    have A := Lib.hid hv2.news
    have hmx : l.length ≤ maxLen := by simp only [maxLen]; omega
    have hl3 : (flat l).length = l.length * 2 := flat_len l
    have h1 := flat_one l
    have HLL := Lib.hid hby
    clear hc hv2 hnil hc0
    have H3 := Lib.hid hl3
    have H1 := Lib.hid h1
    clear hl3 h1 hby
    have HF : Hid (∀ (w1 : World) (v' : Value), w1.ownsRow w.heap.size 38 2 v' l.length (flat l) → Own w1 w.heap.size 38 v' l) := fun _ _ h => h
    generalize flat l = xs at A H3 H1 HF
    go_enter Try.func93, Try.ntmps93
    go_wp2_with (at_builtin; refine wpList_append_own _ rfl _ _ 24 rfl w.heap.size 38 i0 _ 2 32 Try.underlying24 hi hz0 hz1 hz2 rfl (by omega) _ _ _ rfl (World.ownsRow_made w #[] 0 (Nat.le_refl _) (Nat.zero_le _) (by simp)) ad l.length c xs rfl H3.out (fun j u hj => Lib.cell?_alloc_some _ (A.out j u hj)) H1.out (by rw [Nat.zero_add]; exact hmx) (by rw [Nat.zero_add]; exact HLL.out) (by simp) ?_; intro v' w1 hown hgrow hnil)
    go_ret
    exact ⟨_, rfl, HF.out _ _ (by simpa using hown), ((Below.refl _ w).alloc (Nat.le_refl _) _).grown hgrow (by simp) (fun k hk => Nat.le_of_eq (Option.some.inj hk))⟩

theorem zlen_b (k : Nat) : (Builtin.zeroCells (Value.agg #[.string ByteArray.empty, .string ByteArray.empty]).cells k).size = k * 2 := by simp [Builtin.zeroCells, Value.cells]
end Bo
end Go.Proofs.Ythbmnkeigmbbdaa
