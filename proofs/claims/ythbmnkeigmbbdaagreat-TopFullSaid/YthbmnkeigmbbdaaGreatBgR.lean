/-
  Merged: BoRowP, BoRowN, BoRowT, BoRowB.
-/
import Derived.Test.YthbmnkeigmbbdaaGreatBoRowG
/-
  PAIRS OF THE CALL's OWN: slices.Clone, slices.Insert, slices.Delete.
-/
namespace Go.Proofs.YthbmnkeigmbbdaaGreat
open Go.RowKit Go.Lib Go.Sort
namespace Bo
open Rw
set_option linter.unusedVariables false
theorem info_p : (Tryz.prog.info? 89).map (fun i => (i.zero, i.size, i.bytes)) = some (some (.agg #[.string ByteArray.empty, .string ByteArray.empty]), 2, 32) := by kernel_rfl
set_option maxHeartbeats 1000000 in
theorem clone_p (v : Value) (l : List Rg.Pr) (w : World) {A : Nat} (hv : Sl w A w.heap.size v l) (hby : l.length * 32 ≤ 140737488355328) :
    Calls Tryz.prog 159 #[v] w fun e w' => ∃ v', e = .returned v' ∧ Own w' w.heap.size 89 v' l ∧ Below w.heap.size w w' := by
  have q22 : ∀ (w : World) (a : Option Addr) (n c n' c' : Nat), (binOp .eql 40 (.slice a n c) (.slice none n' c')).run Tryz.prog w = .ok (.bool a.isNone) w := fun w a n c n' c' => Lib.run_eql_slice_nil w _ _ a n c n' c' Tryz.underlying40
  have hv2 := hv
  obtain ⟨a, c, rfl, hc0, hnil, hl, hc⟩ := hv
  cases a with
  | none =>
    have h0 : l = [] := List.eq_nil_of_length_eq_zero (by have := hnil rfl; omega)
    subst h0
    clear hc hv2 hl hnil hc0
    go_enter Tryz.func159, Tryz.ntmps159
    go_wp2
    go_ret
    exact ⟨_, rfl, Own.nil _ _ _, Below.refl _ _⟩
  | some ad =>
    obtain ⟨i0, hi, hz0, hz1, hz2⟩ := info_parts info_p
    have A := Lib.hid hv2.news
    have hmx : l.length ≤ maxLen := by simp only [maxLen]; omega
    have hl3 : (flat l).length = l.length * 2 := flat_len l
    have h1 := flat_one l
    have HLL := Lib.hid hby
    clear hc hv2 hnil hc0
    have H3 := Lib.hid hl3
    have H1 := Lib.hid h1
    clear hl3 h1 hby
    have HF : Hid (∀ (w1 : World) (v' : Value), w1.ownsRow w.heap.size 89 2 v' l.length (flat l) → Own w1 w.heap.size 89 v' l) := fun _ _ h => h
    generalize flat l = xs at A H3 H1 HF
    go_enter Tryz.func159, Tryz.ntmps159
    go_wp2_with (at_builtin; refine wpList_append_own _ rfl _ _ 40 rfl w.heap.size 89 i0 _ 2 32 Tryz.underlying40 hi hz0 hz1 hz2 rfl (by omega) _ _ _ rfl (World.ownsRow_made w #[] 0 (Nat.le_refl _) (Nat.zero_le _) (by simp)) ad l.length c xs rfl H3.out (fun j u hj => Lib.cell?_alloc_some _ (A.out j u hj)) H1.out (by rw [Nat.zero_add]; exact hmx) (by rw [Nat.zero_add]; exact HLL.out) (by simp) ?_; intro v' w1 hown hgrow hnil)
    go_ret
    exact ⟨_, rfl, HF.out _ _ (by simpa using hown), ((Below.refl _ w).alloc (Nat.le_refl _) _).grown hgrow (by simp) (fun k hk => Nat.le_of_eq (Option.some.inj hk))⟩
end Bo
end Go.Proofs.YthbmnkeigmbbdaaGreat

/-
  NODES OF THE CALL's OWN: slices.Clone, slices.Insert, slices.Delete.
-/
namespace Go.Proofs.YthbmnkeigmbbdaaGreat
open Go.RowKit Go.Lib Go.Sort
namespace Bo
open Rw
set_option linter.unusedVariables false
theorem info_n : (Tryz.prog.info? 45).map (fun i => (i.zero, i.size, i.bytes)) = some (some (.agg #[.string ByteArray.empty, .int .i64 0, .int .i64 0, .int .i64 0, .slice none 0 0, .slice none 0 0]), 6, 88) := by kernel_rfl
theorem size_n : (Tryz.prog.info? 45).map (·.size) = some 6 := by kernel_rfl
theorem zero_n (w : World) : (zeroValue 45).run Tryz.prog w = .ok (.agg #[.string ByteArray.empty, .int .i64 0, .int .i64 0, .int .i64 0, .slice none 0 0, .slice none 0 0]) w := by
  obtain ⟨i0, hi0, hz0, hz1, hz2⟩ := info_parts info_n
  simp [zeroValue, typeInfo, hi0, hz0]
theorem fl_n (l : List NdM) : (flat l).length = l.length * 6 := flat_len l

set_option maxHeartbeats 1000000 in
theorem clone_n (v : Value) (l : List NdM) (w : World) {A : Nat} (hv : Sl w A w.heap.size v l) (hby : l.length * 88 ≤ 140737488355328) :
    Calls Tryz.prog 158 #[v] w fun e w' => ∃ v', e = .returned v' ∧ Own w' w.heap.size 45 v' l ∧ Below w.heap.size w w' := by
  have q22 : ∀ (w : World) (a : Option Addr) (n c n' c' : Nat), (binOp .eql 22 (.slice a n c) (.slice none n' c')).run Tryz.prog w = .ok (.bool a.isNone) w := fun w a n c n' c' => Lib.run_eql_slice_nil w _ _ a n c n' c' Tryz.underlying22
  have hv2 := hv
  obtain ⟨a, c, rfl, hc0, hnil, hl, hc⟩ := hv
  cases a with
  | none =>
    have h0 : l = [] := List.eq_nil_of_length_eq_zero (by have := hnil rfl; omega)
    subst h0
    clear hc hv2 hl hnil hc0
    go_enter Tryz.func158, Tryz.ntmps158
    go_wp2
    go_ret
    exact ⟨_, rfl, Own.nil _ _ _, Below.refl _ _⟩
  | some ad =>
    obtain ⟨i0, hi, hz0, hz1, hz2⟩ := info_parts info_n
    have A := Lib.hid hv2.news
    have hmx : l.length ≤ maxLen := by simp only [maxLen]; omega
    have hl3 : (flat l).length = l.length * 6 := flat_len l
    have h1 := flat_one l
    have HLL := Lib.hid hby
    clear hc hv2 hnil hc0
    have H3 := Lib.hid hl3
    have H1 := Lib.hid h1
    clear hl3 h1 hby
    have HF : Hid (∀ (w1 : World) (v' : Value), w1.ownsRow w.heap.size 45 6 v' l.length (flat l) → Own w1 w.heap.size 45 v' l) := fun _ _ h => h
    generalize flat l = xs at A H3 H1 HF
    go_enter Tryz.func158, Tryz.ntmps158
    go_wp2_with (at_builtin; refine wpList_append_own _ rfl _ _ 22 rfl w.heap.size 45 i0 _ 6 88 Tryz.underlying22 hi hz0 hz1 hz2 rfl (by omega) _ _ _ rfl (World.ownsRow_made w #[] 0 (Nat.le_refl _) (Nat.zero_le _) (by simp)) ad l.length c xs rfl H3.out (fun j u hj => Lib.cell?_alloc_some _ (A.out j u hj)) H1.out (by rw [Nat.zero_add]; exact hmx) (by rw [Nat.zero_add]; exact HLL.out) (by simp) ?_; intro v' w1 hown hgrow hnil)
    go_ret
    exact ⟨_, rfl, HF.out _ _ (by simpa using hown), ((Below.refl _ w).alloc (Nat.le_refl _) _).grown hgrow (by simp) (fun k hk => Nat.le_of_eq (Option.some.inj hk))⟩

theorem zlen_n (k : Nat) : (Builtin.zeroCells (Value.agg #[.string ByteArray.empty, .int .i64 0, .int .i64 0, .int .i64 0, .slice none 0 0, .slice none 0 0]).cells k).size = k * 6 := by simp [Builtin.zeroCells, Value.cells]
set_option maxRecDepth 100000 in
set_option maxHeartbeats 2000000 in
theorem insert_end_n (v : Value) (fs : List NdM) (f : NdM) (g2 : Nat) (base : Nat) (w : World) (hbs : base ≤ w.heap.size) (ho : Own w base 45 v fs) (h4 : fs.length ≤ 4096)
    (hg : ∀ j u, (ndE f)[j]? = some u → w.cell? ⟨g2, j, none⟩ = some u) :
    Calls Tryz.prog 201 #[v, .int .i64 fs.length, .slice (some ⟨g2, 0, none⟩) 1 1] w fun e w' => ∃ v', e = .returned v' ∧ Own w' base 45 v' (fs ++ [f]) ∧ w.grownBy w' v.ownBlock := by
  have HG : Hid (∀ j u, (ndE f)[j]? = some u → w.cell? ((⟨g2, 0, none⟩ : Addr).add j) = some u) := by
    intro j u hu
    rw [Addr.add_lit, Nat.zero_add]
    exact hg j u hu
  have HL : Hid ((ndE f).length = 1 * 6) := rfl
  have H1 := Lib.hid (ndE_one f)
  obtain ⟨i0, hi, hz0, hz1, hz2⟩ := info_parts info_n
  have HE : Hid (∀ w' v', w'.ownsRow base 45 6 v' (fs.length + 1) (flat fs ++ ndE f) → Own w' base 45 v' (fs ++ [f])) := fun w' v' h => Own.snoc h
  have hmx : fs.length + 1 ≤ maxLen := by simp only [maxLen]; omega
  have HM := Lib.hid hmx
  have HO := Lib.hid ho
  clear hg hmx
  rcases ho.forms with ⟨rfl, rfl⟩ | ⟨g, cap, rfl, hbg, hgl, hcap, hcm⟩
  · clear ho
    generalize ndE f = ef at *
    go_enter Tryz.func201, Tryz.ntmps201
    go_wp2_with (at_builtin; refine wpList_append_own _ rfl _ _ 22 rfl base 45 i0 _ 6 88 Tryz.underlying22 hi hz0 hz1 hz2 rfl (by omega) (.slice none 0 0) 0 [] rfl (World.ownsRow_nil _ _ _ _) ⟨g2, 0, none⟩ 1 1 ef rfl HL.out HG.out H1.out (by simp [maxLen]) (by omega) hbs ?_; intro v' w1 hown hgrow hnil)
    go_ret
    exact ⟨v', rfl, HE.out _ _ (by simpa [flat] using hown), hgrow⟩
  · generalize hx : flat fs = xs at *
    have hox : w.ownsRow base 45 6 (.slice (some ⟨g, 0, none⟩) fs.length cap) fs.length xs := by rw [← hx]; exact ho
    have HOX := Lib.hid hox
    clear ho hox hx HO
    generalize ndE f = ef at *
    have t1 : (fs.length : Int) ≤ (cap : Int) := by omega
    go_enter Tryz.func201, Tryz.ntmps201
    go_wp2_with (at_builtin; refine wpList_append_own _ rfl _ _ 22 rfl base 45 i0 _ 6 88 Tryz.underlying22 hi hz0 hz1 hz2 rfl (by omega) (.slice (some ⟨g, 0, none⟩) fs.length cap) fs.length xs rfl HOX.out ⟨g2, 0, none⟩ 1 1 ef rfl HL.out HG.out H1.out HM.out (by omega) hbs ?_; intro v' w1 hown hgrow hnil)
    all_goals go_ret
    all_goals exact ⟨v', rfl, HE.out _ _ hown, hgrow⟩
set_option maxRecDepth 100000 in
set_option maxHeartbeats 4000000 in
theorem insert_room_n (g cap i g2 : Nat) (cur : List Value) (fs : List NdM) (f : NdM) (w : World) (hi : i < fs.length) (hg : w.heap[g]? = some (.cells cur.toArray 45 (0, 0))) (hcl : cur.length = cap * 6) (hL : cur.take (fs.length * 6) = flat fs)
    (hroom : fs.length + 1 ≤ cap) (hcm : cap ≤ maxLen) (hne : g2 ≠ g) (hg2 : w.heap[g2]? = some (.cells (ndE f).toArray 45 (0, 0))) :
    Calls Tryz.prog 201 #[.slice (some ⟨g, 0, none⟩) fs.length cap, .int .i64 i, .slice (some ⟨g2, 0, none⟩) 1 1] w fun e w' =>
      e = .returned (.slice (some ⟨g, 0, none⟩) (fs.length + 1) cap) ∧ w' = (w.drew.setRow g (splice cur ((i + 1) * 6) (flat (fs.drop i))).toArray).setRow g (splice (splice cur ((i + 1) * 6) (flat (fs.drop i))) (i * 6) (ndE f)).toArray := by
  have hov : ∀ off lb cb, (callFunc 216 #[.slice (some ⟨g2, 0, none⟩) 1 1, .slice (some ⟨g, off, none⟩) lb cb]).run Tryz.prog w = .ok (.value (.bool false)) w := fun off lb cb => by
    rw [run_callFunc_extern Tryz.func216 (by kernel_rfl) (by kernel_rfl) (by kernel_rfl) (e := Extern.SlicesOverlaps.overlaps #[22, 22] #[4]) (by kernel_rfl),
      Lib.run_overlaps_apart w 22 4 45 Tryz.underlying22 6 Tryz.sizeOf45 ⟨g2, 0, none⟩ ⟨g, off, none⟩ 1 1 lb cb hne 45 45 6 cur.length (by simp [World.shape?, hg2, ndE]) (by simp [World.shape?, hg]) (by omega) (by simp [World.frozen?, hg2]) (by simp [World.frozen?, hg2])]
    rfl
  have hdl : (flat (fs.drop i)).length = (fs.length - i) * 6 := by rw [fl_n, List.length_drop]
  have hcp1 : (Builtin.copy_ #[22, 22] 3 #[.slice (some ⟨g, (i + 1) * 6, none⟩) (fs.length + 1 - (i + 1)) (cap - (i + 1)), .slice (some ⟨g, i * 6, none⟩) (fs.length + 1 - i) (cap - i)]).run Tryz.prog w.drew = .ok (goInt (Nat.min (fs.length + 1 - i) (fs.length + 1 - (i + 1)) : Nat)) (w.drew.setRow g (splice cur ((i + 1) * 6) (flat (fs.drop i))).toArray) :=
    run_copyK 6 w.drew _ _ _ 45 g ((i + 1) * 6) _ _ ⟨g, i * 6, none⟩ _ _ cur 45 (flat (fs.drop i)) Tryz.underlying22 size_n hg (by rw [hdl]; congr 1; simp only [Nat.min_def]; split <;> omega)
      (fun j v hj => by
        rw [Addr.add_lit]
        show w.cell? _ = _
        rw [cell_of_row w g (i * 6 + j) cur.toArray _ (0, 0) hg]
        have e : (flat fs).drop (i * 6) = flat (fs.drop i) := flat_drop fs i
        rw [← e, List.getElem?_drop] at hj
        have hjl := (List.getElem?_eq_some_iff.1 hj).1
        rw [fl_n] at hjl
        rw [← hL, List.getElem?_take, if_pos hjl] at hj
        simpa using hj) (by rw [hdl, hcl]; omega) (flat_one _)
  have hW1 : (w.drew.setRow g (splice cur ((i + 1) * 6) (flat (fs.drop i))).toArray).heap[g]? = some (.cells (splice cur ((i + 1) * 6) (flat (fs.drop i))).toArray 45 (0, 0)) := setRow_heap w.drew g cur.toArray _ _ _ hg
  have hW2 : (w.drew.setRow g (splice cur ((i + 1) * 6) (flat (fs.drop i))).toArray).heap[g2]? = some (.cells (ndE f).toArray 45 (0, 0)) := (setRow_other w.drew g g2 _ hne).trans hg2
  have hsl : (splice cur ((i + 1) * 6) (flat (fs.drop i))).length = cap * 6 := by rw [length_splice _ _ _ (by rw [hdl, hcl]; omega), hcl]
  have hel : (ndE f).length = 1 * 6 := rfl
  generalize splice cur ((i + 1) * 6) (flat (fs.drop i)) = L1 at *
  have hcp2 : (Builtin.copy_ #[22, 22] 3 #[.slice (some ⟨g, i * 6, none⟩) (fs.length + 1 - i) (cap - i), .slice (some ⟨g2, 0, none⟩) 1 1]).run Tryz.prog (w.drew.setRow g L1.toArray) = .ok (goInt (Nat.min 1 (fs.length + 1 - i) : Nat)) ((w.drew.setRow g L1.toArray).setRow g (splice L1 (i * 6) (ndE f)).toArray) :=
    run_copyK 6 _ _ _ _ 45 g (i * 6) _ _ ⟨g2, 0, none⟩ _ _ L1 45 (ndE f) Tryz.underlying22 size_n hW1 (by rw [hel]; congr 1; simp only [Nat.min_def]; split <;> omega)
      (fun j v hj => by
        rw [Addr.add_lit, Nat.zero_add]
        rw [cell_of_row _ g2 j _ _ (0, 0) hW2]
        simpa using hj) (by rw [hel, hsl]; omega) (ndE_one f)
  have hcm' : cap ≤ 9223372036854775807 := by simpa [maxLen] using hcm
  have hz2 : ¬ ((i : Int) = (fs.length : Int)) := by omega
  have hw1 : IntKind.i64.wrap ((i : Int) + 1) = (i : Int) + 1 := by rw [IntKind.wrap_i64]; omega
  have hw2 : IntKind.i64.wrap ((fs.length : Int) + 1) = (fs.length : Int) + 1 := by rw [IntKind.wrap_i64]; omega
  have hb1 : (0 : Int) ≤ (i : Int) + 1 := by omega
  have hb2 : ¬ (cap = i + 1) := by omega
  have hb3 : (i : Int) ≤ (fs.length : Int) + 1 := by omega
  have hb4 : ¬ (cap = i) := by omega
  have hb5 : ¬ ((cap : Int) < (fs.length : Int) + 1) := by omega
  have hb6 : (fs.length : Int) + 1 ≤ (cap : Int) := by omega
  have hb7 : (i : Int) ≤ (fs.length : Int) := by omega
  have hb8 : i ≤ fs.length := by omega
  have hb9 : decide ((cap : Int) < (fs.length : Int) + 1) = false := by simp; omega
  have hb10 : (i : Int) + 1 ≤ (fs.length : Int) + 1 := by omega
  have htn : ((i : Int) + 1).toNat = i + 1 := by omega
  have htn2 : ((fs.length : Int) + 1).toNat = fs.length + 1 := by omega
  generalize ndE f = ef at *
  go_enter Tryz.func201, Tryz.ntmps201
  go_wp2_with (simp only [hov])
  have HC2 := Lib.hid hcp2
  have HC1 := Lib.hid hcp1
  clear hcp1 hcp2 hL hg hg2 hov hW1 hW2 hel hdl hsl hcl
  go_region_law (refine step_copy_runI rfl _ _ 22 22 rfl (.slice (some ⟨g, (i + 1) * 6, none⟩) (fs.length + 1 - (i + 1)) (cap - (i + 1))) (.slice (some ⟨g, i * 6, none⟩) (fs.length + 1 - i) (cap - i)) (by simp [Act.eval, Act.put]) (by simp [Act.eval, Act.put]) HC1.out ?_)
  all_goals have hcp3 := HC2.out
  all_goals go_wp2
  all_goals go_ret
  all_goals exact ⟨rfl, rfl⟩
set_option maxRecDepth 100000 in
set_option maxHeartbeats 4000000 in
theorem insert_grow_n (g cap i g2 : Nat) (cur : List Value) (fs : List NdM) (f : NdM) (w : World) (hi : i < fs.length) (h4 : fs.length ≤ 4096) (hg : w.heap[g]? = some (.cells cur.toArray 45 (0, 0))) (hL : cur.take (fs.length * 6) = flat fs)
    (hnc : fs.length ≤ cap) (hroom : ¬ (fs.length + 1 ≤ cap)) (hg2 : w.heap[g2]? = some (.cells (ndE f).toArray 45 (0, 0))) :
    Calls Tryz.prog 201 #[.slice (some ⟨g, 0, none⟩) fs.length cap, .int .i64 i, .slice (some ⟨g2, 0, none⟩) 1 1] w fun e w' =>
      ∃ v', e = .returned v' ∧ Own w' w.heap.size 45 v' (insR fs i f) ∧ w.grownBy w' none := by
  obtain ⟨i0, hi0, hz0, hz1, hz2⟩ := info_parts info_n
  have hgw : g < w.heap.size := (Array.getElem?_eq_some_iff.1 hg).1
  have hg2w : g2 < w.heap.size := (Array.getElem?_eq_some_iff.1 hg2).1
  have hel : (ndE f).length = 1 * 6 := rfl
  have ht : (flat (fs.take i)).length = i * 6 := by rw [fl_n, List.length_take]; congr 1; omega
  have hold : (Builtin.firstCells i0.size i (.slice (some ⟨g, 0, none⟩) i cap)).run Tryz.prog w.drew = .ok (flat (fs.take i)).toArray w.drew := by
    rw [hz1]
    refine run_firstCells_some w.drew 6 i ⟨g, 0, none⟩ i cap (flat (fs.take i)) ht (fun j v hj => ?_)
    rw [Addr.add_lit, Nat.zero_add]
    show w.cell? _ = _
    rw [cell_of_row w g j cur.toArray _ (0, 0) hg]
    have e : (flat fs).take (i * 6) = flat (fs.take i) := flat_take fs i
    rw [← e, List.getElem?_take] at hj
    split at hj
    · have hjl := (List.getElem?_eq_some_iff.1 hj).1
      rw [fl_n] at hjl
      rw [← hL, List.getElem?_take, if_pos hjl] at hj
      simpa using hj
    · cases hj
  have hik : i + (fs.length + 1 - i) = fs.length + 1 := by omega
  have hkk : (fs.length : Int) + 1 - (i : Int) = ((fs.length + 1 - i : Nat) : Int) := by omega
  have hrz := Lib.run_append_grow_zeros (P := Tryz.prog) w 22 3 22 45 i0 _ .i64 .i64 Tryz.underlying22 Tryz.underlying3 hi0 hz0 (some ⟨g, 0, none⟩) i cap (flat (fs.take i)) hold (fs.length + 1 - i) (by omega) (by rw [hz1]; omega) (by omega) (by omega) (by rw [hz2]; omega) (by rw [hz2, hik]; exact growslice_fits (by omega) (by omega))
  rw [hik] at hrz
  have hGn := grownCap_ge w (fs.length + 1) cap 45
  have hGm := grownCap_le_maxLen w (fs.length + 1) cap 45 (by unfold maxLen; omega)
  generalize grownCap w (fs.length + 1) cap 45 = G at *
  obtain ⟨Z, hZ, hZl⟩ : ∃ Z : List Value, (flat (fs.take i)).toArray ++ Builtin.zeroCells (Value.agg #[.string ByteArray.empty, .int .i64 0, .int .i64 0, .int .i64 0, .slice none 0 0, .slice none 0 0]).cells (fs.length + 1 - i) ++ Builtin.zeroCells (Value.agg #[.string ByteArray.empty, .int .i64 0, .int .i64 0, .int .i64 0, .slice none 0 0, .slice none 0 0]).cells (G - (fs.length + 1)) = (flat (fs.take i) ++ Z).toArray ∧ Z.length = (G - i) * 6 := by
    refine ⟨(Builtin.zeroCells (Value.agg #[.string ByteArray.empty, .int .i64 0, .int .i64 0, .int .i64 0, .slice none 0 0, .slice none 0 0]).cells (fs.length + 1 - i) ++ Builtin.zeroCells (Value.agg #[.string ByteArray.empty, .int .i64 0, .int .i64 0, .int .i64 0, .slice none 0 0, .slice none 0 0]).cells (G - (fs.length + 1))).toList, ?_, ?_⟩
    · apply Array.ext'; simp
    · simp only [Array.toList_append, List.length_append, Array.length_toList, zlen_n]; omega
  rw [hZ] at hrz
  clear hZ hold
  have hGm' : G ≤ 9223372036854775807 := by simpa [maxLen] using hGm
  have hz2' : ¬ ((i : Int) = (fs.length : Int)) := by omega
  have hw1 : IntKind.i64.wrap ((i : Int) + 1) = (i : Int) + 1 := by rw [IntKind.wrap_i64]; omega
  have hw2 : IntKind.i64.wrap ((fs.length : Int) + 1) = (fs.length : Int) + 1 := by rw [IntKind.wrap_i64]; omega
  have hw3 : IntKind.i64.wrap ((fs.length : Int) + 1 - (i : Int)) = ((fs.length + 1 - i : Nat) : Int) := by rw [IntKind.wrap_i64]; omega
  have hb1 : (0 : Int) ≤ (i : Int) + 1 := by omega
  have hb2 : ¬ (G = i + 1) := by omega
  have hb3 : (i : Int) ≤ (fs.length : Int) + 1 := by omega
  have hb4 : ¬ (G = i) := by omega
  have hb5 : (cap : Int) < (fs.length : Int) + 1 := by omega
  have hb7 : (i : Int) ≤ (fs.length : Int) := by omega
  have hb8 : i ≤ fs.length := by omega
  have hb9 : ¬ (cap = i) := by omega
  have hb10 : (i : Int) + 1 ≤ (fs.length : Int) + 1 := by omega
  have hb11 : (i : Int) ≤ (cap : Int) := by omega
  have htn : ((i : Int) + 1).toNat = i + 1 := by omega
  have htn2 : ((fs.length : Int) + 1).toNat = fs.length + 1 := by omega
  go_enter Tryz.func201, Tryz.ntmps201
  obtain ⟨R, hR⟩ : ∃ R, R = flat (fs.take i) ++ Z := ⟨_, rfl⟩
  rw [← hR] at hrz
  have hRl : R.length = G * 6 := by rw [hR, List.length_append, ht, hZl]; omega
  have hR1 : (w.alloc (.cells R.toArray 45)).drew.heap[w.heap.size]? = some (.cells R.toArray 45 (0, 0)) := heap_alloc_new w _
  have hg2' : (w.alloc (.cells R.toArray 45)).drew.heap[g2]? = some (.cells (ndE f).toArray 45 (0, 0)) := by rw [← hg2]; exact Go.heap_alloc_old w _ hg2w
  have hg' : (w.alloc (.cells R.toArray 45)).drew.heap[g]? = some (.cells cur.toArray 45 (0, 0)) := by rw [← hg]; exact Go.heap_alloc_old w _ hgw
  have hcpA : (Builtin.copy_ #[22, 22] 3 #[.slice (some ⟨w.heap.size, i * 6, none⟩) (fs.length + 1 - i) (G - i), .slice (some ⟨g2, 0, none⟩) 1 1]).run Tryz.prog (w.alloc (.cells R.toArray 45)).drew = .ok (goInt (Nat.min 1 (fs.length + 1 - i) : Nat)) ((w.alloc (.cells R.toArray 45)).drew.setRow w.heap.size (splice R (i * 6) (ndE f)).toArray) :=
    run_copyK 6 _ _ _ _ 45 w.heap.size (i * 6) _ _ ⟨g2, 0, none⟩ _ _ R 45 (ndE f) Tryz.underlying22 size_n hR1 (by rw [hel]; congr 1; simp only [Nat.min_def]; split <;> omega)
      (fun j v hj => by
        rw [Addr.add_lit, Nat.zero_add]
        rw [cell_of_row _ g2 j _ _ (0, 0) hg2']
        simpa using hj) (by rw [hel, hRl]; omega) (ndE_one f)
  have hdl : (flat (fs.drop i)).length = (fs.length - i) * 6 := by rw [fl_n, List.length_drop]
  have hsl : (splice R (i * 6) (ndE f)).length = G * 6 := by rw [length_splice _ _ _ (by rw [hel, hRl]; omega), hRl]
  have hfin : (splice (splice (flat (fs.take i) ++ Z) (i * 6) (ndE f)) ((i + 1) * 6) (flat (fs.drop i))).take ((fs.length + 1) * 6) = flat (insR fs i f) := splice_new Z fs f i hb8
  rw [← hR] at hfin
  have hR2 := setRow_heap (w.alloc (.cells R.toArray 45)).drew w.heap.size R.toArray (splice R (i * 6) (ndE f)).toArray _ _ hR1
  have hg3 : ((w.alloc (.cells R.toArray 45)).drew.setRow w.heap.size (splice R (i * 6) (ndE f)).toArray).heap[g]? = some (.cells cur.toArray 45 (0, 0)) := (setRow_other _ w.heap.size g _ (by omega)).trans hg'
  generalize splice R (i * 6) (ndE f) = L1 at *
  have hcpB : (Builtin.copy_ #[22, 22] 3 #[.slice (some ⟨w.heap.size, (i + 1) * 6, none⟩) (fs.length + 1 - (i + 1)) (G - (i + 1)), .slice (some ⟨g, i * 6, none⟩) (fs.length - i) (cap - i)]).run Tryz.prog ((w.alloc (.cells R.toArray 45)).drew.setRow w.heap.size L1.toArray).drew = .ok (goInt (Nat.min (fs.length - i) (fs.length + 1 - (i + 1)) : Nat)) (((w.alloc (.cells R.toArray 45)).drew.setRow w.heap.size L1.toArray).drew.setRow w.heap.size (splice L1 ((i + 1) * 6) (flat (fs.drop i))).toArray) :=
    run_copyK 6 _ _ _ _ 45 w.heap.size ((i + 1) * 6) _ _ ⟨g, i * 6, none⟩ _ _ L1 45 (flat (fs.drop i)) Tryz.underlying22 size_n hR2 (by rw [hdl]; congr 1; simp only [Nat.min_def]; split <;> omega)
      (fun j v hj => by
        rw [Addr.add_lit]
        show ((w.alloc (.cells R.toArray 45)).drew.setRow w.heap.size L1.toArray).cell? _ = _
        rw [cell_of_row _ g (i * 6 + j) cur.toArray _ (0, 0) hg3]
        have e : (flat fs).drop (i * 6) = flat (fs.drop i) := flat_drop fs i
        rw [← e, List.getElem?_drop] at hj
        have hjl := (List.getElem?_eq_some_iff.1 hj).1
        rw [fl_n] at hjl
        rw [← hL, List.getElem?_take, if_pos hjl] at hj
        simpa using hj) (by rw [hdl, hsl]; omega) (flat_one _)
  have hsl2 : (splice L1 ((i + 1) * 6) (flat (fs.drop i))).length = G * 6 := by rw [length_splice _ _ _ (by rw [hdl, hsl]; omega), hsl]
  have hR3 := setRow_heap ((w.alloc (.cells R.toArray 45)).drew.setRow w.heap.size L1.toArray).drew w.heap.size L1.toArray (splice L1 ((i + 1) * 6) (flat (fs.drop i))).toArray _ _ hR2
  generalize splice L1 ((i + 1) * 6) (flat (fs.drop i)) = L2 at *
  have HFIN : Hid (Own (((w.alloc (.cells R.toArray 45)).drew.setRow w.heap.size L1.toArray).drew.setRow w.heap.size L2.toArray) w.heap.size 45 (.slice (some ⟨w.heap.size, 0, none⟩) (fs.length + 1) G) (insR fs i f) ∧ w.grownBy (((w.alloc (.cells R.toArray 45)).drew.setRow w.heap.size L1.toArray).drew.setRow w.heap.size L2.toArray) none) := by
    refine ⟨?_, ⟨rfl, rfl, rfl, by simp [World.setRow], fun k hk _ => ?_⟩⟩
    · unfold Own
      rw [insR_len fs i f hb8]
      refine ⟨by rw [flat_len, insR_len fs i f hb8], .inr ⟨w.heap.size, G, L2.toArray, rfl, Nat.le_refl _, hR3, hGn, hGm, by rw [List.size_toArray]; exact hsl2, ?_⟩⟩
      rw [← hfin]
      rfl
    · rw [setRow_other _ w.heap.size k _ (by omega)]
      show ((w.alloc (.cells R.toArray 45)).drew.setRow w.heap.size L1.toArray).heap[k]? = _
      rw [setRow_other _ w.heap.size k _ (by omega)]
      exact Go.heap_alloc_old w _ hk
  have HRZ := Lib.hid hrz
  have HCB := Lib.hid hcpB
  clear hrz hfin hR1 hR2 hR3 hg' hg3 hg2' hcpB hL hg hg2 hR hel
  generalize ndE f = ef at *
  go_wp2_with (at_builtin; go_loud (refine Lib.wpList_append_run _ rfl _ _ _ _ rfl _ _ rfl rfl _ _ HRZ.out ?_))
  go_region_law (refine step_copy_runI rfl _ _ 22 22 rfl (.slice (some ⟨w.heap.size, (i + 1) * 6, none⟩) (fs.length + 1 - (i + 1)) (G - (i + 1))) (.slice (some ⟨g, i * 6, none⟩) (fs.length - i) (cap - i)) (by simp [Act.eval, Act.put]) (by simp [Act.eval, Act.put]) HCB.out ?_)
  all_goals go_wp2
  all_goals go_ret
  all_goals exact ⟨_, rfl, HFIN.out.1, HFIN.out.2⟩
/-- slices.Insert, wherever the new one is to stand. -/
theorem insert_n (v : Value) (fs : List NdM) (f : NdM) (i g2 base : Nat) (w : World) (hbs : base ≤ w.heap.size) (ho : Own w base 45 v fs) (h4 : fs.length ≤ 4096) (hi : i ≤ fs.length)
    (hg2 : w.heap[g2]? = some (.cells (ndE f).toArray 45 (0, 0))) (hne : v.ownBlock ≠ some g2) :
    Calls Tryz.prog 201 #[v, .int .i64 i, .slice (some ⟨g2, 0, none⟩) 1 1] w fun e w' => ∃ v', e = .returned v' ∧ Own w' base 45 v' (insR fs i f) ∧ w.grownBy w' v.ownBlock := by
  by_cases hl : i = fs.length
  · subst hl
    have := insert_end_n v fs f g2 base w hbs ho h4 (fun j u hu => by
      rw [cell_of_row w g2 j _ _ (0, 0) hg2]
      simpa using hu)
    rw [insR_end]
    exact this
  · have hlt : i < fs.length := by omega
    rcases ho.2 with ⟨_, h0⟩ | ⟨g, cap, cur, rfl, hbg, hg, hnc, hcm, hcs, hL⟩
    · omega
    · have hne2 : g2 ≠ g := fun e => hne (by rw [e]; rfl)
      have hcs : cur.size = cap * 6 := hcs
      have hL : cur.toList.take (fs.length * 6) = flat fs := hL
      have hel : (ndE f).length = 1 * 6 := rfl
      by_cases hroom : fs.length + 1 ≤ cap
      · have hdl : (flat (fs.drop i)).length = (fs.length - i) * 6 := by rw [fl_n, List.length_drop]
        have hcl : cur.toList.length = cap * 6 := by rw [Array.length_toList, hcs]
        refine (insert_room_n g cap i g2 cur.toList fs f w hlt (by simpa using hg) hcl hL hroom hcm hne2 hg2).mono ?_
        rintro e w' ⟨rfl, rfl⟩
        refine ⟨_, rfl, ?_, ⟨rfl, rfl, rfl, by simp [World.setRow], fun k _ hk => ?_⟩⟩
        · unfold Own
          rw [insR_len fs i f hi]
          refine ⟨by rw [flat_len, insR_len fs i f hi], .inr ⟨g, cap, _, rfl, hbg, setRow_heap _ g _ _ _ _ (setRow_heap w.drew g cur _ _ _ hg), hroom, hcm, ?_, ?_⟩⟩
          · rw [List.size_toArray, length_splice _ _ _ (by rw [hel, length_splice _ _ _ (by rw [hdl, hcl]; omega), hcl]; omega), length_splice _ _ _ (by rw [hdl, hcl]; omega), hcl]
            rfl
          · exact splice_ins cur.toList fs f i hi hL (by rw [hcl]; exact Nat.mul_le_mul_right _ hroom)
        · have hkg : k ≠ g := fun e => hk (by rw [e]; rfl)
          rw [setRow_other _ g k _ hkg, setRow_other _ g k _ hkg]
          rfl
      · refine (insert_grow_n g cap i g2 cur.toList fs f w hlt h4 (by simpa using hg) hL hnc hroom hg2).mono ?_
        rintro e w' ⟨v', rfl, h1, h2⟩
        exact ⟨v', rfl, h1.le hbs, ⟨h2.os, h2.tape, h2.output, h2.size, fun k hk _ => h2.block k hk (by simp)⟩⟩

set_option maxRecDepth 100000 in
set_option maxHeartbeats 4000000 in
theorem delete_n (v : Value) (fs : List NdM) (i base : Nat) (w : World) (ho : Own w base 45 v fs) (h4 : fs.length ≤ 4096) (hi : i < fs.length) :
    Calls Tryz.prog 202 #[v, .int .i64 i, .int .i64 ((i : Int) + 1)] w fun e w' => ∃ v', e = .returned v' ∧ Own w' base 45 v' (fs.eraseIdx i) ∧ w.grownBy w' v.ownBlock := by
  rcases ho.2 with ⟨_, h0⟩ | ⟨g, cap, cur, rfl, hbg, hg, hnc, hcm, hcs, hL⟩
  · omega
  · obtain ⟨i0, hi0, hz0, hz1, hz2⟩ := info_parts info_n
    have hcs : cur.size = cap * 6 := hcs
    have hL : cur.toList.take (fs.length * 6) = flat fs := hL
    have hcl : cur.toList.length = cap * 6 := by rw [Array.length_toList, hcs]
    have hg : w.heap[g]? = some (.cells cur.toList.toArray 45 (0, 0)) := by simpa using hg
    generalize cur.toList = L at *
    have hdl : (flat (fs.drop (i + 1))).length = (fs.length - (i + 1)) * 6 := by rw [flat_len, List.length_drop]; rfl
    have hcm' : cap ≤ 9223372036854775807 := by simpa [maxLen] using hcm
    have hw0 : ∀ sp sc, (i + 1 < fs.length → sp = some ⟨g, (i + 1) * 6, none⟩) → (Builtin.append_ #[22, 22] 22 #[.slice (some ⟨g, 0, none⟩) i cap, .slice sp (fs.length - (i + 1)) sc]).run Tryz.prog w.drew = .ok (.slice (some ⟨g, 0, none⟩) (i + (fs.length - (i + 1))) cap) (w.drew.setRow g (splice L (i * 6) (flat (fs.drop (i + 1)))).toArray) := by
      intro sp sc hsp
      refine run_append_in w.drew _ _ 45 i0 6 Tryz.underlying22 hi0 hz1 g i cap L 45 hg sp (fs.length - (i + 1)) sc (flat (fs.drop (i + 1))) hdl (fun hp => ⟨_, hsp (by omega), fun j v hj => ?_⟩) (flat_one _) (by omega) (by rw [hdl, hcl]; omega)
      rw [Addr.add_lit]
      show w.cell? _ = _
      rw [cell_of_row w g ((i + 1) * 6 + j) L.toArray _ (0, 0) hg]
      have e : (flat fs).drop ((i + 1) * 6) = flat (fs.drop (i + 1)) := flat_drop fs (i + 1)
      rw [← e, List.getElem?_drop] at hj
      have hjl := (List.getElem?_eq_some_iff.1 hj).1
      have e2 : (flat fs).length = fs.length * 6 := flat_len fs
      rw [e2] at hjl
      rw [← hL, List.getElem?_take, if_pos hjl] at hj
      simpa using hj
    rw [show i + (fs.length - (i + 1)) = fs.length - 1 by omega] at hw0
    have hz3 := zero_n
    have hL1 := setRow_heap w.drew g L.toArray (splice L (i * 6) (flat (fs.drop (i + 1)))).toArray _ _ hg
    have hsl : (splice L (i * 6) (flat (fs.drop (i + 1)))).length = cap * 6 := by rw [length_splice _ _ _ (by rw [hdl, hcl]; omega), hcl]
    have hfin : (splice (splice L (i * 6) (flat (fs.drop (i + 1)))) ((fs.length - 1) * 6) [.string ByteArray.empty, .int .i64 0, .int .i64 0, .int .i64 0, .slice none 0 0, .slice none 0 0]).take ((fs.length - 1) * 6) = flat (fs.eraseIdx i) := splice_del L [.string ByteArray.empty, .int .i64 0, .int .i64 0, .int .i64 0, .slice none 0 0, .slice none 0 0] fs i hi hL
    generalize splice L (i * 6) (flat (fs.drop (i + 1))) = L1 at *
    have hclr : ∀ m c, m = 1 → (Builtin.clear_ #[22] 0 #[.slice (some ⟨g, (fs.length - 1) * 6, none⟩) m c]).run Tryz.prog (w.drew.setRow g L1.toArray) = .ok (.tuple #[]) ((w.drew.setRow g L1.toArray).setRow g (splice L1 ((fs.length - 1) * 6) [.string ByteArray.empty, .int .i64 0, .int .i64 0, .int .i64 0, .slice none 0 0, .slice none 0 0]).toArray) := fun m c hm => by
      subst hm
      exact run_clear_one _ _ _ 45 _ 6 g _ c L1 45 Tryz.underlying22 (hz3 _) rfl (by intro v hv; simp [Value.cells] at hv; rcases hv with rfl | rfl | rfl <;> rfl) hL1 (by rw [hsl]; omega)
    have hw1 : IntKind.i64.wrap ((i : Int) + 1) = (i : Int) + 1 := by rw [IntKind.wrap_i64]; omega
    have ht0 : (i : Int) + 1 ≤ (fs.length : Int) := by omega
    have ht1 : (0 : Int) ≤ (i : Int) + 1 := by omega
    have ht2 : (i : Int) ≤ (i : Int) + 1 := by omega
    have ht3 : ((i : Int) + 1).toNat = i + 1 := by omega
    have ht4 : ¬ ((i : Int) = (i : Int) + 1) := by omega
    have ht5 : (fs.length : Int) ≤ (cap : Int) := by omega
    have ht6 : (i : Int) ≤ (fs.length : Int) := by omega
    have ht7 : (i : Int) ≤ (cap : Int) := by omega
    have hnf : ¬ (fs.length = i) := by omega
    have hnc2 : ¬ (cap = i) := by omega
    go_enter Tryz.func202, Tryz.ntmps202
    go_wp2
    have HW0 := Lib.hid hw0
    have HCL := Lib.hid hclr
    have HFIN : Hid (Own ((w.drew.setRow g L1.toArray).setRow g (splice L1 ((fs.length - 1) * 6) [.string ByteArray.empty, .int .i64 0, .int .i64 0, .int .i64 0, .slice none 0 0, .slice none 0 0]).toArray) base 45 (.slice (some ⟨g, 0, none⟩) (fs.length - 1) cap) (fs.eraseIdx i) ∧ w.grownBy ((w.drew.setRow g L1.toArray).setRow g (splice L1 ((fs.length - 1) * 6) [.string ByteArray.empty, .int .i64 0, .int .i64 0, .int .i64 0, .slice none 0 0, .slice none 0 0]).toArray) (some g)) := by
      have hel : (fs.eraseIdx i).length = fs.length - 1 := by rw [List.length_eraseIdx_of_lt hi]
      refine ⟨?_, ⟨rfl, rfl, rfl, by simp [World.setRow], fun k _ hk => ?_⟩⟩
      · unfold Own
        rw [hel]
        refine ⟨by rw [flat_len, hel], .inr ⟨g, cap, _, rfl, hbg, setRow_heap _ g _ _ _ _ hL1, by omega, hcm, ?_, ?_⟩⟩
        · rw [List.size_toArray, length_splice _ _ _ (by rw [hsl]; simp; omega), hsl]; rfl
        · exact hfin
      · have hkg : k ≠ g := fun e => hk (by rw [e])
        rw [setRow_other _ g k _ hkg, setRow_other _ g k _ hkg]
        rfl
    clear hclr hw0 hfin hL1 hg ho hz3
    by_cases hce : cap = i + 1
    · subst hce
      have hfi : fs.length = i + 1 := by omega
      go_region_law (refine step_append_runI rfl _ _ 22 22 rfl (.slice (some ⟨g, 0, none⟩) i (i + 1)) (.slice (some ⟨g, 0, none⟩) (fs.length - (i + 1)) 0) (by simp [Act.eval, Act.put]) (by simp [Act.eval, Act.put]; omega) (HW0.out _ _ (fun h => absurd h (by omega))) ?_)
      have h7 := HCL.out 1 1 rfl
      rw [hfi] at h7 HFIN
      simp only [Nat.add_sub_cancel] at h7 HFIN
      all_goals go_wp2
      all_goals go_ret
      all_goals exact ⟨_, rfl, HFIN.out.1, HFIN.out.2⟩
    · go_region_law (refine step_append_runI rfl _ _ 22 22 rfl (.slice (some ⟨g, 0, none⟩) i cap) (.slice (some ⟨g, (i + 1) * 6, none⟩) (fs.length - (i + 1)) (cap - (i + 1))) (by simp [Act.eval, Act.put]) (by simp [Act.eval, Act.put]) (HW0.out _ _ (fun _ => rfl)) ?_)
      have h7 := HCL.out (fs.length - (fs.length - 1)) (cap - (fs.length - 1)) (by omega)
      all_goals go_wp2
      all_goals go_ret
      all_goals exact ⟨_, rfl, HFIN.out.1, HFIN.out.2⟩
end Bo
end Go.Proofs.YthbmnkeigmbbdaaGreat

/-
  TASKS OF THE CALL's OWN: slices.Clone, slices.Insert, slices.Delete.
-/
namespace Go.Proofs.YthbmnkeigmbbdaaGreat
open Go.RowKit Go.Lib Go.Sort
namespace Bo
open Rw
set_option linter.unusedVariables false
theorem info_t : (Tryz.prog.info? 42).map (fun i => (i.zero, i.size, i.bytes)) = some (some (.agg #[.string ByteArray.empty, .int .i64 0, .int .i64 0, .int .i64 0, .slice none 0 0, .slice none 0 0, .string ByteArray.empty, .string ByteArray.empty, .int .i64 0]), 9, 128) := by kernel_rfl
theorem size_t : (Tryz.prog.info? 42).map (·.size) = some 9 := by kernel_rfl
theorem zero_t (w : World) : (zeroValue 42).run Tryz.prog w = .ok (.agg #[.string ByteArray.empty, .int .i64 0, .int .i64 0, .int .i64 0, .slice none 0 0, .slice none 0 0, .string ByteArray.empty, .string ByteArray.empty, .int .i64 0]) w := by
  obtain ⟨i0, hi0, hz0, hz1, hz2⟩ := info_parts info_t
  simp [zeroValue, typeInfo, hi0, hz0]
theorem fl_t (l : List TdM) : (flat l).length = l.length * 9 := flat_len l

set_option maxHeartbeats 1000000 in
theorem clone_t (v : Value) (l : List TdM) (w : World) {A : Nat} (hv : Sl w A w.heap.size v l) (hby : l.length * 128 ≤ 140737488355328) :
    Calls Tryz.prog 160 #[v] w fun e w' => ∃ v', e = .returned v' ∧ Own w' w.heap.size 42 v' l ∧ Below w.heap.size w w' := by
  have q22 : ∀ (w : World) (a : Option Addr) (n c n' c' : Nat), (binOp .eql 23 (.slice a n c) (.slice none n' c')).run Tryz.prog w = .ok (.bool a.isNone) w := fun w a n c n' c' => Lib.run_eql_slice_nil w _ _ a n c n' c' Tryz.underlying23
  have hv2 := hv
  obtain ⟨a, c, rfl, hc0, hnil, hl, hc⟩ := hv
  cases a with
  | none =>
    have h0 : l = [] := List.eq_nil_of_length_eq_zero (by have := hnil rfl; omega)
    subst h0
    clear hc hv2 hl hnil hc0
    go_enter Tryz.func160, Tryz.ntmps160
    go_wp2
    go_ret
    exact ⟨_, rfl, Own.nil _ _ _, Below.refl _ _⟩
  | some ad =>
    obtain ⟨i0, hi, hz0, hz1, hz2⟩ := info_parts info_t
    have A := Lib.hid hv2.news
    have hmx : l.length ≤ maxLen := by simp only [maxLen]; omega
    have hl3 : (flat l).length = l.length * 9 := flat_len l
    have h1 := flat_one l
    have HLL := Lib.hid hby
    clear hc hv2 hnil hc0
    have H3 := Lib.hid hl3
    have H1 := Lib.hid h1
    clear hl3 h1 hby
    have HF : Hid (∀ (w1 : World) (v' : Value), w1.ownsRow w.heap.size 42 9 v' l.length (flat l) → Own w1 w.heap.size 42 v' l) := fun _ _ h => h
    generalize flat l = xs at A H3 H1 HF
    go_enter Tryz.func160, Tryz.ntmps160
    go_wp2_with (at_builtin; refine wpList_append_own _ rfl _ _ 23 rfl w.heap.size 42 i0 _ 9 128 Tryz.underlying23 hi hz0 hz1 hz2 rfl (by omega) _ _ _ rfl (World.ownsRow_made w #[] 0 (Nat.le_refl _) (Nat.zero_le _) (by simp)) ad l.length c xs rfl H3.out (fun j u hj => Lib.cell?_alloc_some _ (A.out j u hj)) H1.out (by rw [Nat.zero_add]; exact hmx) (by rw [Nat.zero_add]; exact HLL.out) (by simp) ?_; intro v' w1 hown hgrow hnil)
    go_ret
    exact ⟨_, rfl, HF.out _ _ (by simpa using hown), ((Below.refl _ w).alloc (Nat.le_refl _) _).grown hgrow (by simp) (fun k hk => Nat.le_of_eq (Option.some.inj hk))⟩

theorem zlen_t (k : Nat) : (Builtin.zeroCells (Value.agg #[.string ByteArray.empty, .int .i64 0, .int .i64 0, .int .i64 0, .slice none 0 0, .slice none 0 0, .string ByteArray.empty, .string ByteArray.empty, .int .i64 0]).cells k).size = k * 9 := by simp [Builtin.zeroCells, Value.cells]
set_option maxRecDepth 100000 in
set_option maxHeartbeats 2000000 in
theorem insert_end_t (v : Value) (fs : List TdM) (f : TdM) (g2 : Nat) (base : Nat) (w : World) (hbs : base ≤ w.heap.size) (ho : Own w base 42 v fs) (h4 : fs.length ≤ 4096)
    (hg : ∀ j u, (tdE f)[j]? = some u → w.cell? ⟨g2, j, none⟩ = some u) :
    Calls Tryz.prog 203 #[v, .int .i64 fs.length, .slice (some ⟨g2, 0, none⟩) 1 1] w fun e w' => ∃ v', e = .returned v' ∧ Own w' base 42 v' (fs ++ [f]) ∧ w.grownBy w' v.ownBlock := by
  have HG : Hid (∀ j u, (tdE f)[j]? = some u → w.cell? ((⟨g2, 0, none⟩ : Addr).add j) = some u) := by
    intro j u hu
    rw [Addr.add_lit, Nat.zero_add]
    exact hg j u hu
  have HL : Hid ((tdE f).length = 1 * 9) := rfl
  have H1 := Lib.hid (tdE_one f)
  obtain ⟨i0, hi, hz0, hz1, hz2⟩ := info_parts info_t
  have HE : Hid (∀ w' v', w'.ownsRow base 42 9 v' (fs.length + 1) (flat fs ++ tdE f) → Own w' base 42 v' (fs ++ [f])) := fun w' v' h => Own.snoc h
  have hmx : fs.length + 1 ≤ maxLen := by simp only [maxLen]; omega
  have HM := Lib.hid hmx
  have HO := Lib.hid ho
  clear hg hmx
  rcases ho.forms with ⟨rfl, rfl⟩ | ⟨g, cap, rfl, hbg, hgl, hcap, hcm⟩
  · clear ho
    generalize tdE f = ef at *
    go_enter Tryz.func203, Tryz.ntmps203
    go_wp2_with (at_builtin; refine wpList_append_own _ rfl _ _ 23 rfl base 42 i0 _ 9 128 Tryz.underlying23 hi hz0 hz1 hz2 rfl (by omega) (.slice none 0 0) 0 [] rfl (World.ownsRow_nil _ _ _ _) ⟨g2, 0, none⟩ 1 1 ef rfl HL.out HG.out H1.out (by simp [maxLen]) (by omega) hbs ?_; intro v' w1 hown hgrow hnil)
    go_ret
    exact ⟨v', rfl, HE.out _ _ (by simpa [flat] using hown), hgrow⟩
  · generalize hx : flat fs = xs at *
    have hox : w.ownsRow base 42 9 (.slice (some ⟨g, 0, none⟩) fs.length cap) fs.length xs := by rw [← hx]; exact ho
    have HOX := Lib.hid hox
    clear ho hox hx HO
    generalize tdE f = ef at *
    have t1 : (fs.length : Int) ≤ (cap : Int) := by omega
    go_enter Tryz.func203, Tryz.ntmps203
    go_wp2_with (at_builtin; refine wpList_append_own _ rfl _ _ 23 rfl base 42 i0 _ 9 128 Tryz.underlying23 hi hz0 hz1 hz2 rfl (by omega) (.slice (some ⟨g, 0, none⟩) fs.length cap) fs.length xs rfl HOX.out ⟨g2, 0, none⟩ 1 1 ef rfl HL.out HG.out H1.out HM.out (by omega) hbs ?_; intro v' w1 hown hgrow hnil)
    all_goals go_ret
    all_goals exact ⟨v', rfl, HE.out _ _ hown, hgrow⟩
set_option maxRecDepth 100000 in
set_option maxHeartbeats 4000000 in
theorem insert_room_t (g cap i g2 : Nat) (cur : List Value) (fs : List TdM) (f : TdM) (w : World) (hi : i < fs.length) (hg : w.heap[g]? = some (.cells cur.toArray 42 (0, 0))) (hcl : cur.length = cap * 9) (hL : cur.take (fs.length * 9) = flat fs)
    (hroom : fs.length + 1 ≤ cap) (hcm : cap ≤ maxLen) (hne : g2 ≠ g) (hg2 : w.heap[g2]? = some (.cells (tdE f).toArray 42 (0, 0))) :
    Calls Tryz.prog 203 #[.slice (some ⟨g, 0, none⟩) fs.length cap, .int .i64 i, .slice (some ⟨g2, 0, none⟩) 1 1] w fun e w' =>
      e = .returned (.slice (some ⟨g, 0, none⟩) (fs.length + 1) cap) ∧ w' = (w.drew.setRow g (splice cur ((i + 1) * 9) (flat (fs.drop i))).toArray).setRow g (splice (splice cur ((i + 1) * 9) (flat (fs.drop i))) (i * 9) (tdE f)).toArray := by
  have hov : ∀ off lb cb, (callFunc 218 #[.slice (some ⟨g2, 0, none⟩) 1 1, .slice (some ⟨g, off, none⟩) lb cb]).run Tryz.prog w = .ok (.value (.bool false)) w := fun off lb cb => by
    rw [run_callFunc_extern Tryz.func218 (by kernel_rfl) (by kernel_rfl) (by kernel_rfl) (e := Extern.SlicesOverlaps.overlaps #[23, 23] #[4]) (by kernel_rfl),
      Lib.run_overlaps_apart w 23 4 42 Tryz.underlying23 9 Tryz.sizeOf42 ⟨g2, 0, none⟩ ⟨g, off, none⟩ 1 1 lb cb hne 42 42 9 cur.length (by simp [World.shape?, hg2, tdE]) (by simp [World.shape?, hg]) (by omega) (by simp [World.frozen?, hg2]) (by simp [World.frozen?, hg2])]
    rfl
  have hdl : (flat (fs.drop i)).length = (fs.length - i) * 9 := by rw [fl_t, List.length_drop]
  have hcp1 : (Builtin.copy_ #[23, 23] 3 #[.slice (some ⟨g, (i + 1) * 9, none⟩) (fs.length + 1 - (i + 1)) (cap - (i + 1)), .slice (some ⟨g, i * 9, none⟩) (fs.length + 1 - i) (cap - i)]).run Tryz.prog w.drew = .ok (goInt (Nat.min (fs.length + 1 - i) (fs.length + 1 - (i + 1)) : Nat)) (w.drew.setRow g (splice cur ((i + 1) * 9) (flat (fs.drop i))).toArray) :=
    run_copyK 9 w.drew _ _ _ 42 g ((i + 1) * 9) _ _ ⟨g, i * 9, none⟩ _ _ cur 42 (flat (fs.drop i)) Tryz.underlying23 size_t hg (by rw [hdl]; congr 1; simp only [Nat.min_def]; split <;> omega)
      (fun j v hj => by
        rw [Addr.add_lit]
        show w.cell? _ = _
        rw [cell_of_row w g (i * 9 + j) cur.toArray _ (0, 0) hg]
        have e : (flat fs).drop (i * 9) = flat (fs.drop i) := flat_drop fs i
        rw [← e, List.getElem?_drop] at hj
        have hjl := (List.getElem?_eq_some_iff.1 hj).1
        rw [fl_t] at hjl
        rw [← hL, List.getElem?_take, if_pos hjl] at hj
        simpa using hj) (by rw [hdl, hcl]; omega) (flat_one _)
  have hW1 : (w.drew.setRow g (splice cur ((i + 1) * 9) (flat (fs.drop i))).toArray).heap[g]? = some (.cells (splice cur ((i + 1) * 9) (flat (fs.drop i))).toArray 42 (0, 0)) := setRow_heap w.drew g cur.toArray _ _ _ hg
  have hW2 : (w.drew.setRow g (splice cur ((i + 1) * 9) (flat (fs.drop i))).toArray).heap[g2]? = some (.cells (tdE f).toArray 42 (0, 0)) := (setRow_other w.drew g g2 _ hne).trans hg2
  have hsl : (splice cur ((i + 1) * 9) (flat (fs.drop i))).length = cap * 9 := by rw [length_splice _ _ _ (by rw [hdl, hcl]; omega), hcl]
  have hel : (tdE f).length = 1 * 9 := rfl
  generalize splice cur ((i + 1) * 9) (flat (fs.drop i)) = L1 at *
  have hcp2 : (Builtin.copy_ #[23, 23] 3 #[.slice (some ⟨g, i * 9, none⟩) (fs.length + 1 - i) (cap - i), .slice (some ⟨g2, 0, none⟩) 1 1]).run Tryz.prog (w.drew.setRow g L1.toArray) = .ok (goInt (Nat.min 1 (fs.length + 1 - i) : Nat)) ((w.drew.setRow g L1.toArray).setRow g (splice L1 (i * 9) (tdE f)).toArray) :=
    run_copyK 9 _ _ _ _ 42 g (i * 9) _ _ ⟨g2, 0, none⟩ _ _ L1 42 (tdE f) Tryz.underlying23 size_t hW1 (by rw [hel]; congr 1; simp only [Nat.min_def]; split <;> omega)
      (fun j v hj => by
        rw [Addr.add_lit, Nat.zero_add]
        rw [cell_of_row _ g2 j _ _ (0, 0) hW2]
        simpa using hj) (by rw [hel, hsl]; omega) (tdE_one f)
  have hcm' : cap ≤ 9223372036854775807 := by simpa [maxLen] using hcm
  have hz2 : ¬ ((i : Int) = (fs.length : Int)) := by omega
  have hw1 : IntKind.i64.wrap ((i : Int) + 1) = (i : Int) + 1 := by rw [IntKind.wrap_i64]; omega
  have hw2 : IntKind.i64.wrap ((fs.length : Int) + 1) = (fs.length : Int) + 1 := by rw [IntKind.wrap_i64]; omega
  have hb1 : (0 : Int) ≤ (i : Int) + 1 := by omega
  have hb2 : ¬ (cap = i + 1) := by omega
  have hb3 : (i : Int) ≤ (fs.length : Int) + 1 := by omega
  have hb4 : ¬ (cap = i) := by omega
  have hb5 : ¬ ((cap : Int) < (fs.length : Int) + 1) := by omega
  have hb6 : (fs.length : Int) + 1 ≤ (cap : Int) := by omega
  have hb7 : (i : Int) ≤ (fs.length : Int) := by omega
  have hb8 : i ≤ fs.length := by omega
  have hb9 : decide ((cap : Int) < (fs.length : Int) + 1) = false := by simp; omega
  have hb10 : (i : Int) + 1 ≤ (fs.length : Int) + 1 := by omega
  have htn : ((i : Int) + 1).toNat = i + 1 := by omega
  have htn2 : ((fs.length : Int) + 1).toNat = fs.length + 1 := by omega
  generalize tdE f = ef at *
  go_enter Tryz.func203, Tryz.ntmps203
  go_wp2_with (simp only [hov])
  have HC2 := Lib.hid hcp2
  have HC1 := Lib.hid hcp1
  clear hcp1 hcp2 hL hg hg2 hov hW1 hW2 hel hdl hsl hcl
  go_region_law (refine step_copy_runI rfl _ _ 23 23 rfl (.slice (some ⟨g, (i + 1) * 9, none⟩) (fs.length + 1 - (i + 1)) (cap - (i + 1))) (.slice (some ⟨g, i * 9, none⟩) (fs.length + 1 - i) (cap - i)) (by simp [Act.eval, Act.put]) (by simp [Act.eval, Act.put]) HC1.out ?_)
  all_goals have hcp3 := HC2.out
  all_goals go_wp2
  all_goals go_ret
  all_goals exact ⟨rfl, rfl⟩
set_option maxRecDepth 100000 in
set_option maxHeartbeats 4000000 in
theorem insert_grow_t (g cap i g2 : Nat) (cur : List Value) (fs : List TdM) (f : TdM) (w : World) (hi : i < fs.length) (h4 : fs.length ≤ 4096) (hg : w.heap[g]? = some (.cells cur.toArray 42 (0, 0))) (hL : cur.take (fs.length * 9) = flat fs)
    (hnc : fs.length ≤ cap) (hroom : ¬ (fs.length + 1 ≤ cap)) (hg2 : w.heap[g2]? = some (.cells (tdE f).toArray 42 (0, 0))) :
    Calls Tryz.prog 203 #[.slice (some ⟨g, 0, none⟩) fs.length cap, .int .i64 i, .slice (some ⟨g2, 0, none⟩) 1 1] w fun e w' =>
      ∃ v', e = .returned v' ∧ Own w' w.heap.size 42 v' (insR fs i f) ∧ w.grownBy w' none := by
  obtain ⟨i0, hi0, hz0, hz1, hz2⟩ := info_parts info_t
  have hgw : g < w.heap.size := (Array.getElem?_eq_some_iff.1 hg).1
  have hg2w : g2 < w.heap.size := (Array.getElem?_eq_some_iff.1 hg2).1
  have hel : (tdE f).length = 1 * 9 := rfl
  have ht : (flat (fs.take i)).length = i * 9 := by rw [fl_t, List.length_take]; congr 1; omega
  have hold : (Builtin.firstCells i0.size i (.slice (some ⟨g, 0, none⟩) i cap)).run Tryz.prog w.drew = .ok (flat (fs.take i)).toArray w.drew := by
    rw [hz1]
    refine run_firstCells_some w.drew 9 i ⟨g, 0, none⟩ i cap (flat (fs.take i)) ht (fun j v hj => ?_)
    rw [Addr.add_lit, Nat.zero_add]
    show w.cell? _ = _
    rw [cell_of_row w g j cur.toArray _ (0, 0) hg]
    have e : (flat fs).take (i * 9) = flat (fs.take i) := flat_take fs i
    rw [← e, List.getElem?_take] at hj
    split at hj
    · have hjl := (List.getElem?_eq_some_iff.1 hj).1
      rw [fl_t] at hjl
      rw [← hL, List.getElem?_take, if_pos hjl] at hj
      simpa using hj
    · cases hj
  have hik : i + (fs.length + 1 - i) = fs.length + 1 := by omega
  have hkk : (fs.length : Int) + 1 - (i : Int) = ((fs.length + 1 - i : Nat) : Int) := by omega
  have hrz := Lib.run_append_grow_zeros (P := Tryz.prog) w 23 3 23 42 i0 _ .i64 .i64 Tryz.underlying23 Tryz.underlying3 hi0 hz0 (some ⟨g, 0, none⟩) i cap (flat (fs.take i)) hold (fs.length + 1 - i) (by omega) (by rw [hz1]; omega) (by omega) (by omega) (by rw [hz2]; omega) (by rw [hz2, hik]; exact growslice_fits (by omega) (by omega))
  rw [hik] at hrz
  have hGn := grownCap_ge w (fs.length + 1) cap 42
  have hGm := grownCap_le_maxLen w (fs.length + 1) cap 42 (by unfold maxLen; omega)
  generalize grownCap w (fs.length + 1) cap 42 = G at *
  obtain ⟨Z, hZ, hZl⟩ : ∃ Z : List Value, (flat (fs.take i)).toArray ++ Builtin.zeroCells (Value.agg #[.string ByteArray.empty, .int .i64 0, .int .i64 0, .int .i64 0, .slice none 0 0, .slice none 0 0, .string ByteArray.empty, .string ByteArray.empty, .int .i64 0]).cells (fs.length + 1 - i) ++ Builtin.zeroCells (Value.agg #[.string ByteArray.empty, .int .i64 0, .int .i64 0, .int .i64 0, .slice none 0 0, .slice none 0 0, .string ByteArray.empty, .string ByteArray.empty, .int .i64 0]).cells (G - (fs.length + 1)) = (flat (fs.take i) ++ Z).toArray ∧ Z.length = (G - i) * 9 := by
    refine ⟨(Builtin.zeroCells (Value.agg #[.string ByteArray.empty, .int .i64 0, .int .i64 0, .int .i64 0, .slice none 0 0, .slice none 0 0, .string ByteArray.empty, .string ByteArray.empty, .int .i64 0]).cells (fs.length + 1 - i) ++ Builtin.zeroCells (Value.agg #[.string ByteArray.empty, .int .i64 0, .int .i64 0, .int .i64 0, .slice none 0 0, .slice none 0 0, .string ByteArray.empty, .string ByteArray.empty, .int .i64 0]).cells (G - (fs.length + 1))).toList, ?_, ?_⟩
    · apply Array.ext'; simp
    · simp only [Array.toList_append, List.length_append, Array.length_toList, zlen_t]; omega
  rw [hZ] at hrz
  clear hZ hold
  have hGm' : G ≤ 9223372036854775807 := by simpa [maxLen] using hGm
  have hz2' : ¬ ((i : Int) = (fs.length : Int)) := by omega
  have hw1 : IntKind.i64.wrap ((i : Int) + 1) = (i : Int) + 1 := by rw [IntKind.wrap_i64]; omega
  have hw2 : IntKind.i64.wrap ((fs.length : Int) + 1) = (fs.length : Int) + 1 := by rw [IntKind.wrap_i64]; omega
  have hw3 : IntKind.i64.wrap ((fs.length : Int) + 1 - (i : Int)) = ((fs.length + 1 - i : Nat) : Int) := by rw [IntKind.wrap_i64]; omega
  have hb1 : (0 : Int) ≤ (i : Int) + 1 := by omega
  have hb2 : ¬ (G = i + 1) := by omega
  have hb3 : (i : Int) ≤ (fs.length : Int) + 1 := by omega
  have hb4 : ¬ (G = i) := by omega
  have hb5 : (cap : Int) < (fs.length : Int) + 1 := by omega
  have hb7 : (i : Int) ≤ (fs.length : Int) := by omega
  have hb8 : i ≤ fs.length := by omega
  have hb9 : ¬ (cap = i) := by omega
  have hb10 : (i : Int) + 1 ≤ (fs.length : Int) + 1 := by omega
  have hb11 : (i : Int) ≤ (cap : Int) := by omega
  have htn : ((i : Int) + 1).toNat = i + 1 := by omega
  have htn2 : ((fs.length : Int) + 1).toNat = fs.length + 1 := by omega
  go_enter Tryz.func203, Tryz.ntmps203
  obtain ⟨R, hR⟩ : ∃ R, R = flat (fs.take i) ++ Z := ⟨_, rfl⟩
  rw [← hR] at hrz
  have hRl : R.length = G * 9 := by rw [hR, List.length_append, ht, hZl]; omega
  have hR1 : (w.alloc (.cells R.toArray 42)).drew.heap[w.heap.size]? = some (.cells R.toArray 42 (0, 0)) := heap_alloc_new w _
  have hg2' : (w.alloc (.cells R.toArray 42)).drew.heap[g2]? = some (.cells (tdE f).toArray 42 (0, 0)) := by rw [← hg2]; exact Go.heap_alloc_old w _ hg2w
  have hg' : (w.alloc (.cells R.toArray 42)).drew.heap[g]? = some (.cells cur.toArray 42 (0, 0)) := by rw [← hg]; exact Go.heap_alloc_old w _ hgw
  have hcpA : (Builtin.copy_ #[23, 23] 3 #[.slice (some ⟨w.heap.size, i * 9, none⟩) (fs.length + 1 - i) (G - i), .slice (some ⟨g2, 0, none⟩) 1 1]).run Tryz.prog (w.alloc (.cells R.toArray 42)).drew = .ok (goInt (Nat.min 1 (fs.length + 1 - i) : Nat)) ((w.alloc (.cells R.toArray 42)).drew.setRow w.heap.size (splice R (i * 9) (tdE f)).toArray) :=
    run_copyK 9 _ _ _ _ 42 w.heap.size (i * 9) _ _ ⟨g2, 0, none⟩ _ _ R 42 (tdE f) Tryz.underlying23 size_t hR1 (by rw [hel]; congr 1; simp only [Nat.min_def]; split <;> omega)
      (fun j v hj => by
        rw [Addr.add_lit, Nat.zero_add]
        rw [cell_of_row _ g2 j _ _ (0, 0) hg2']
        simpa using hj) (by rw [hel, hRl]; omega) (tdE_one f)
  have hdl : (flat (fs.drop i)).length = (fs.length - i) * 9 := by rw [fl_t, List.length_drop]
  have hsl : (splice R (i * 9) (tdE f)).length = G * 9 := by rw [length_splice _ _ _ (by rw [hel, hRl]; omega), hRl]
  have hfin : (splice (splice (flat (fs.take i) ++ Z) (i * 9) (tdE f)) ((i + 1) * 9) (flat (fs.drop i))).take ((fs.length + 1) * 9) = flat (insR fs i f) := splice_new Z fs f i hb8
  rw [← hR] at hfin
  have hR2 := setRow_heap (w.alloc (.cells R.toArray 42)).drew w.heap.size R.toArray (splice R (i * 9) (tdE f)).toArray _ _ hR1
  have hg3 : ((w.alloc (.cells R.toArray 42)).drew.setRow w.heap.size (splice R (i * 9) (tdE f)).toArray).heap[g]? = some (.cells cur.toArray 42 (0, 0)) := (setRow_other _ w.heap.size g _ (by omega)).trans hg'
  generalize splice R (i * 9) (tdE f) = L1 at *
  have hcpB : (Builtin.copy_ #[23, 23] 3 #[.slice (some ⟨w.heap.size, (i + 1) * 9, none⟩) (fs.length + 1 - (i + 1)) (G - (i + 1)), .slice (some ⟨g, i * 9, none⟩) (fs.length - i) (cap - i)]).run Tryz.prog ((w.alloc (.cells R.toArray 42)).drew.setRow w.heap.size L1.toArray).drew = .ok (goInt (Nat.min (fs.length - i) (fs.length + 1 - (i + 1)) : Nat)) (((w.alloc (.cells R.toArray 42)).drew.setRow w.heap.size L1.toArray).drew.setRow w.heap.size (splice L1 ((i + 1) * 9) (flat (fs.drop i))).toArray) :=
    run_copyK 9 _ _ _ _ 42 w.heap.size ((i + 1) * 9) _ _ ⟨g, i * 9, none⟩ _ _ L1 42 (flat (fs.drop i)) Tryz.underlying23 size_t hR2 (by rw [hdl]; congr 1; simp only [Nat.min_def]; split <;> omega)
      (fun j v hj => by
        rw [Addr.add_lit]
        show ((w.alloc (.cells R.toArray 42)).drew.setRow w.heap.size L1.toArray).cell? _ = _
        rw [cell_of_row _ g (i * 9 + j) cur.toArray _ (0, 0) hg3]
        have e : (flat fs).drop (i * 9) = flat (fs.drop i) := flat_drop fs i
        rw [← e, List.getElem?_drop] at hj
        have hjl := (List.getElem?_eq_some_iff.1 hj).1
        rw [fl_t] at hjl
        rw [← hL, List.getElem?_take, if_pos hjl] at hj
        simpa using hj) (by rw [hdl, hsl]; omega) (flat_one _)
  have hsl2 : (splice L1 ((i + 1) * 9) (flat (fs.drop i))).length = G * 9 := by rw [length_splice _ _ _ (by rw [hdl, hsl]; omega), hsl]
  have hR3 := setRow_heap ((w.alloc (.cells R.toArray 42)).drew.setRow w.heap.size L1.toArray).drew w.heap.size L1.toArray (splice L1 ((i + 1) * 9) (flat (fs.drop i))).toArray _ _ hR2
  generalize splice L1 ((i + 1) * 9) (flat (fs.drop i)) = L2 at *
  have HFIN : Hid (Own (((w.alloc (.cells R.toArray 42)).drew.setRow w.heap.size L1.toArray).drew.setRow w.heap.size L2.toArray) w.heap.size 42 (.slice (some ⟨w.heap.size, 0, none⟩) (fs.length + 1) G) (insR fs i f) ∧ w.grownBy (((w.alloc (.cells R.toArray 42)).drew.setRow w.heap.size L1.toArray).drew.setRow w.heap.size L2.toArray) none) := by
    refine ⟨?_, ⟨rfl, rfl, rfl, by simp [World.setRow], fun k hk _ => ?_⟩⟩
    · unfold Own
      rw [insR_len fs i f hb8]
      refine ⟨by rw [flat_len, insR_len fs i f hb8], .inr ⟨w.heap.size, G, L2.toArray, rfl, Nat.le_refl _, hR3, hGn, hGm, by rw [List.size_toArray]; exact hsl2, ?_⟩⟩
      rw [← hfin]
      rfl
    · rw [setRow_other _ w.heap.size k _ (by omega)]
      show ((w.alloc (.cells R.toArray 42)).drew.setRow w.heap.size L1.toArray).heap[k]? = _
      rw [setRow_other _ w.heap.size k _ (by omega)]
      exact Go.heap_alloc_old w _ hk
  have HRZ := Lib.hid hrz
  have HCB := Lib.hid hcpB
  clear hrz hfin hR1 hR2 hR3 hg' hg3 hg2' hcpB hL hg hg2 hR hel
  generalize tdE f = ef at *
  go_wp2_with (at_builtin; go_loud (refine Lib.wpList_append_run _ rfl _ _ _ _ rfl _ _ rfl rfl _ _ HRZ.out ?_))
  go_region_law (refine step_copy_runI rfl _ _ 23 23 rfl (.slice (some ⟨w.heap.size, (i + 1) * 9, none⟩) (fs.length + 1 - (i + 1)) (G - (i + 1))) (.slice (some ⟨g, i * 9, none⟩) (fs.length - i) (cap - i)) (by simp [Act.eval, Act.put]) (by simp [Act.eval, Act.put]) HCB.out ?_)
  all_goals go_wp2
  all_goals go_ret
  all_goals exact ⟨_, rfl, HFIN.out.1, HFIN.out.2⟩
/-- slices.Insert, wherever the new one is to stand. -/
theorem insert_t (v : Value) (fs : List TdM) (f : TdM) (i g2 base : Nat) (w : World) (hbs : base ≤ w.heap.size) (ho : Own w base 42 v fs) (h4 : fs.length ≤ 4096) (hi : i ≤ fs.length)
    (hg2 : w.heap[g2]? = some (.cells (tdE f).toArray 42 (0, 0))) (hne : v.ownBlock ≠ some g2) :
    Calls Tryz.prog 203 #[v, .int .i64 i, .slice (some ⟨g2, 0, none⟩) 1 1] w fun e w' => ∃ v', e = .returned v' ∧ Own w' base 42 v' (insR fs i f) ∧ w.grownBy w' v.ownBlock := by
  by_cases hl : i = fs.length
  · subst hl
    have := insert_end_t v fs f g2 base w hbs ho h4 (fun j u hu => by
      rw [cell_of_row w g2 j _ _ (0, 0) hg2]
      simpa using hu)
    rw [insR_end]
    exact this
  · have hlt : i < fs.length := by omega
    rcases ho.2 with ⟨_, h0⟩ | ⟨g, cap, cur, rfl, hbg, hg, hnc, hcm, hcs, hL⟩
    · omega
    · have hne2 : g2 ≠ g := fun e => hne (by rw [e]; rfl)
      have hcs : cur.size = cap * 9 := hcs
      have hL : cur.toList.take (fs.length * 9) = flat fs := hL
      have hel : (tdE f).length = 1 * 9 := rfl
      by_cases hroom : fs.length + 1 ≤ cap
      · have hdl : (flat (fs.drop i)).length = (fs.length - i) * 9 := by rw [fl_t, List.length_drop]
        have hcl : cur.toList.length = cap * 9 := by rw [Array.length_toList, hcs]
        refine (insert_room_t g cap i g2 cur.toList fs f w hlt (by simpa using hg) hcl hL hroom hcm hne2 hg2).mono ?_
        rintro e w' ⟨rfl, rfl⟩
        refine ⟨_, rfl, ?_, ⟨rfl, rfl, rfl, by simp [World.setRow], fun k _ hk => ?_⟩⟩
        · unfold Own
          rw [insR_len fs i f hi]
          refine ⟨by rw [flat_len, insR_len fs i f hi], .inr ⟨g, cap, _, rfl, hbg, setRow_heap _ g _ _ _ _ (setRow_heap w.drew g cur _ _ _ hg), hroom, hcm, ?_, ?_⟩⟩
          · rw [List.size_toArray, length_splice _ _ _ (by rw [hel, length_splice _ _ _ (by rw [hdl, hcl]; omega), hcl]; omega), length_splice _ _ _ (by rw [hdl, hcl]; omega), hcl]
            rfl
          · exact splice_ins cur.toList fs f i hi hL (by rw [hcl]; exact Nat.mul_le_mul_right _ hroom)
        · have hkg : k ≠ g := fun e => hk (by rw [e]; rfl)
          rw [setRow_other _ g k _ hkg, setRow_other _ g k _ hkg]
          rfl
      · refine (insert_grow_t g cap i g2 cur.toList fs f w hlt h4 (by simpa using hg) hL hnc hroom hg2).mono ?_
        rintro e w' ⟨v', rfl, h1, h2⟩
        exact ⟨v', rfl, h1.le hbs, ⟨h2.os, h2.tape, h2.output, h2.size, fun k hk _ => h2.block k hk (by simp)⟩⟩

set_option maxRecDepth 100000 in
set_option maxHeartbeats 4000000 in
theorem delete_t (v : Value) (fs : List TdM) (i base : Nat) (w : World) (ho : Own w base 42 v fs) (h4 : fs.length ≤ 4096) (hi : i < fs.length) :
    Calls Tryz.prog 204 #[v, .int .i64 i, .int .i64 ((i : Int) + 1)] w fun e w' => ∃ v', e = .returned v' ∧ Own w' base 42 v' (fs.eraseIdx i) ∧ w.grownBy w' v.ownBlock := by
  rcases ho.2 with ⟨_, h0⟩ | ⟨g, cap, cur, rfl, hbg, hg, hnc, hcm, hcs, hL⟩
  · omega
  · obtain ⟨i0, hi0, hz0, hz1, hz2⟩ := info_parts info_t
    have hcs : cur.size = cap * 9 := hcs
    have hL : cur.toList.take (fs.length * 9) = flat fs := hL
    have hcl : cur.toList.length = cap * 9 := by rw [Array.length_toList, hcs]
    have hg : w.heap[g]? = some (.cells cur.toList.toArray 42 (0, 0)) := by simpa using hg
    generalize cur.toList = L at *
    have hdl : (flat (fs.drop (i + 1))).length = (fs.length - (i + 1)) * 9 := by rw [flat_len, List.length_drop]; rfl
    have hcm' : cap ≤ 9223372036854775807 := by simpa [maxLen] using hcm
    have hw0 : ∀ sp sc, (i + 1 < fs.length → sp = some ⟨g, (i + 1) * 9, none⟩) → (Builtin.append_ #[23, 23] 23 #[.slice (some ⟨g, 0, none⟩) i cap, .slice sp (fs.length - (i + 1)) sc]).run Tryz.prog w.drew = .ok (.slice (some ⟨g, 0, none⟩) (i + (fs.length - (i + 1))) cap) (w.drew.setRow g (splice L (i * 9) (flat (fs.drop (i + 1)))).toArray) := by
      intro sp sc hsp
      refine run_append_in w.drew _ _ 42 i0 9 Tryz.underlying23 hi0 hz1 g i cap L 42 hg sp (fs.length - (i + 1)) sc (flat (fs.drop (i + 1))) hdl (fun hp => ⟨_, hsp (by omega), fun j v hj => ?_⟩) (flat_one _) (by omega) (by rw [hdl, hcl]; omega)
      rw [Addr.add_lit]
      show w.cell? _ = _
      rw [cell_of_row w g ((i + 1) * 9 + j) L.toArray _ (0, 0) hg]
      have e : (flat fs).drop ((i + 1) * 9) = flat (fs.drop (i + 1)) := flat_drop fs (i + 1)
      rw [← e, List.getElem?_drop] at hj
      have hjl := (List.getElem?_eq_some_iff.1 hj).1
      have e2 : (flat fs).length = fs.length * 9 := flat_len fs
      rw [e2] at hjl
      rw [← hL, List.getElem?_take, if_pos hjl] at hj
      simpa using hj
    rw [show i + (fs.length - (i + 1)) = fs.length - 1 by omega] at hw0
    have hz3 := zero_t
    have hL1 := setRow_heap w.drew g L.toArray (splice L (i * 9) (flat (fs.drop (i + 1)))).toArray _ _ hg
    have hsl : (splice L (i * 9) (flat (fs.drop (i + 1)))).length = cap * 9 := by rw [length_splice _ _ _ (by rw [hdl, hcl]; omega), hcl]
    have hfin : (splice (splice L (i * 9) (flat (fs.drop (i + 1)))) ((fs.length - 1) * 9) [.string ByteArray.empty, .int .i64 0, .int .i64 0, .int .i64 0, .slice none 0 0, .slice none 0 0, .string ByteArray.empty, .string ByteArray.empty, .int .i64 0]).take ((fs.length - 1) * 9) = flat (fs.eraseIdx i) := splice_del L [.string ByteArray.empty, .int .i64 0, .int .i64 0, .int .i64 0, .slice none 0 0, .slice none 0 0, .string ByteArray.empty, .string ByteArray.empty, .int .i64 0] fs i hi hL
    generalize splice L (i * 9) (flat (fs.drop (i + 1))) = L1 at *
    have hclr : ∀ m c, m = 1 → (Builtin.clear_ #[23] 0 #[.slice (some ⟨g, (fs.length - 1) * 9, none⟩) m c]).run Tryz.prog (w.drew.setRow g L1.toArray) = .ok (.tuple #[]) ((w.drew.setRow g L1.toArray).setRow g (splice L1 ((fs.length - 1) * 9) [.string ByteArray.empty, .int .i64 0, .int .i64 0, .int .i64 0, .slice none 0 0, .slice none 0 0, .string ByteArray.empty, .string ByteArray.empty, .int .i64 0]).toArray) := fun m c hm => by
      subst hm
      exact run_clear_one _ _ _ 42 _ 9 g _ c L1 42 Tryz.underlying23 (hz3 _) rfl (by intro v hv; simp [Value.cells] at hv; rcases hv with rfl | rfl | rfl | rfl | rfl <;> rfl) hL1 (by rw [hsl]; omega)
    have hw1 : IntKind.i64.wrap ((i : Int) + 1) = (i : Int) + 1 := by rw [IntKind.wrap_i64]; omega
    have ht0 : (i : Int) + 1 ≤ (fs.length : Int) := by omega
    have ht1 : (0 : Int) ≤ (i : Int) + 1 := by omega
    have ht2 : (i : Int) ≤ (i : Int) + 1 := by omega
    have ht3 : ((i : Int) + 1).toNat = i + 1 := by omega
    have ht4 : ¬ ((i : Int) = (i : Int) + 1) := by omega
    have ht5 : (fs.length : Int) ≤ (cap : Int) := by omega
    have ht6 : (i : Int) ≤ (fs.length : Int) := by omega
    have ht7 : (i : Int) ≤ (cap : Int) := by omega
    have hnf : ¬ (fs.length = i) := by omega
    have hnc2 : ¬ (cap = i) := by omega
    go_enter Tryz.func204, Tryz.ntmps204
    go_wp2
    have HW0 := Lib.hid hw0
    have HCL := Lib.hid hclr
    have HFIN : Hid (Own ((w.drew.setRow g L1.toArray).setRow g (splice L1 ((fs.length - 1) * 9) [.string ByteArray.empty, .int .i64 0, .int .i64 0, .int .i64 0, .slice none 0 0, .slice none 0 0, .string ByteArray.empty, .string ByteArray.empty, .int .i64 0]).toArray) base 42 (.slice (some ⟨g, 0, none⟩) (fs.length - 1) cap) (fs.eraseIdx i) ∧ w.grownBy ((w.drew.setRow g L1.toArray).setRow g (splice L1 ((fs.length - 1) * 9) [.string ByteArray.empty, .int .i64 0, .int .i64 0, .int .i64 0, .slice none 0 0, .slice none 0 0, .string ByteArray.empty, .string ByteArray.empty, .int .i64 0]).toArray) (some g)) := by
      have hel : (fs.eraseIdx i).length = fs.length - 1 := by rw [List.length_eraseIdx_of_lt hi]
      refine ⟨?_, ⟨rfl, rfl, rfl, by simp [World.setRow], fun k _ hk => ?_⟩⟩
      · unfold Own
        rw [hel]
        refine ⟨by rw [flat_len, hel], .inr ⟨g, cap, _, rfl, hbg, setRow_heap _ g _ _ _ _ hL1, by omega, hcm, ?_, ?_⟩⟩
        · rw [List.size_toArray, length_splice _ _ _ (by rw [hsl]; simp; omega), hsl]; rfl
        · exact hfin
      · have hkg : k ≠ g := fun e => hk (by rw [e])
        rw [setRow_other _ g k _ hkg, setRow_other _ g k _ hkg]
        rfl
    clear hclr hw0 hfin hL1 hg ho hz3
    by_cases hce : cap = i + 1
    · subst hce
      have hfi : fs.length = i + 1 := by omega
      go_region_law (refine step_append_runI rfl _ _ 23 23 rfl (.slice (some ⟨g, 0, none⟩) i (i + 1)) (.slice (some ⟨g, 0, none⟩) (fs.length - (i + 1)) 0) (by simp [Act.eval, Act.put]) (by simp [Act.eval, Act.put]; omega) (HW0.out _ _ (fun h => absurd h (by omega))) ?_)
      have h7 := HCL.out 1 1 rfl
      rw [hfi] at h7 HFIN
      simp only [Nat.add_sub_cancel] at h7 HFIN
      all_goals go_wp2
      all_goals go_ret
      all_goals exact ⟨_, rfl, HFIN.out.1, HFIN.out.2⟩
    · go_region_law (refine step_append_runI rfl _ _ 23 23 rfl (.slice (some ⟨g, 0, none⟩) i cap) (.slice (some ⟨g, (i + 1) * 9, none⟩) (fs.length - (i + 1)) (cap - (i + 1))) (by simp [Act.eval, Act.put]) (by simp [Act.eval, Act.put]) (HW0.out _ _ (fun _ => rfl)) ?_)
      have h7 := HCL.out (fs.length - (fs.length - 1)) (cap - (fs.length - 1)) (by omega)
      all_goals go_wp2
      all_goals go_ret
      all_goals exact ⟨_, rfl, HFIN.out.1, HFIN.out.2⟩
end Bo
end Go.Proofs.YthbmnkeigmbbdaaGreat

/-
  BINDS OF THE CALL's OWN: slices.Clone, slices.Insert, slices.Delete.
-/
namespace Go.Proofs.YthbmnkeigmbbdaaGreat
open Go.RowKit Go.Lib Go.Sort
namespace Bo
open Rw
set_option linter.unusedVariables false
theorem info_b : (Tryz.prog.info? 106).map (fun i => (i.zero, i.size, i.bytes)) = some (some (.agg #[.string ByteArray.empty, .string ByteArray.empty]), 2, 32) := by kernel_rfl
theorem size_b : (Tryz.prog.info? 106).map (·.size) = some 2 := by kernel_rfl
theorem zero_b (w : World) : (zeroValue 106).run Tryz.prog w = .ok (.agg #[.string ByteArray.empty, .string ByteArray.empty]) w := by
  obtain ⟨i0, hi0, hz0, hz1, hz2⟩ := info_parts info_b
  simp [zeroValue, typeInfo, hi0, hz0]
theorem fl_b (l : List Rg.Pr) : (flat l).length = l.length * 2 := flat_len l

set_option maxHeartbeats 1000000 in
theorem clone_b (v : Value) (l : List Rg.Pr) (w : World) {A : Nat} (hv : Sl w A w.heap.size v l) (hby : l.length * 32 ≤ 140737488355328) :
    Calls Tryz.prog 94 #[v] w fun e w' => ∃ v', e = .returned v' ∧ Own w' w.heap.size 106 v' l ∧ Below w.heap.size w w' := by
  have q22 : ∀ (w : World) (a : Option Addr) (n c n' c' : Nat), (binOp .eql 24 (.slice a n c) (.slice none n' c')).run Tryz.prog w = .ok (.bool a.isNone) w := fun w a n c n' c' => Lib.run_eql_slice_nil w _ _ a n c n' c' Tryz.underlying24
  have hv2 := hv
  obtain ⟨a, c, rfl, hc0, hnil, hl, hc⟩ := hv
  cases a with
  | none =>
    have h0 : l = [] := List.eq_nil_of_length_eq_zero (by have := hnil rfl; omega)
    subst h0
    clear hc hv2 hl hnil hc0
    go_enter Tryz.func94, Tryz.ntmps94
    go_wp2
    go_ret
    exact ⟨_, rfl, Own.nil _ _ _, Below.refl _ _⟩
  | some ad =>
    obtain ⟨i0, hi, hz0, hz1, hz2⟩ := info_parts info_b
    have A := Lib.hid hv2.news
    have hmx : l.length ≤ maxLen := by simp only [maxLen]; omega
    have hl3 : (flat l).length = l.length * 2 := flat_len l
    have h1 := flat_one l
    have HLL := Lib.hid hby
    clear hc hv2 hnil hc0
    have H3 := Lib.hid hl3
    have H1 := Lib.hid h1
    clear hl3 h1 hby
    have HF : Hid (∀ (w1 : World) (v' : Value), w1.ownsRow w.heap.size 106 2 v' l.length (flat l) → Own w1 w.heap.size 106 v' l) := fun _ _ h => h
    generalize flat l = xs at A H3 H1 HF
    go_enter Tryz.func94, Tryz.ntmps94
    go_wp2_with (at_builtin; refine wpList_append_own _ rfl _ _ 24 rfl w.heap.size 106 i0 _ 2 32 Tryz.underlying24 hi hz0 hz1 hz2 rfl (by omega) _ _ _ rfl (World.ownsRow_made w #[] 0 (Nat.le_refl _) (Nat.zero_le _) (by simp)) ad l.length c xs rfl H3.out (fun j u hj => Lib.cell?_alloc_some _ (A.out j u hj)) H1.out (by rw [Nat.zero_add]; exact hmx) (by rw [Nat.zero_add]; exact HLL.out) (by simp) ?_; intro v' w1 hown hgrow hnil)
    go_ret
    exact ⟨_, rfl, HF.out _ _ (by simpa using hown), ((Below.refl _ w).alloc (Nat.le_refl _) _).grown hgrow (by simp) (fun k hk => Nat.le_of_eq (Option.some.inj hk))⟩

theorem zlen_b (k : Nat) : (Builtin.zeroCells (Value.agg #[.string ByteArray.empty, .string ByteArray.empty]).cells k).size = k * 2 := by simp [Builtin.zeroCells, Value.cells]
set_option maxRecDepth 100000 in
set_option maxHeartbeats 2000000 in
theorem insert_end_b (v : Value) (fs : List Rg.Pr) (f : Rg.Pr) (g2 : Nat) (base : Nat) (w : World) (hbs : base ≤ w.heap.size) (ho : Own w base 106 v fs) (h4 : fs.length ≤ 4096)
    (hg : ∀ j u, (bdE f)[j]? = some u → w.cell? ⟨g2, j, none⟩ = some u) :
    Calls Tryz.prog 169 #[v, .int .i64 fs.length, .slice (some ⟨g2, 0, none⟩) 1 1] w fun e w' => ∃ v', e = .returned v' ∧ Own w' base 106 v' (fs ++ [f]) ∧ w.grownBy w' v.ownBlock := by
  have HG : Hid (∀ j u, (bdE f)[j]? = some u → w.cell? ((⟨g2, 0, none⟩ : Addr).add j) = some u) := by
    intro j u hu
    rw [Addr.add_lit, Nat.zero_add]
    exact hg j u hu
  have HL : Hid ((bdE f).length = 1 * 2) := rfl
  have H1 := Lib.hid (bdE_one f)
  obtain ⟨i0, hi, hz0, hz1, hz2⟩ := info_parts info_b
  have HE : Hid (∀ w' v', w'.ownsRow base 106 2 v' (fs.length + 1) (flat fs ++ bdE f) → Own w' base 106 v' (fs ++ [f])) := fun w' v' h => Own.snoc h
  have hmx : fs.length + 1 ≤ maxLen := by simp only [maxLen]; omega
  have HM := Lib.hid hmx
  have HO := Lib.hid ho
  clear hg hmx
  rcases ho.forms with ⟨rfl, rfl⟩ | ⟨g, cap, rfl, hbg, hgl, hcap, hcm⟩
  · clear ho
    generalize bdE f = ef at *
    go_enter Tryz.func169, Tryz.ntmps169
    go_wp2_with (at_builtin; refine wpList_append_own _ rfl _ _ 24 rfl base 106 i0 _ 2 32 Tryz.underlying24 hi hz0 hz1 hz2 rfl (by omega) (.slice none 0 0) 0 [] rfl (World.ownsRow_nil _ _ _ _) ⟨g2, 0, none⟩ 1 1 ef rfl HL.out HG.out H1.out (by simp [maxLen]) (by omega) hbs ?_; intro v' w1 hown hgrow hnil)
    go_ret
    exact ⟨v', rfl, HE.out _ _ (by simpa [flat] using hown), hgrow⟩
  · generalize hx : flat fs = xs at *
    have hox : w.ownsRow base 106 2 (.slice (some ⟨g, 0, none⟩) fs.length cap) fs.length xs := by rw [← hx]; exact ho
    have HOX := Lib.hid hox
    clear ho hox hx HO
    generalize bdE f = ef at *
    have t1 : (fs.length : Int) ≤ (cap : Int) := by omega
    go_enter Tryz.func169, Tryz.ntmps169
    go_wp2_with (at_builtin; refine wpList_append_own _ rfl _ _ 24 rfl base 106 i0 _ 2 32 Tryz.underlying24 hi hz0 hz1 hz2 rfl (by omega) (.slice (some ⟨g, 0, none⟩) fs.length cap) fs.length xs rfl HOX.out ⟨g2, 0, none⟩ 1 1 ef rfl HL.out HG.out H1.out HM.out (by omega) hbs ?_; intro v' w1 hown hgrow hnil)
    all_goals go_ret
    all_goals exact ⟨v', rfl, HE.out _ _ hown, hgrow⟩
set_option maxRecDepth 100000 in
set_option maxHeartbeats 4000000 in
theorem insert_room_b (g cap i g2 : Nat) (cur : List Value) (fs : List Rg.Pr) (f : Rg.Pr) (w : World) (hi : i < fs.length) (hg : w.heap[g]? = some (.cells cur.toArray 106 (0, 0))) (hcl : cur.length = cap * 2) (hL : cur.take (fs.length * 2) = flat fs)
    (hroom : fs.length + 1 ≤ cap) (hcm : cap ≤ maxLen) (hne : g2 ≠ g) (hg2 : w.heap[g2]? = some (.cells (bdE f).toArray 106 (0, 0))) :
    Calls Tryz.prog 169 #[.slice (some ⟨g, 0, none⟩) fs.length cap, .int .i64 i, .slice (some ⟨g2, 0, none⟩) 1 1] w fun e w' =>
      e = .returned (.slice (some ⟨g, 0, none⟩) (fs.length + 1) cap) ∧ w' = (w.drew.setRow g (splice cur ((i + 1) * 2) (flat (fs.drop i))).toArray).setRow g (splice (splice cur ((i + 1) * 2) (flat (fs.drop i))) (i * 2) (bdE f)).toArray := by
  have hov : ∀ off lb cb, (callFunc 206 #[.slice (some ⟨g2, 0, none⟩) 1 1, .slice (some ⟨g, off, none⟩) lb cb]).run Tryz.prog w = .ok (.value (.bool false)) w := fun off lb cb => by
    rw [run_callFunc_extern Tryz.func206 (by kernel_rfl) (by kernel_rfl) (by kernel_rfl) (e := Extern.SlicesOverlaps.overlaps #[24, 24] #[4]) (by kernel_rfl),
      Lib.run_overlaps_apart w 24 4 106 Tryz.underlying24 2 Tryz.sizeOf106 ⟨g2, 0, none⟩ ⟨g, off, none⟩ 1 1 lb cb hne 106 106 2 cur.length (by simp [World.shape?, hg2, bdE]) (by simp [World.shape?, hg]) (by omega) (by simp [World.frozen?, hg2]) (by simp [World.frozen?, hg2])]
    rfl
  have hdl : (flat (fs.drop i)).length = (fs.length - i) * 2 := by rw [fl_b, List.length_drop]
  have hcp1 : (Builtin.copy_ #[24, 24] 3 #[.slice (some ⟨g, (i + 1) * 2, none⟩) (fs.length + 1 - (i + 1)) (cap - (i + 1)), .slice (some ⟨g, i * 2, none⟩) (fs.length + 1 - i) (cap - i)]).run Tryz.prog w.drew = .ok (goInt (Nat.min (fs.length + 1 - i) (fs.length + 1 - (i + 1)) : Nat)) (w.drew.setRow g (splice cur ((i + 1) * 2) (flat (fs.drop i))).toArray) :=
    run_copyK 2 w.drew _ _ _ 106 g ((i + 1) * 2) _ _ ⟨g, i * 2, none⟩ _ _ cur 106 (flat (fs.drop i)) Tryz.underlying24 size_b hg (by rw [hdl]; congr 1; simp only [Nat.min_def]; split <;> omega)
      (fun j v hj => by
        rw [Addr.add_lit]
        show w.cell? _ = _
        rw [cell_of_row w g (i * 2 + j) cur.toArray _ (0, 0) hg]
        have e : (flat fs).drop (i * 2) = flat (fs.drop i) := flat_drop fs i
        rw [← e, List.getElem?_drop] at hj
        have hjl := (List.getElem?_eq_some_iff.1 hj).1
        rw [fl_b] at hjl
        rw [← hL, List.getElem?_take, if_pos hjl] at hj
        simpa using hj) (by rw [hdl, hcl]; omega) (flat_one _)
  have hW1 : (w.drew.setRow g (splice cur ((i + 1) * 2) (flat (fs.drop i))).toArray).heap[g]? = some (.cells (splice cur ((i + 1) * 2) (flat (fs.drop i))).toArray 106 (0, 0)) := setRow_heap w.drew g cur.toArray _ _ _ hg
  have hW2 : (w.drew.setRow g (splice cur ((i + 1) * 2) (flat (fs.drop i))).toArray).heap[g2]? = some (.cells (bdE f).toArray 106 (0, 0)) := (setRow_other w.drew g g2 _ hne).trans hg2
  have hsl : (splice cur ((i + 1) * 2) (flat (fs.drop i))).length = cap * 2 := by rw [length_splice _ _ _ (by rw [hdl, hcl]; omega), hcl]
  have hel : (bdE f).length = 1 * 2 := rfl
  generalize splice cur ((i + 1) * 2) (flat (fs.drop i)) = L1 at *
  have hcp2 : (Builtin.copy_ #[24, 24] 3 #[.slice (some ⟨g, i * 2, none⟩) (fs.length + 1 - i) (cap - i), .slice (some ⟨g2, 0, none⟩) 1 1]).run Tryz.prog (w.drew.setRow g L1.toArray) = .ok (goInt (Nat.min 1 (fs.length + 1 - i) : Nat)) ((w.drew.setRow g L1.toArray).setRow g (splice L1 (i * 2) (bdE f)).toArray) :=
    run_copyK 2 _ _ _ _ 106 g (i * 2) _ _ ⟨g2, 0, none⟩ _ _ L1 106 (bdE f) Tryz.underlying24 size_b hW1 (by rw [hel]; congr 1; simp only [Nat.min_def]; split <;> omega)
      (fun j v hj => by
        rw [Addr.add_lit, Nat.zero_add]
        rw [cell_of_row _ g2 j _ _ (0, 0) hW2]
        simpa using hj) (by rw [hel, hsl]; omega) (bdE_one f)
  have hcm' : cap ≤ 9223372036854775807 := by simpa [maxLen] using hcm
  have hz2 : ¬ ((i : Int) = (fs.length : Int)) := by omega
  have hw1 : IntKind.i64.wrap ((i : Int) + 1) = (i : Int) + 1 := by rw [IntKind.wrap_i64]; omega
  have hw2 : IntKind.i64.wrap ((fs.length : Int) + 1) = (fs.length : Int) + 1 := by rw [IntKind.wrap_i64]; omega
  have hb1 : (0 : Int) ≤ (i : Int) + 1 := by omega
  have hb2 : ¬ (cap = i + 1) := by omega
  have hb3 : (i : Int) ≤ (fs.length : Int) + 1 := by omega
  have hb4 : ¬ (cap = i) := by omega
  have hb5 : ¬ ((cap : Int) < (fs.length : Int) + 1) := by omega
  have hb6 : (fs.length : Int) + 1 ≤ (cap : Int) := by omega
  have hb7 : (i : Int) ≤ (fs.length : Int) := by omega
  have hb8 : i ≤ fs.length := by omega
  have hb9 : decide ((cap : Int) < (fs.length : Int) + 1) = false := by simp; omega
  have hb10 : (i : Int) + 1 ≤ (fs.length : Int) + 1 := by omega
  have htn : ((i : Int) + 1).toNat = i + 1 := by omega
  have htn2 : ((fs.length : Int) + 1).toNat = fs.length + 1 := by omega
  generalize bdE f = ef at *
  go_enter Tryz.func169, Tryz.ntmps169
  go_wp2_with (simp only [hov])
  have HC2 := Lib.hid hcp2
  have HC1 := Lib.hid hcp1
  clear hcp1 hcp2 hL hg hg2 hov hW1 hW2 hel hdl hsl hcl
  go_region_law (refine step_copy_runI rfl _ _ 24 24 rfl (.slice (some ⟨g, (i + 1) * 2, none⟩) (fs.length + 1 - (i + 1)) (cap - (i + 1))) (.slice (some ⟨g, i * 2, none⟩) (fs.length + 1 - i) (cap - i)) (by simp [Act.eval, Act.put]) (by simp [Act.eval, Act.put]) HC1.out ?_)
  all_goals have hcp3 := HC2.out
  all_goals go_wp2
  all_goals go_ret
  all_goals exact ⟨rfl, rfl⟩
set_option maxRecDepth 100000 in
set_option maxHeartbeats 4000000 in
theorem insert_grow_b (g cap i g2 : Nat) (cur : List Value) (fs : List Rg.Pr) (f : Rg.Pr) (w : World) (hi : i < fs.length) (h4 : fs.length ≤ 4096) (hg : w.heap[g]? = some (.cells cur.toArray 106 (0, 0))) (hL : cur.take (fs.length * 2) = flat fs)
    (hnc : fs.length ≤ cap) (hroom : ¬ (fs.length + 1 ≤ cap)) (hg2 : w.heap[g2]? = some (.cells (bdE f).toArray 106 (0, 0))) :
    Calls Tryz.prog 169 #[.slice (some ⟨g, 0, none⟩) fs.length cap, .int .i64 i, .slice (some ⟨g2, 0, none⟩) 1 1] w fun e w' =>
      ∃ v', e = .returned v' ∧ Own w' w.heap.size 106 v' (insR fs i f) ∧ w.grownBy w' none := by
  obtain ⟨i0, hi0, hz0, hz1, hz2⟩ := info_parts info_b
  have hgw : g < w.heap.size := (Array.getElem?_eq_some_iff.1 hg).1
  have hg2w : g2 < w.heap.size := (Array.getElem?_eq_some_iff.1 hg2).1
  have hel : (bdE f).length = 1 * 2 := rfl
  have ht : (flat (fs.take i)).length = i * 2 := by rw [fl_b, List.length_take]; congr 1; omega
  have hold : (Builtin.firstCells i0.size i (.slice (some ⟨g, 0, none⟩) i cap)).run Tryz.prog w.drew = .ok (flat (fs.take i)).toArray w.drew := by
    rw [hz1]
    refine run_firstCells_some w.drew 2 i ⟨g, 0, none⟩ i cap (flat (fs.take i)) ht (fun j v hj => ?_)
    rw [Addr.add_lit, Nat.zero_add]
    show w.cell? _ = _
    rw [cell_of_row w g j cur.toArray _ (0, 0) hg]
    have e : (flat fs).take (i * 2) = flat (fs.take i) := flat_take fs i
    rw [← e, List.getElem?_take] at hj
    split at hj
    · have hjl := (List.getElem?_eq_some_iff.1 hj).1
      rw [fl_b] at hjl
      rw [← hL, List.getElem?_take, if_pos hjl] at hj
      simpa using hj
    · cases hj
  have hik : i + (fs.length + 1 - i) = fs.length + 1 := by omega
  have hkk : (fs.length : Int) + 1 - (i : Int) = ((fs.length + 1 - i : Nat) : Int) := by omega
  have hrz := Lib.run_append_grow_zeros (P := Tryz.prog) w 24 3 24 106 i0 _ .i64 .i64 Tryz.underlying24 Tryz.underlying3 hi0 hz0 (some ⟨g, 0, none⟩) i cap (flat (fs.take i)) hold (fs.length + 1 - i) (by omega) (by rw [hz1]; omega) (by omega) (by omega) (by rw [hz2]; omega) (by rw [hz2, hik]; exact growslice_fits (by omega) (by omega))
  rw [hik] at hrz
  have hGn := grownCap_ge w (fs.length + 1) cap 106
  have hGm := grownCap_le_maxLen w (fs.length + 1) cap 106 (by unfold maxLen; omega)
  generalize grownCap w (fs.length + 1) cap 106 = G at *
  obtain ⟨Z, hZ, hZl⟩ : ∃ Z : List Value, (flat (fs.take i)).toArray ++ Builtin.zeroCells (Value.agg #[.string ByteArray.empty, .string ByteArray.empty]).cells (fs.length + 1 - i) ++ Builtin.zeroCells (Value.agg #[.string ByteArray.empty, .string ByteArray.empty]).cells (G - (fs.length + 1)) = (flat (fs.take i) ++ Z).toArray ∧ Z.length = (G - i) * 2 := by
    refine ⟨(Builtin.zeroCells (Value.agg #[.string ByteArray.empty, .string ByteArray.empty]).cells (fs.length + 1 - i) ++ Builtin.zeroCells (Value.agg #[.string ByteArray.empty, .string ByteArray.empty]).cells (G - (fs.length + 1))).toList, ?_, ?_⟩
    · apply Array.ext'; simp
    · simp only [Array.toList_append, List.length_append, Array.length_toList, zlen_b]; omega
  rw [hZ] at hrz
  clear hZ hold
  have hGm' : G ≤ 9223372036854775807 := by simpa [maxLen] using hGm
  have hz2' : ¬ ((i : Int) = (fs.length : Int)) := by omega
  have hw1 : IntKind.i64.wrap ((i : Int) + 1) = (i : Int) + 1 := by rw [IntKind.wrap_i64]; omega
  have hw2 : IntKind.i64.wrap ((fs.length : Int) + 1) = (fs.length : Int) + 1 := by rw [IntKind.wrap_i64]; omega
  have hw3 : IntKind.i64.wrap ((fs.length : Int) + 1 - (i : Int)) = ((fs.length + 1 - i : Nat) : Int) := by rw [IntKind.wrap_i64]; omega
  have hb1 : (0 : Int) ≤ (i : Int) + 1 := by omega
  have hb2 : ¬ (G = i + 1) := by omega
  have hb3 : (i : Int) ≤ (fs.length : Int) + 1 := by omega
  have hb4 : ¬ (G = i) := by omega
  have hb5 : (cap : Int) < (fs.length : Int) + 1 := by omega
  have hb7 : (i : Int) ≤ (fs.length : Int) := by omega
  have hb8 : i ≤ fs.length := by omega
  have hb9 : ¬ (cap = i) := by omega
  have hb10 : (i : Int) + 1 ≤ (fs.length : Int) + 1 := by omega
  have hb11 : (i : Int) ≤ (cap : Int) := by omega
  have htn : ((i : Int) + 1).toNat = i + 1 := by omega
  have htn2 : ((fs.length : Int) + 1).toNat = fs.length + 1 := by omega
  go_enter Tryz.func169, Tryz.ntmps169
  obtain ⟨R, hR⟩ : ∃ R, R = flat (fs.take i) ++ Z := ⟨_, rfl⟩
  rw [← hR] at hrz
  have hRl : R.length = G * 2 := by rw [hR, List.length_append, ht, hZl]; omega
  have hR1 : (w.alloc (.cells R.toArray 106)).drew.heap[w.heap.size]? = some (.cells R.toArray 106 (0, 0)) := heap_alloc_new w _
  have hg2' : (w.alloc (.cells R.toArray 106)).drew.heap[g2]? = some (.cells (bdE f).toArray 106 (0, 0)) := by rw [← hg2]; exact Go.heap_alloc_old w _ hg2w
  have hg' : (w.alloc (.cells R.toArray 106)).drew.heap[g]? = some (.cells cur.toArray 106 (0, 0)) := by rw [← hg]; exact Go.heap_alloc_old w _ hgw
  have hcpA : (Builtin.copy_ #[24, 24] 3 #[.slice (some ⟨w.heap.size, i * 2, none⟩) (fs.length + 1 - i) (G - i), .slice (some ⟨g2, 0, none⟩) 1 1]).run Tryz.prog (w.alloc (.cells R.toArray 106)).drew = .ok (goInt (Nat.min 1 (fs.length + 1 - i) : Nat)) ((w.alloc (.cells R.toArray 106)).drew.setRow w.heap.size (splice R (i * 2) (bdE f)).toArray) :=
    run_copyK 2 _ _ _ _ 106 w.heap.size (i * 2) _ _ ⟨g2, 0, none⟩ _ _ R 106 (bdE f) Tryz.underlying24 size_b hR1 (by rw [hel]; congr 1; simp only [Nat.min_def]; split <;> omega)
      (fun j v hj => by
        rw [Addr.add_lit, Nat.zero_add]
        rw [cell_of_row _ g2 j _ _ (0, 0) hg2']
        simpa using hj) (by rw [hel, hRl]; omega) (bdE_one f)
  have hdl : (flat (fs.drop i)).length = (fs.length - i) * 2 := by rw [fl_b, List.length_drop]
  have hsl : (splice R (i * 2) (bdE f)).length = G * 2 := by rw [length_splice _ _ _ (by rw [hel, hRl]; omega), hRl]
  have hfin : (splice (splice (flat (fs.take i) ++ Z) (i * 2) (bdE f)) ((i + 1) * 2) (flat (fs.drop i))).take ((fs.length + 1) * 2) = flat (insR fs i f) := splice_new Z fs f i hb8
  rw [← hR] at hfin
  have hR2 := setRow_heap (w.alloc (.cells R.toArray 106)).drew w.heap.size R.toArray (splice R (i * 2) (bdE f)).toArray _ _ hR1
  have hg3 : ((w.alloc (.cells R.toArray 106)).drew.setRow w.heap.size (splice R (i * 2) (bdE f)).toArray).heap[g]? = some (.cells cur.toArray 106 (0, 0)) := (setRow_other _ w.heap.size g _ (by omega)).trans hg'
  generalize splice R (i * 2) (bdE f) = L1 at *
  have hcpB : (Builtin.copy_ #[24, 24] 3 #[.slice (some ⟨w.heap.size, (i + 1) * 2, none⟩) (fs.length + 1 - (i + 1)) (G - (i + 1)), .slice (some ⟨g, i * 2, none⟩) (fs.length - i) (cap - i)]).run Tryz.prog ((w.alloc (.cells R.toArray 106)).drew.setRow w.heap.size L1.toArray).drew = .ok (goInt (Nat.min (fs.length - i) (fs.length + 1 - (i + 1)) : Nat)) (((w.alloc (.cells R.toArray 106)).drew.setRow w.heap.size L1.toArray).drew.setRow w.heap.size (splice L1 ((i + 1) * 2) (flat (fs.drop i))).toArray) :=
    run_copyK 2 _ _ _ _ 106 w.heap.size ((i + 1) * 2) _ _ ⟨g, i * 2, none⟩ _ _ L1 106 (flat (fs.drop i)) Tryz.underlying24 size_b hR2 (by rw [hdl]; congr 1; simp only [Nat.min_def]; split <;> omega)
      (fun j v hj => by
        rw [Addr.add_lit]
        show ((w.alloc (.cells R.toArray 106)).drew.setRow w.heap.size L1.toArray).cell? _ = _
        rw [cell_of_row _ g (i * 2 + j) cur.toArray _ (0, 0) hg3]
        have e : (flat fs).drop (i * 2) = flat (fs.drop i) := flat_drop fs i
        rw [← e, List.getElem?_drop] at hj
        have hjl := (List.getElem?_eq_some_iff.1 hj).1
        rw [fl_b] at hjl
        rw [← hL, List.getElem?_take, if_pos hjl] at hj
        simpa using hj) (by rw [hdl, hsl]; omega) (flat_one _)
  have hsl2 : (splice L1 ((i + 1) * 2) (flat (fs.drop i))).length = G * 2 := by rw [length_splice _ _ _ (by rw [hdl, hsl]; omega), hsl]
  have hR3 := setRow_heap ((w.alloc (.cells R.toArray 106)).drew.setRow w.heap.size L1.toArray).drew w.heap.size L1.toArray (splice L1 ((i + 1) * 2) (flat (fs.drop i))).toArray _ _ hR2
  generalize splice L1 ((i + 1) * 2) (flat (fs.drop i)) = L2 at *
  have HFIN : Hid (Own (((w.alloc (.cells R.toArray 106)).drew.setRow w.heap.size L1.toArray).drew.setRow w.heap.size L2.toArray) w.heap.size 106 (.slice (some ⟨w.heap.size, 0, none⟩) (fs.length + 1) G) (insR fs i f) ∧ w.grownBy (((w.alloc (.cells R.toArray 106)).drew.setRow w.heap.size L1.toArray).drew.setRow w.heap.size L2.toArray) none) := by
    refine ⟨?_, ⟨rfl, rfl, rfl, by simp [World.setRow], fun k hk _ => ?_⟩⟩
    · unfold Own
      rw [insR_len fs i f hb8]
      refine ⟨by rw [flat_len, insR_len fs i f hb8], .inr ⟨w.heap.size, G, L2.toArray, rfl, Nat.le_refl _, hR3, hGn, hGm, by rw [List.size_toArray]; exact hsl2, ?_⟩⟩
      rw [← hfin]
      rfl
    · rw [setRow_other _ w.heap.size k _ (by omega)]
      show ((w.alloc (.cells R.toArray 106)).drew.setRow w.heap.size L1.toArray).heap[k]? = _
      rw [setRow_other _ w.heap.size k _ (by omega)]
      exact Go.heap_alloc_old w _ hk
  have HRZ := Lib.hid hrz
  have HCB := Lib.hid hcpB
  clear hrz hfin hR1 hR2 hR3 hg' hg3 hg2' hcpB hL hg hg2 hR hel
  generalize bdE f = ef at *
  go_wp2_with (at_builtin; go_loud (refine Lib.wpList_append_run _ rfl _ _ _ _ rfl _ _ rfl rfl _ _ HRZ.out ?_))
  go_region_law (refine step_copy_runI rfl _ _ 24 24 rfl (.slice (some ⟨w.heap.size, (i + 1) * 2, none⟩) (fs.length + 1 - (i + 1)) (G - (i + 1))) (.slice (some ⟨g, i * 2, none⟩) (fs.length - i) (cap - i)) (by simp [Act.eval, Act.put]) (by simp [Act.eval, Act.put]) HCB.out ?_)
  all_goals go_wp2
  all_goals go_ret
  all_goals exact ⟨_, rfl, HFIN.out.1, HFIN.out.2⟩
/-- slices.Insert, wherever the new one is to stand. -/
theorem insert_b (v : Value) (fs : List Rg.Pr) (f : Rg.Pr) (i g2 base : Nat) (w : World) (hbs : base ≤ w.heap.size) (ho : Own w base 106 v fs) (h4 : fs.length ≤ 4096) (hi : i ≤ fs.length)
    (hg2 : w.heap[g2]? = some (.cells (bdE f).toArray 106 (0, 0))) (hne : v.ownBlock ≠ some g2) :
    Calls Tryz.prog 169 #[v, .int .i64 i, .slice (some ⟨g2, 0, none⟩) 1 1] w fun e w' => ∃ v', e = .returned v' ∧ Own w' base 106 v' (insR fs i f) ∧ w.grownBy w' v.ownBlock := by
  by_cases hl : i = fs.length
  · subst hl
    have := insert_end_b v fs f g2 base w hbs ho h4 (fun j u hu => by
      rw [cell_of_row w g2 j _ _ (0, 0) hg2]
      simpa using hu)
    rw [insR_end]
    exact this
  · have hlt : i < fs.length := by omega
    rcases ho.2 with ⟨_, h0⟩ | ⟨g, cap, cur, rfl, hbg, hg, hnc, hcm, hcs, hL⟩
    · omega
    · have hne2 : g2 ≠ g := fun e => hne (by rw [e]; rfl)
      have hcs : cur.size = cap * 2 := hcs
      have hL : cur.toList.take (fs.length * 2) = flat fs := hL
      have hel : (bdE f).length = 1 * 2 := rfl
      by_cases hroom : fs.length + 1 ≤ cap
      · have hdl : (flat (fs.drop i)).length = (fs.length - i) * 2 := by rw [fl_b, List.length_drop]
        have hcl : cur.toList.length = cap * 2 := by rw [Array.length_toList, hcs]
        refine (insert_room_b g cap i g2 cur.toList fs f w hlt (by simpa using hg) hcl hL hroom hcm hne2 hg2).mono ?_
        rintro e w' ⟨rfl, rfl⟩
        refine ⟨_, rfl, ?_, ⟨rfl, rfl, rfl, by simp [World.setRow], fun k _ hk => ?_⟩⟩
        · unfold Own
          rw [insR_len fs i f hi]
          refine ⟨by rw [flat_len, insR_len fs i f hi], .inr ⟨g, cap, _, rfl, hbg, setRow_heap _ g _ _ _ _ (setRow_heap w.drew g cur _ _ _ hg), hroom, hcm, ?_, ?_⟩⟩
          · rw [List.size_toArray, length_splice _ _ _ (by rw [hel, length_splice _ _ _ (by rw [hdl, hcl]; omega), hcl]; omega), length_splice _ _ _ (by rw [hdl, hcl]; omega), hcl]
            rfl
          · exact splice_ins cur.toList fs f i hi hL (by rw [hcl]; exact Nat.mul_le_mul_right _ hroom)
        · have hkg : k ≠ g := fun e => hk (by rw [e]; rfl)
          rw [setRow_other _ g k _ hkg, setRow_other _ g k _ hkg]
          rfl
      · refine (insert_grow_b g cap i g2 cur.toList fs f w hlt h4 (by simpa using hg) hL hnc hroom hg2).mono ?_
        rintro e w' ⟨v', rfl, h1, h2⟩
        exact ⟨v', rfl, h1.le hbs, ⟨h2.os, h2.tape, h2.output, h2.size, fun k hk _ => h2.block k hk (by simp)⟩⟩

set_option maxRecDepth 100000 in
set_option maxHeartbeats 4000000 in
theorem delete_b (v : Value) (fs : List Rg.Pr) (i base : Nat) (w : World) (ho : Own w base 106 v fs) (h4 : fs.length ≤ 4096) (hi : i < fs.length) :
    Calls Tryz.prog 205 #[v, .int .i64 i, .int .i64 ((i : Int) + 1)] w fun e w' => ∃ v', e = .returned v' ∧ Own w' base 106 v' (fs.eraseIdx i) ∧ w.grownBy w' v.ownBlock := by
  rcases ho.2 with ⟨_, h0⟩ | ⟨g, cap, cur, rfl, hbg, hg, hnc, hcm, hcs, hL⟩
  · omega
  · obtain ⟨i0, hi0, hz0, hz1, hz2⟩ := info_parts info_b
    have hcs : cur.size = cap * 2 := hcs
    have hL : cur.toList.take (fs.length * 2) = flat fs := hL
    have hcl : cur.toList.length = cap * 2 := by rw [Array.length_toList, hcs]
    have hg : w.heap[g]? = some (.cells cur.toList.toArray 106 (0, 0)) := by simpa using hg
    generalize cur.toList = L at *
    have hdl : (flat (fs.drop (i + 1))).length = (fs.length - (i + 1)) * 2 := by rw [flat_len, List.length_drop]; rfl
    have hcm' : cap ≤ 9223372036854775807 := by simpa [maxLen] using hcm
    have hw0 : ∀ sp sc, (i + 1 < fs.length → sp = some ⟨g, (i + 1) * 2, none⟩) → (Builtin.append_ #[24, 24] 24 #[.slice (some ⟨g, 0, none⟩) i cap, .slice sp (fs.length - (i + 1)) sc]).run Tryz.prog w.drew = .ok (.slice (some ⟨g, 0, none⟩) (i + (fs.length - (i + 1))) cap) (w.drew.setRow g (splice L (i * 2) (flat (fs.drop (i + 1)))).toArray) := by
      intro sp sc hsp
      refine run_append_in w.drew _ _ 106 i0 2 Tryz.underlying24 hi0 hz1 g i cap L 106 hg sp (fs.length - (i + 1)) sc (flat (fs.drop (i + 1))) hdl (fun hp => ⟨_, hsp (by omega), fun j v hj => ?_⟩) (flat_one _) (by omega) (by rw [hdl, hcl]; omega)
      rw [Addr.add_lit]
      show w.cell? _ = _
      rw [cell_of_row w g ((i + 1) * 2 + j) L.toArray _ (0, 0) hg]
      have e : (flat fs).drop ((i + 1) * 2) = flat (fs.drop (i + 1)) := flat_drop fs (i + 1)
      rw [← e, List.getElem?_drop] at hj
      have hjl := (List.getElem?_eq_some_iff.1 hj).1
      have e2 : (flat fs).length = fs.length * 2 := flat_len fs
      rw [e2] at hjl
      rw [← hL, List.getElem?_take, if_pos hjl] at hj
      simpa using hj
    rw [show i + (fs.length - (i + 1)) = fs.length - 1 by omega] at hw0
    have hz3 := zero_b
    have hL1 := setRow_heap w.drew g L.toArray (splice L (i * 2) (flat (fs.drop (i + 1)))).toArray _ _ hg
    have hsl : (splice L (i * 2) (flat (fs.drop (i + 1)))).length = cap * 2 := by rw [length_splice _ _ _ (by rw [hdl, hcl]; omega), hcl]
    have hfin : (splice (splice L (i * 2) (flat (fs.drop (i + 1)))) ((fs.length - 1) * 2) [.string ByteArray.empty, .string ByteArray.empty]).take ((fs.length - 1) * 2) = flat (fs.eraseIdx i) := splice_del L [.string ByteArray.empty, .string ByteArray.empty] fs i hi hL
    generalize splice L (i * 2) (flat (fs.drop (i + 1))) = L1 at *
    have hclr : ∀ m c, m = 1 → (Builtin.clear_ #[24] 0 #[.slice (some ⟨g, (fs.length - 1) * 2, none⟩) m c]).run Tryz.prog (w.drew.setRow g L1.toArray) = .ok (.tuple #[]) ((w.drew.setRow g L1.toArray).setRow g (splice L1 ((fs.length - 1) * 2) [.string ByteArray.empty, .string ByteArray.empty]).toArray) := fun m c hm => by
      subst hm
      exact run_clear_one _ _ _ 106 _ 2 g _ c L1 106 Tryz.underlying24 (hz3 _) rfl (by intro v hv; simp [Value.cells] at hv; rcases hv with rfl <;> rfl) hL1 (by rw [hsl]; omega)
    have hw1 : IntKind.i64.wrap ((i : Int) + 1) = (i : Int) + 1 := by rw [IntKind.wrap_i64]; omega
    have ht0 : (i : Int) + 1 ≤ (fs.length : Int) := by omega
    have ht1 : (0 : Int) ≤ (i : Int) + 1 := by omega
    have ht2 : (i : Int) ≤ (i : Int) + 1 := by omega
    have ht3 : ((i : Int) + 1).toNat = i + 1 := by omega
    have ht4 : ¬ ((i : Int) = (i : Int) + 1) := by omega
    have ht5 : (fs.length : Int) ≤ (cap : Int) := by omega
    have ht6 : (i : Int) ≤ (fs.length : Int) := by omega
    have ht7 : (i : Int) ≤ (cap : Int) := by omega
    have hnf : ¬ (fs.length = i) := by omega
    have hnc2 : ¬ (cap = i) := by omega
    go_enter Tryz.func205, Tryz.ntmps205
    go_wp2
    have HW0 := Lib.hid hw0
    have HCL := Lib.hid hclr
    have HFIN : Hid (Own ((w.drew.setRow g L1.toArray).setRow g (splice L1 ((fs.length - 1) * 2) [.string ByteArray.empty, .string ByteArray.empty]).toArray) base 106 (.slice (some ⟨g, 0, none⟩) (fs.length - 1) cap) (fs.eraseIdx i) ∧ w.grownBy ((w.drew.setRow g L1.toArray).setRow g (splice L1 ((fs.length - 1) * 2) [.string ByteArray.empty, .string ByteArray.empty]).toArray) (some g)) := by
      have hel : (fs.eraseIdx i).length = fs.length - 1 := by rw [List.length_eraseIdx_of_lt hi]
      refine ⟨?_, ⟨rfl, rfl, rfl, by simp [World.setRow], fun k _ hk => ?_⟩⟩
      · unfold Own
        rw [hel]
        refine ⟨by rw [flat_len, hel], .inr ⟨g, cap, _, rfl, hbg, setRow_heap _ g _ _ _ _ hL1, by omega, hcm, ?_, ?_⟩⟩
        · rw [List.size_toArray, length_splice _ _ _ (by rw [hsl]; simp; omega), hsl]; rfl
        · exact hfin
      · have hkg : k ≠ g := fun e => hk (by rw [e])
        rw [setRow_other _ g k _ hkg, setRow_other _ g k _ hkg]
        rfl
    clear hclr hw0 hfin hL1 hg ho hz3
    by_cases hce : cap = i + 1
    · subst hce
      have hfi : fs.length = i + 1 := by omega
      go_region_law (refine step_append_runI rfl _ _ 24 24 rfl (.slice (some ⟨g, 0, none⟩) i (i + 1)) (.slice (some ⟨g, 0, none⟩) (fs.length - (i + 1)) 0) (by simp [Act.eval, Act.put]) (by simp [Act.eval, Act.put]; omega) (HW0.out _ _ (fun h => absurd h (by omega))) ?_)
      have h7 := HCL.out 1 1 rfl
      rw [hfi] at h7 HFIN
      simp only [Nat.add_sub_cancel] at h7 HFIN
      all_goals go_wp2
      all_goals go_ret
      all_goals exact ⟨_, rfl, HFIN.out.1, HFIN.out.2⟩
    · go_region_law (refine step_append_runI rfl _ _ 24 24 rfl (.slice (some ⟨g, 0, none⟩) i cap) (.slice (some ⟨g, (i + 1) * 2, none⟩) (fs.length - (i + 1)) (cap - (i + 1))) (by simp [Act.eval, Act.put]) (by simp [Act.eval, Act.put]) (HW0.out _ _ (fun _ => rfl)) ?_)
      have h7 := HCL.out (fs.length - (fs.length - 1)) (cap - (fs.length - 1)) (by omega)
      all_goals go_wp2
      all_goals go_ret
      all_goals exact ⟨_, rfl, HFIN.out.1, HFIN.out.2⟩
end Bo
end Go.Proofs.YthbmnkeigmbbdaaGreat
