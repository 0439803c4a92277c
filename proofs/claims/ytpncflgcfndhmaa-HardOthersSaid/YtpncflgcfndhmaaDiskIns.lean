/-
  slices.Insert: a file put ahead of another.
-/
import Derived.Test.YtpncflgcfndhmaaDiskRow
import Derived.Deep.RegionLaw
import Derived.Laws.IdiomRangeMap
namespace Go.Proofs.Ytpncflgcfndhmaa
open Go.RowKit Go.Lib Go.Sort
namespace Dk
theorem info3 : (Try.prog.info? 59).map (·.size) = some 3 := by kernel_rfl

set_option maxRecDepth 100000 in
set_option maxHeartbeats 4000000 in
theorem insert_room (g cap i g2 : Nat) (cur : List Value) (fs : List Fl) (f : Fl) (w : World) (hi : i < fs.length) (hg : w.heap[g]? = some (.cells cur.toArray 59 (0, 0))) (hcl : cur.length = cap * 3) (hL : cur.take (fs.length * 3) = flat fs)
    (hroom : fs.length + 1 ≤ cap) (hcm : cap ≤ maxLen) (hne : g2 ≠ g) (hg2 : w.heap[g2]? = some (.cells (encF f).toArray 59 (0, 0))) :
    Calls Try.prog 80 #[.slice (some ⟨g, 0, none⟩) fs.length cap, .int .i64 i, .slice (some ⟨g2, 0, none⟩) 1 1] w fun e w' =>
      e = .returned (.slice (some ⟨g, 0, none⟩) (fs.length + 1) cap) ∧ w' = (w.drew.setRow g (splice cur ((i + 1) * 3) (flat (fs.drop i))).toArray).setRow g (splice (splice cur ((i + 1) * 3) (flat (fs.drop i))) (i * 3) (encF f)).toArray := by
  have hov : ∀ off lb cb, (callFunc 83 #[.slice (some ⟨g2, 0, none⟩) 1 1, .slice (some ⟨g, off, none⟩) lb cb]).run Try.prog w = .ok (.value (.bool false)) w := fun off lb cb => by
    rw [run_callFunc_extern Try.func83 (by kernel_rfl) (by kernel_rfl) (by kernel_rfl) (e := Extern.SlicesOverlaps.overlaps #[22, 22] #[4]) (by kernel_rfl),
      Lib.run_overlaps_apart w 22 4 59 Try.underlying22 3 Try.sizeOf59 ⟨g2, 0, none⟩ ⟨g, off, none⟩ 1 1 lb cb hne 59 59 3 cur.length (by simp [World.shape?, hg2, encF]) (by simp [World.shape?, hg]) (by omega) (by simp [World.frozen?, hg2]) (by simp [World.frozen?, hg2])]
    rfl
  have hdl : (flat (fs.drop i)).length = (fs.length - i) * 3 := by rw [flat_len, List.length_drop]
  have hcp1 : (Builtin.copy_ #[22, 22] 3 #[.slice (some ⟨g, (i + 1) * 3, none⟩) (fs.length + 1 - (i + 1)) (cap - (i + 1)), .slice (some ⟨g, i * 3, none⟩) (fs.length + 1 - i) (cap - i)]).run Try.prog w.drew = .ok (goInt (Nat.min (fs.length + 1 - i) (fs.length + 1 - (i + 1)) : Nat)) (w.drew.setRow g (splice cur ((i + 1) * 3) (flat (fs.drop i))).toArray) :=
    run_copy3 w.drew _ _ _ 59 g ((i + 1) * 3) _ _ ⟨g, i * 3, none⟩ _ _ cur 59 (flat (fs.drop i)) Try.underlying22 info3 hg (by rw [hdl]; congr 1; simp only [Nat.min_def]; split <;> omega)
      (fun j v hj => by
        rw [Addr.add_lit]
        show w.cell? _ = _
        rw [cell_of_row w g (i * 3 + j) cur.toArray _ (0, 0) hg]
        rw [← flat_drop, List.getElem?_drop] at hj
        have hjl := (List.getElem?_eq_some_iff.1 hj).1
        rw [flat_len] at hjl
        rw [← hL, List.getElem?_take, if_pos hjl] at hj
        simpa using hj) (by rw [hdl, hcl]; omega) (flat_one _)
  have hW1 : (w.drew.setRow g (splice cur ((i + 1) * 3) (flat (fs.drop i))).toArray).heap[g]? = some (.cells (splice cur ((i + 1) * 3) (flat (fs.drop i))).toArray 59 (0, 0)) := setRow_heap w.drew g cur.toArray _ _ _ hg
  have hW2 : (w.drew.setRow g (splice cur ((i + 1) * 3) (flat (fs.drop i))).toArray).heap[g2]? = some (.cells (encF f).toArray 59 (0, 0)) := (setRow_other w.drew g g2 _ hne).trans hg2
  have hsl : (splice cur ((i + 1) * 3) (flat (fs.drop i))).length = cap * 3 := by rw [length_splice _ _ _ (by rw [hdl, hcl]; omega), hcl]
  generalize splice cur ((i + 1) * 3) (flat (fs.drop i)) = L1 at *
  have hcp2 : (Builtin.copy_ #[22, 22] 3 #[.slice (some ⟨g, i * 3, none⟩) (fs.length + 1 - i) (cap - i), .slice (some ⟨g2, 0, none⟩) 1 1]).run Try.prog (w.drew.setRow g L1.toArray) = .ok (goInt (Nat.min 1 (fs.length + 1 - i) : Nat)) ((w.drew.setRow g L1.toArray).setRow g (splice L1 (i * 3) (encF f)).toArray) :=
    run_copy3 _ _ _ _ 59 g (i * 3) _ _ ⟨g2, 0, none⟩ _ _ L1 59 (encF f) Try.underlying22 info3 hW1 (by rw [encF_len]; congr 1; simp only [Nat.min_def]; split <;> omega)
      (fun j v hj => by
        rw [Addr.add_lit, Nat.zero_add]
        rw [cell_of_row _ g2 j _ _ (0, 0) hW2]
        simpa using hj) (by rw [encF_len, hsl]; omega) (encF_one f)
  have hcm' : cap ≤ 9223372036854775807 := by simpa [maxLen] using hcm
  have hz2 : ¬ ((i : Int) = (fs.length : Int)) := by omega
  have hw1 : IntKind.i64.wrap ((i : Int) + 1) = (i : Int) + 1 := by rw [IntKind.wrap_i64]; omega
  have hw2 : IntKind.i64.wrap ((fs.length : Int) + 1) = (fs.length : Int) + 1 := by rw [IntKind.wrap_i64]; omega
  have hb1 : (0 : Int) ≤ (i : Int) + 1 := by omega
  have hb2 : ¬ (cap = i + 1) := by omega
  have hb3 : (i : Int) ≤ (fs.length : Int) + 1 := by omega
  have hb4 : ¬ (cap = i) := by omega
  have hb5 : ¬ ((cap : Int) < (fs.length : Int) + 1) := by omega
  have hb6 : (fs.length : Int) + 1 ≤ (cap : Int) := by omega
  have hb7 : (i : Int) ≤ (fs.length : Int) := by omega
  have hb8 : i ≤ fs.length := by omega
  have hb9 : decide ((cap : Int) < (fs.length : Int) + 1) = false := by simp; omega
  have hb10 : (i : Int) + 1 ≤ (fs.length : Int) + 1 := by omega
  have htn : ((i : Int) + 1).toNat = i + 1 := by omega
  have htn2 : ((fs.length : Int) + 1).toNat = fs.length + 1 := by omega
  go_enter Try.func80, Try.ntmps80
  go_wp2_with (simp only [hov])
  have HC2 := Lib.hid hcp2
  have HC1 := Lib.hid hcp1
  clear hcp1 hcp2 hL hg hg2 hov hW1 hW2
  go_region_law (refine step_copy_runI rfl _ _ 22 22 rfl (.slice (some ⟨g, (i + 1) * 3, none⟩) (fs.length + 1 - (i + 1)) (cap - (i + 1))) (.slice (some ⟨g, i * 3, none⟩) (fs.length + 1 - i) (cap - i)) (by simp [Act.eval, Act.put]) (by simp [Act.eval, Act.put]) HC1.out ?_)
  all_goals have hcp3 := HC2.out
  all_goals go_wp2
  all_goals go_ret
  all_goals exact ⟨rfl, rfl⟩

theorem zero3_len (k : Nat) : (Builtin.zeroCells (Value.agg #[.string ByteArray.empty, .string ByteArray.empty, .int .i64 0]).cells k).size = k * 3 := by simp [Builtin.zeroCells, Value.cells]

set_option maxRecDepth 100000 in
set_option maxHeartbeats 4000000 in
theorem insert_grow (g cap i g2 : Nat) (cur : List Value) (fs : List Fl) (f : Fl) (w : World) (hi : i < fs.length) (h4 : fs.length ≤ 4096) (hg : w.heap[g]? = some (.cells cur.toArray 59 (0, 0))) (hL : cur.take (fs.length * 3) = flat fs)
    (hnc : fs.length ≤ cap) (hroom : ¬ (fs.length + 1 ≤ cap)) (hg2 : w.heap[g2]? = some (.cells (encF f).toArray 59 (0, 0))) :
    Calls Try.prog 80 #[.slice (some ⟨g, 0, none⟩) fs.length cap, .int .i64 i, .slice (some ⟨g2, 0, none⟩) 1 1] w fun e w' =>
      ∃ v', e = .returned v' ∧ Own w' w.heap.size v' (insF fs i f) ∧ w.grownBy w' none := by
  obtain ⟨i0, hi0, hz0, hz1, hz2⟩ := info_parts info_file
  have hgw : g < w.heap.size := (Array.getElem?_eq_some_iff.1 hg).1
  have hg2w : g2 < w.heap.size := (Array.getElem?_eq_some_iff.1 hg2).1
  have ht : (flat (fs.take i)).length = i * 3 := by rw [flat_len, List.length_take]; congr 1; omega
  have hold : (Builtin.firstCells i0.size i (.slice (some ⟨g, 0, none⟩) i cap)).run Try.prog w.drew = .ok (flat (fs.take i)).toArray w.drew := by
    rw [hz1]
    refine run_firstCells_some w.drew 3 i ⟨g, 0, none⟩ i cap (flat (fs.take i)) ht (fun j v hj => ?_)
    rw [Addr.add_lit, Nat.zero_add]
    show w.cell? _ = _
    rw [cell_of_row w g j cur.toArray _ (0, 0) hg]
    rw [← flat_take, List.getElem?_take] at hj
    split at hj
    · have hjl := (List.getElem?_eq_some_iff.1 hj).1
      rw [flat_len] at hjl
      rw [← hL, List.getElem?_take, if_pos hjl] at hj
      simpa using hj
    · cases hj
  have hik : i + (fs.length + 1 - i) = fs.length + 1 := by omega
  have hkk : (fs.length : Int) + 1 - (i : Int) = ((fs.length + 1 - i : Nat) : Int) := by omega
  have hrz := Lib.run_append_grow_zeros (P := Try.prog) w 22 3 22 59 i0 _ .i64 .i64 Try.underlying22 Try.underlying3 hi0 hz0 (some ⟨g, 0, none⟩) i cap (flat (fs.take i)) hold (fs.length + 1 - i) (by omega) (by rw [hz1]; omega) (by omega) (by omega) (by rw [hz2]; omega) (by rw [hz2, hik]; exact growslice_fits (by omega) (by omega))
  rw [hik] at hrz
  have hGn := grownCap_ge w (fs.length + 1) cap 59
  have hGm := grownCap_le_maxLen w (fs.length + 1) cap 59 (by unfold maxLen; omega)
  generalize grownCap w (fs.length + 1) cap 59 = G at *
  obtain ⟨Z, hZ, hZl⟩ : ∃ Z : List Value, (flat (fs.take i)).toArray ++ Builtin.zeroCells (Value.agg #[.string ByteArray.empty, .string ByteArray.empty, .int .i64 0]).cells (fs.length + 1 - i) ++ Builtin.zeroCells (Value.agg #[.string ByteArray.empty, .string ByteArray.empty, .int .i64 0]).cells (G - (fs.length + 1)) = (flat (fs.take i) ++ Z).toArray ∧ Z.length = (G - i) * 3 := by
    refine ⟨(Builtin.zeroCells (Value.agg #[.string ByteArray.empty, .string ByteArray.empty, .int .i64 0]).cells (fs.length + 1 - i) ++ Builtin.zeroCells (Value.agg #[.string ByteArray.empty, .string ByteArray.empty, .int .i64 0]).cells (G - (fs.length + 1))).toList, ?_, ?_⟩
    · apply Array.ext'; simp
    · simp only [Array.toList_append, List.length_append, Array.length_toList, zero3_len]; omega
  rw [hZ] at hrz
  clear hZ hold
  have hGm' : G ≤ 9223372036854775807 := by simpa [maxLen] using hGm
  have hz2' : ¬ ((i : Int) = (fs.length : Int)) := by omega
  have hw1 : IntKind.i64.wrap ((i : Int) + 1) = (i : Int) + 1 := by rw [IntKind.wrap_i64]; omega
  have hw2 : IntKind.i64.wrap ((fs.length : Int) + 1) = (fs.length : Int) + 1 := by rw [IntKind.wrap_i64]; omega
  have hw3 : IntKind.i64.wrap ((fs.length : Int) + 1 - (i : Int)) = ((fs.length + 1 - i : Nat) : Int) := by rw [IntKind.wrap_i64]; omega
  have hb1 : (0 : Int) ≤ (i : Int) + 1 := by omega
  have hb2 : ¬ (G = i + 1) := by omega
  have hb3 : (i : Int) ≤ (fs.length : Int) + 1 := by omega
  have hb4 : ¬ (G = i) := by omega
  have hb5 : (cap : Int) < (fs.length : Int) + 1 := by omega
  have hb7 : (i : Int) ≤ (fs.length : Int) := by omega
  have hb8 : i ≤ fs.length := by omega
  have hb9 : ¬ (cap = i) := by omega
  have hb10 : (i : Int) + 1 ≤ (fs.length : Int) + 1 := by omega
  have hb11 : (i : Int) ≤ (cap : Int) := by omega
  have htn : ((i : Int) + 1).toNat = i + 1 := by omega
  have htn2 : ((fs.length : Int) + 1).toNat = fs.length + 1 := by omega
  go_enter Try.func80, Try.ntmps80
  obtain ⟨R, hR⟩ : ∃ R, R = flat (fs.take i) ++ Z := ⟨_, rfl⟩
  rw [← hR] at hrz
  have hRl : R.length = G * 3 := by rw [hR, List.length_append, ht, hZl]; omega
  have hR1 : (w.alloc (.cells R.toArray 59)).drew.heap[w.heap.size]? = some (.cells R.toArray 59 (0, 0)) := heap_alloc_new w _
  have hg2' : (w.alloc (.cells R.toArray 59)).drew.heap[g2]? = some (.cells (encF f).toArray 59 (0, 0)) := by rw [← hg2]; exact Go.heap_alloc_old w _ hg2w
  have hg' : (w.alloc (.cells R.toArray 59)).drew.heap[g]? = some (.cells cur.toArray 59 (0, 0)) := by rw [← hg]; exact Go.heap_alloc_old w _ hgw
  have hcpA : (Builtin.copy_ #[22, 22] 3 #[.slice (some ⟨w.heap.size, i * 3, none⟩) (fs.length + 1 - i) (G - i), .slice (some ⟨g2, 0, none⟩) 1 1]).run Try.prog (w.alloc (.cells R.toArray 59)).drew = .ok (goInt (Nat.min 1 (fs.length + 1 - i) : Nat)) ((w.alloc (.cells R.toArray 59)).drew.setRow w.heap.size (splice R (i * 3) (encF f)).toArray) :=
    run_copy3 _ _ _ _ 59 w.heap.size (i * 3) _ _ ⟨g2, 0, none⟩ _ _ R 59 (encF f) Try.underlying22 info3 hR1 (by rw [encF_len]; congr 1; simp only [Nat.min_def]; split <;> omega)
      (fun j v hj => by
        rw [Addr.add_lit, Nat.zero_add]
        rw [cell_of_row _ g2 j _ _ (0, 0) hg2']
        simpa using hj) (by rw [encF_len, hRl]; omega) (encF_one f)
  have hdl : (flat (fs.drop i)).length = (fs.length - i) * 3 := by rw [flat_len, List.length_drop]
  have hsl : (splice R (i * 3) (encF f)).length = G * 3 := by rw [length_splice _ _ _ (by rw [encF_len, hRl]; omega), hRl]
  have hfin := splice_new Z fs f i hb8
  rw [← hR] at hfin
  have hR2 := setRow_heap (w.alloc (.cells R.toArray 59)).drew w.heap.size R.toArray (splice R (i * 3) (encF f)).toArray _ _ hR1
  have hg3 : ((w.alloc (.cells R.toArray 59)).drew.setRow w.heap.size (splice R (i * 3) (encF f)).toArray).heap[g]? = some (.cells cur.toArray 59 (0, 0)) := (setRow_other _ w.heap.size g _ (by omega)).trans hg'
  generalize splice R (i * 3) (encF f) = L1 at *
  have hcpB : (Builtin.copy_ #[22, 22] 3 #[.slice (some ⟨w.heap.size, (i + 1) * 3, none⟩) (fs.length + 1 - (i + 1)) (G - (i + 1)), .slice (some ⟨g, i * 3, none⟩) (fs.length - i) (cap - i)]).run Try.prog ((w.alloc (.cells R.toArray 59)).drew.setRow w.heap.size L1.toArray).drew = .ok (goInt (Nat.min (fs.length - i) (fs.length + 1 - (i + 1)) : Nat)) (((w.alloc (.cells R.toArray 59)).drew.setRow w.heap.size L1.toArray).drew.setRow w.heap.size (splice L1 ((i + 1) * 3) (flat (fs.drop i))).toArray) :=
    run_copy3 _ _ _ _ 59 w.heap.size ((i + 1) * 3) _ _ ⟨g, i * 3, none⟩ _ _ L1 59 (flat (fs.drop i)) Try.underlying22 info3 hR2 (by rw [hdl]; congr 1; simp only [Nat.min_def]; split <;> omega)
      (fun j v hj => by
        rw [Addr.add_lit]
        show ((w.alloc (.cells R.toArray 59)).drew.setRow w.heap.size L1.toArray).cell? _ = _
        rw [cell_of_row _ g (i * 3 + j) cur.toArray _ (0, 0) hg3]
        rw [← flat_drop, List.getElem?_drop] at hj
        have hjl := (List.getElem?_eq_some_iff.1 hj).1
        rw [flat_len] at hjl
        rw [← hL, List.getElem?_take, if_pos hjl] at hj
        simpa using hj) (by rw [hdl, hsl]; omega) (flat_one _)
  have hsl2 : (splice L1 ((i + 1) * 3) (flat (fs.drop i))).length = G * 3 := by rw [length_splice _ _ _ (by rw [hdl, hsl]; omega), hsl]
  have hR3 := setRow_heap ((w.alloc (.cells R.toArray 59)).drew.setRow w.heap.size L1.toArray).drew w.heap.size L1.toArray (splice L1 ((i + 1) * 3) (flat (fs.drop i))).toArray _ _ hR2
  generalize splice L1 ((i + 1) * 3) (flat (fs.drop i)) = L2 at *
  have HFIN : Hid (Own (((w.alloc (.cells R.toArray 59)).drew.setRow w.heap.size L1.toArray).drew.setRow w.heap.size L2.toArray) w.heap.size (.slice (some ⟨w.heap.size, 0, none⟩) (fs.length + 1) G) (insF fs i f) ∧ w.grownBy (((w.alloc (.cells R.toArray 59)).drew.setRow w.heap.size L1.toArray).drew.setRow w.heap.size L2.toArray) none) := by
    refine ⟨?_, ⟨rfl, rfl, rfl, by simp [World.setRow], fun k hk _ => ?_⟩⟩
    · unfold Own
      rw [insF_len fs i f hb8]
      refine ⟨by rw [flat_len, insF_len fs i f hb8], .inr ⟨w.heap.size, G, L2.toArray, rfl, Nat.le_refl _, hR3, hGn, hGm, by simpa using hsl2, ?_⟩⟩
      rw [← hfin]
    · rw [setRow_other _ w.heap.size k _ (by omega)]
      show ((w.alloc (.cells R.toArray 59)).drew.setRow w.heap.size L1.toArray).heap[k]? = _
      rw [setRow_other _ w.heap.size k _ (by omega)]
      exact Go.heap_alloc_old w _ hk
  have HRZ := Lib.hid hrz
  have HCB := Lib.hid hcpB
  clear hrz hfin hR1 hR2 hR3 hg' hg3 hg2' hcpB hL hg hg2 hR
  go_wp2_with (at_builtin; go_loud (refine Lib.wpList_append_run _ rfl _ _ _ _ rfl _ _ rfl rfl _ _ HRZ.out ?_))
  go_region_law (refine step_copy_runI rfl _ _ 22 22 rfl (.slice (some ⟨w.heap.size, (i + 1) * 3, none⟩) (fs.length + 1 - (i + 1)) (G - (i + 1))) (.slice (some ⟨g, i * 3, none⟩) (fs.length - i) (cap - i)) (by simp [Act.eval, Act.put]) (by simp [Act.eval, Act.put]) HCB.out ?_)
  all_goals go_wp2
  all_goals go_ret
  all_goals exact ⟨_, rfl, HFIN.out.1, HFIN.out.2⟩

/-- slices.Insert, wherever the file is to stand. -/
theorem insert_any (v : Value) (fs : List Fl) (f : Fl) (i g2 base : Nat) (w : World) (hbs : base ≤ w.heap.size) (ho : Own w base v fs) (h4 : fs.length ≤ 4096) (hi : i ≤ fs.length)
    (hg2 : w.heap[g2]? = some (.cells (encF f).toArray 59 (0, 0))) (hne : v.ownBlock ≠ some g2) :
    Calls Try.prog 80 #[v, .int .i64 i, .slice (some ⟨g2, 0, none⟩) 1 1] w fun e w' => ∃ v', e = .returned v' ∧ Own w' base v' (insF fs i f) ∧ w.grownBy w' v.ownBlock := by
  by_cases hl : i = fs.length
  · subst hl
    have := insert_end v fs f g2 base w hbs ho h4 (fun j u hu => by
      rw [cell_of_row w g2 j _ _ (0, 0) hg2]
      simpa using hu)
    rw [show insF fs fs.length f = fs ++ [f] by simp [insF]]
    exact this
  · have hlt : i < fs.length := by omega
    rcases ho.2 with ⟨_, h0⟩ | ⟨g, cap, cur, rfl, hbg, hg, hnc, hcm, hcs, hL⟩
    · omega
    · have hne2 : g2 ≠ g := fun e => hne (by rw [e]; rfl)
      by_cases hroom : fs.length + 1 ≤ cap
      · have hdl : (flat (fs.drop i)).length = (fs.length - i) * 3 := by rw [flat_len, List.length_drop]
        have hcl : cur.toList.length = cap * 3 := by rw [Array.length_toList, hcs]
        refine (insert_room g cap i g2 cur.toList fs f w hlt (by simpa using hg) (by simpa using hcs) hL hroom hcm hne2 hg2).mono ?_
        rintro e w' ⟨rfl, rfl⟩
        refine ⟨_, rfl, ?_, ⟨rfl, rfl, rfl, by simp [World.setRow], fun k _ hk => ?_⟩⟩
        · unfold Own
          rw [insF_len fs i f hi]
          refine ⟨by rw [flat_len, insF_len fs i f hi], .inr ⟨g, cap, _, rfl, hbg, setRow_heap _ g _ _ _ _ (setRow_heap w.drew g cur _ _ _ hg), hroom, hcm, ?_, ?_⟩⟩
          · rw [List.size_toArray, length_splice _ _ _ (by rw [encF_len, length_splice _ _ _ (by rw [hdl, hcl]; omega), hcl]; omega), length_splice _ _ _ (by rw [hdl, hcl]; omega), hcl]
          · exact splice_ins cur.toList fs f i hi hL (by rw [hcl]; omega)
        · have hkg : k ≠ g := fun e => hk (by rw [e]; rfl)
          rw [setRow_other _ g k _ hkg, setRow_other _ g k _ hkg]
          rfl
      · refine (insert_grow g cap i g2 cur.toList fs f w hlt h4 (by simpa using hg) hL hnc hroom hg2).mono ?_
        rintro e w' ⟨v', rfl, h1, h2⟩
        exact ⟨v', rfl, h1.le hbs, ⟨h2.os, h2.tape, h2.output, h2.size, fun k hk _ => h2.block k hk (by simp)⟩⟩
end Dk
end Go.Proofs.Ytpncflgcfndhmaa
