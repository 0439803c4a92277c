/-
  gafferref18.Twice.
-/
import Derived.Test.YtejolapbdkkdaaaNetRf2
namespace Go.Proofs.Ytejolapbdkkdaaa
open Go.RowKit Go.Lib
namespace Nt
open Rw
set_option linter.unusedVariables false
/-- The document's Twice, its boxes: the net, and the answer. -/
structure TwS (w : World) (m : List Pk) (u : Value) (z : World) : Prop where
  be : Below w.heap.size w z
  lt : w.heap.size + 1 < z.heap.size
  c0 : z.cell? ⟨w.heap.size, 0, none⟩ = some u
  f0 : z.frozen? ⟨w.heap.size, 0, none⟩ = false
  c1 : z.cell? ⟨w.heap.size + 1, 0, none⟩ = some (.slice none 0 0)
  f1 : z.frozen? ⟨w.heap.size + 1, 0, none⟩ = false
  own : OwnP z (w.heap.size + 2) u m
theorem TwS.go {w z z' : World} {m : List Pk} {u : Value} (h : TwS w m u z) (hb : Below z.heap.size z z') : TwS w m u z' := by
  have h2 := h.lt
  exact ⟨h.be.trans (hb.mono h.be.size), Nat.lt_of_lt_of_le h2 hb.size, (hb.cell (by show w.heap.size < _; omega)).trans h.c0, (hb.frozen (by show w.heap.size < _; omega)).trans h.f0, (hb.cell (by exact h2)).trans h.c1, (hb.frozen (by exact h2)).trans h.f1, keepP h.own hb⟩
theorem TwS.more {w z z' : World} {m m' : List Pk} {u u' : Value} (h : TwS w m u z) (hg : z.grownBy z' u.ownBlock) (ho : OwnP z' (w.heap.size + 2) u' m') :
    (z'.cell? ⟨w.heap.size, 0, none⟩ = some u ∧ z'.frozen? ⟨w.heap.size, 0, none⟩ = false ∧ z'.cell? ⟨w.heap.size + 1, 0, none⟩ = some (.slice none 0 0) ∧ z'.frozen? ⟨w.heap.size + 1, 0, none⟩ = false) ∧ TwS w m' u' (z'.setCell ⟨w.heap.size, 0, none⟩ u') := by
  have h2 := h.lt
  have hn : ∀ g, u.ownBlock = some g → w.heap.size + 2 ≤ g := fun g hg => (Own.lt h.own g hg).1
  have hne : ∀ b, b < w.heap.size + 2 → some b ≠ u.ownBlock := fun b hb e => by have := hn b e.symm; omega
  have c0 := hg.cell h.c0 (hne _ (by show w.heap.size < _; omega))
  have c1 := hg.cell h.c1 (hne _ (by show w.heap.size + 1 < _; omega))
  have f0 := (World.frozen?_of_block (a := ⟨w.heap.size, 0, none⟩) (hg.block w.heap.size (by omega) (hne _ (by omega)))).trans h.f0
  have f1 := (World.frozen?_of_block (a := ⟨w.heap.size + 1, 0, none⟩) (hg.block (w.heap.size + 1) h2 (hne _ (by omega)))).trans h.f1
  have hbe := h.be.grown hg h.be.size (fun g hg => by have := hn g hg; omega)
  refine ⟨⟨c0, f0, c1, f1⟩, hbe.setCell (p := ⟨w.heap.size, 0, none⟩) (Nat.le_refl _) _, by rw [World.size_setCell]; exact Nat.lt_of_lt_of_le h2 hg.size, World.cell?_setCell_same _ _ _ c0, by rw [World.frozen?_setCell]; exact f0, (World.cell?_setCell_other _ _ _ _ (fun e => by have := congrArg Addr.block e; simp at this)).trans c1, by rw [World.frozen?_setCell]; exact f1, ?_⟩
  exact ownsRow_setCell_below ho (a := ⟨w.heap.size, 0, none⟩) (by show w.heap.size < w.heap.size + 2; omega) _
set_option maxHeartbeats 4000000 in
set_option maxRecDepth 100000 in
theorem twice_ref (va : Value) (n : List Pk) (i : Int) (w : World) {A : Nat} (hn : Sl w A w.heap.size va n) : Calls Try.prog 15 #[.agg #[va], .int .i64 i] w (TwiceIs w n i) := by
  have HX : Hid (∀ z, Below w.heap.size w z → Calls Try.prog 19 #[.agg #[va]] z fun e w' => e = .returned (.int .i64 (errN n)) ∧ Below z.heap.size z w') := fun z hz => check_ref va n z (hn.on hz)
  have HC : Hid (∀ z, Below w.heap.size w z → Calls Try.prog 7 #[.agg #[va]] z (CopyIs z n)) := fun z hz => copy_ref va n z (hn.on hz)
  obtain ⟨a, c, rfl⟩ := hn.slice
  clear hn
  obtain ⟨⟨hp0, hp1, hf1⟩, hb0, hs0⟩ := boxes2 w (.slice a n.length c)
  have hf0 : ((w.alloc (.cells #[.slice a n.length c] 24)).alloc (.cells #[.slice none 0 0] 24)).frozen? ⟨w.heap.size, 0, none⟩ = false := frozen_of_row _ _ 0 #[.slice a n.length c] 24 (by rw [Below.heap_alloc _ _ _ (by simp)]; exact heap_alloc_new w _)
  have HB := Lib.hid hb0
  have HP0 := Lib.hid hp0
  have HP1 := Lib.hid hp1
  have HF1 := Lib.hid hf1
  have HF0 := Lib.hid hf0
  have HZ : Hid (w.heap.size + 1 < ((w.alloc (.cells #[.slice a n.length c] 24)).alloc (.cells #[.slice none 0 0] 24)).heap.size) := by show _ < _; omega
  have HZ0 : Hid (w.heap.size < ((w.alloc (.cells #[.slice a n.length c] 24)).alloc (.cells #[.slice none 0 0] 24)).heap.size) := by show _ < _; omega
  have HT0 : Hid (∀ e w', ¬ twN n i = 0 → e = .returned (.tuple #[.agg #[.slice none 0 0], .int .i64 (twN n i)]) → Below w.heap.size w w' → TwiceIs w n i e w') := fun e w' h0 h1 h3 => ⟨_, [], h1, Own.nil _ _ _, fun h => absurd h h0, fun _ => rfl, h3⟩
  clear hp0 hp1 hf1 hb0 hs0 hf0
  have HE : Hid (errN n = if netB n then 0 else 10) := rfl
  have HRF : Hid (refN n i = if netB n then (if 0 ≤ i ∧ i < (n.length : Int) then 0 else 1) else 10) := rfl
  have HTW : Hid (twN n i = if refN n i = 0 then (if n.length = 4096 then 11 else 0) else refN n i) := rfl
  cases hq : netB n
  · rw [hq] at HE HRF
    have HE2 : Hid (errN n = 10) := HE.out
    have h0 : refN n i = 10 := HRF.out
    rw [h0] at HTW
    have HE3 : Hid (twN n i = 10) := HTW.out
    rw [HE2.out] at HX
    rw [HE3.out] at HT0
    clear HE hq h0 HRF HTW HC
    go_enter Try.func15, Try.ntmps15
    go_wp2_with (go_at_call 19; go_loud ((with_reducible refine (HX.out _ HB.out).mono ?_); rintro e w1 ⟨rfl, hb⟩; have HB1 := Lib.hid (HB.out.trans (hb.mono HB.out.size)); have y1 := (hb.cell (p := ⟨w.heap.size + 1, 0, none⟩) HZ.out).trans HP1.out; have f1 := (hb.frozen (p := ⟨w.heap.size + 1, 0, none⟩) HZ.out).trans HF1.out; clear hb))
    go_wp2
    refine bodyPost_net2 (u := 5) rfl (w.heap.size + 1) (.slice none 0 0) rfl rfl (World.cell?_setCell_same _ _ _ y1) (HT0.out _ _ (by decide) rfl (HB1.out.setCell (by show w.heap.size ≤ w.heap.size + 1; omega) _))
  · have hn4 := net_len hq
    rw [hq] at HE HRF
    have HE2 : Hid (errN n = 0) := HE.out
    rw [HE2.out] at HX
    clear HE hq HE2
    by_cases hin : 0 ≤ i ∧ i < (n.length : Int)
    · have h0 : refN n i = 0 := HRF.out.trans (if_pos hin)
      obtain ⟨k, rfl⟩ : ∃ k : Nat, i = (k : Int) := ⟨i.toNat, by omega⟩
      have hk : k < n.length := by omega
      have hlt : (k : Int) < (n.length : Int) := hin.2
      have t1 : decide ((k : Int) < 0) = false := decide_eq_false (by omega)
      have t2 : decide ((n.length : Int) ≤ (k : Int)) = false := decide_eq_false (by omega)
      have t3 : decide (n.length ≤ k) = false := decide_eq_false (by omega)
      rw [h0, if_pos rfl] at HTW
      clear h0 HRF hin
      by_cases hfull : n.length = 4096
      · have HE3 : Hid (twN n (k : Int) = 11) := HTW.out.trans (if_pos hfull)
        have t4 : decide ((4096 : Int) ≤ (n.length : Int)) = true := decide_eq_true (by omega)
        have t5 : decide (4096 ≤ n.length) = true := decide_eq_true (by omega)
        rw [HE3.out] at HT0
        clear HTW HC
        have HFU := Lib.hid hfull
        clear hfull
        go_enter Try.func15, Try.ntmps15
        go_wp2_with (go_at_call 19; go_loud ((with_reducible refine (HX.out _ HB.out).mono ?_); rintro e w1 ⟨rfl, hb⟩; have HB1 := Lib.hid (HB.out.trans (hb.mono HB.out.size)); have y0 := (hb.cell (p := ⟨w.heap.size, 0, none⟩) HZ0.out).trans HP0.out; have y1 := (hb.cell (p := ⟨w.heap.size + 1, 0, none⟩) HZ.out).trans HP1.out; have f1 := (hb.frozen (p := ⟨w.heap.size + 1, 0, none⟩) HZ.out).trans HF1.out; clear hb))
        go_wp2
        refine bodyPost_net2 (u := 5) rfl (w.heap.size + 1) (.slice none 0 0) rfl rfl (World.cell?_setCell_same _ _ _ y1) (HT0.out _ _ (by decide) rfl (HB1.out.setCell (by show w.heap.size ≤ w.heap.size + 1; omega) _))
      · have HE3 : Hid (twN n (k : Int) = 0) := HTW.out.trans (if_neg hfull)
        have t4 : decide ((4096 : Int) ≤ (n.length : Int)) = false := decide_eq_false (by omega)
        have t5 : decide (4096 ≤ n.length) = false := decide_eq_false (by omega)
        have HT1 : Hid (∀ v' e w', e = .returned (.tuple #[.agg #[v'], .int .i64 0]) → OwnP w' w.heap.size v' (n ++ [n[k]]) → Below w.heap.size w w' → TwiceIs w n (k : Int) e w') := fun v' e w' h1 h2 h3 => ⟨v', _, by rw [HE3.out]; exact h1, h2, fun _ => ⟨k, hk, rfl, rfl⟩, fun h => absurd HE3.out h, h3⟩
        have HHD : Hid (∀ z base v, OwnP z base v n → ∃ g c, v = .slice (some ⟨g, 0, none⟩) n.length c ∧ At z g (k * 3) n[k]) := fun z base v h => by
          obtain ⟨g, c, h1, -, -, h4⟩ := own_head h (by omega) (by omega)
          exact ⟨g, c, h1, h4 k hk⟩
        have HAP : Hid (∀ z base v, OwnP z base v n → z.ownsRow base 30 3 v n.length (flat n)) := fun z base v h => h
        clear HTW HT0 hfull HE3
        obtain ⟨i0, hi, hq0, hq1, hq2⟩ := info_parts info_pk
        have HMX : Hid (n.length + 1 ≤ maxLen) := by show _ ≤ _; unfold maxLen; omega
        have HBY : Hid ((n.length + 1) * 32 ≤ 140737488355328) := by show _ ≤ _; omega
        generalize n[k] = x at *
        rcases x with ⟨f, t, d⟩
        have HONE := Lib.hid (one_ok f t d)
        have HNEW := Lib.hid (fun z => one_new z f t d)
        have HSN : Hid (∀ (w5 : World) (v4 : Value) (base : Nat), w5.ownsRow base 30 3 v4 (n.length + 1) (flat n ++ [.int .i64 f, .int .i64 t, .string d]) → OwnP w5 base v4 (n ++ [⟨f, t, d⟩])) := fun w5 v4 base h => Own.snoc (x := (⟨f, t, d⟩ : Pk)) h
        have hnl1 : (n ++ [(⟨f, t, d⟩ : Pk)]).length = n.length + 1 := by simp
        have HNL := Lib.hid hnl1
        clear hk hn4 hnl1
        go_enter Try.func15, Try.ntmps15
        go_wp2_with (go_at_call 19; go_loud ((with_reducible refine (HX.out _ HB.out).mono ?_); rintro e w1 ⟨rfl, hb⟩; have HB1 := Lib.hid (HB.out.trans (hb.mono HB.out.size)); have y0 := (hb.cell (p := ⟨w.heap.size, 0, none⟩) HZ0.out).trans HP0.out; have f0 := (hb.frozen (p := ⟨w.heap.size, 0, none⟩) HZ0.out).trans HF0.out; have y1 := (hb.cell (p := ⟨w.heap.size + 1, 0, none⟩) HZ.out).trans HP1.out; have f1 := (hb.frozen (p := ⟨w.heap.size + 1, 0, none⟩) HZ.out).trans HF1.out; have HZ1 := Lib.hid (Nat.lt_of_lt_of_le HZ.out hb.size); clear hb))
        go_wp2_with (go_at_call 7; go_loud ((with_reducible refine (HC.out _ HB1.out).mono ?_); rintro e w2 ⟨v2, rfl, ho, hb⟩; obtain ⟨g9, c3, rfl, hat⟩ := HHD.out _ _ _ ho; have HB2 := Lib.hid (HB1.out.trans (hb.mono HB1.out.size)); have z0 := (hb.cell (p := ⟨w.heap.size, 0, none⟩) (by have := HZ1.out; show w.heap.size < _; omega)).trans y0; have g0 := (hb.frozen (p := ⟨w.heap.size, 0, none⟩) (by have := HZ1.out; show w.heap.size < _; omega)).trans f0; have z1 := (hb.cell (p := ⟨w.heap.size + 1, 0, none⟩) HZ1.out).trans y1; have g1 := (hb.frozen (p := ⟨w.heap.size + 1, 0, none⟩) HZ1.out).trans f1; have HO := Lib.hid ho; have HZ2 := Lib.hid (Nat.lt_of_lt_of_le HZ1.out hb.size); clear hb ho hat))
        go_wp2
        have HS0 : Hid (TwS w n (.slice (some ⟨g9, 0, none⟩) n.length c3) (w2.setCell ⟨w.heap.size, 0, none⟩ (.slice (some ⟨g9, 0, none⟩) n.length c3))) := by
          refine ⟨HB2.out.setCell (p := ⟨w.heap.size, 0, none⟩) (Nat.le_refl _) _, by rw [World.size_setCell]; exact HZ2.out, World.cell?_setCell_same _ _ _ z0, by rw [World.frozen?_setCell]; exact g0, (World.cell?_setCell_other _ _ _ _ (fun e => by have := congrArg Addr.block e; simp at this)).trans z1, by rw [World.frozen?_setCell]; exact g1, ?_⟩
          exact ownsRow_setCell_below (Own.le HO.out HZ1.out) (a := ⟨w.heap.size, 0, none⟩) (by show w.heap.size < w.heap.size + 2; omega) _
        clear y0 f0 y1 f1 z0 g0 z1 g1 HC HX HB1 HB2 HO HZ2 HZ1 HB HP0 HP1 HF0 HF1 HZ HZ0
        generalize w2.setCell ⟨w.heap.size, 0, none⟩ (.slice (some ⟨g9, 0, none⟩) n.length c3) = w3 at *
        have y0 := HS0.out.c0
        have hat : At w3 g9 (k * 3) (⟨f, t, d⟩ : Pk) := by
          obtain ⟨g, c, h1, h4⟩ := HHD.out _ _ _ HS0.out.own
          cases h1
          exact h4
        obtain ⟨x0, x1, x2⟩ := at_pk hat
        have x0 : w3.cell? ⟨g9, k * 3, none⟩ = some (.int .i64 f) := x0
        have x1 : w3.cell? ⟨g9, k * 3 + 1, none⟩ = some (.int .i64 t) := x1
        have x2 : w3.cell? ⟨g9, k * 3 + 2, none⟩ = some (.string d) := x2
        have y0a := cell_old (.cells #[.int .i64 f, .int .i64 t, .string d] 30) y0
        clear hat HHD
        have HAW := Lib.hid (HS0.out.go (al w3 (.cells #[.int .i64 f, .int .i64 t, .string d] 30)).drew)
        have HLT : Hid (w.heap.size + 2 ≤ (w3.alloc (.cells #[.int .i64 f, .int .i64 t, .string d] 30)).heap.size) := HAW.out.lt
        go_region_law (refine step_append_own1 rfl _ _ 22 rfl (w.heap.size + 2) 30 i0 _ 3 32 Try.underlying22 hi hq0 hq1 hq2 rfl (by omega) _ _ _ rfl (HAP.out _ _ _ HAW.out.own) ⟨w3.heap.size, 0, none⟩ 1 1 [.int .i64 f, .int .i64 t, .string d] rfl rfl (HNEW.out w3) HONE.out HMX.out HBY.out HLT.out ?_; intro v4 w5 hown hg5 hob; have HO6 := Lib.hid (HSN.out _ _ _ hown); have HM6 := Lib.hid (TwS.more HAW.out hg5 HO6.out); obtain ⟨⟨z0, g0, z1, g1⟩, -⟩ := HM6.out; have e6 := Own.slice HO6.out; rw [HNL.out] at e6; obtain ⟨a4, c4, rfl⟩ := e6; clear hown hg5 hob)
        all_goals go_wp2
        all_goals refine bodyPost_net2 (u := 5) rfl (w.heap.size + 1) (.slice a4 (n.length + 1) c4) rfl rfl (World.cell?_setCell_same _ _ _ HM6.out.2.c1) (HT1.out _ _ _ rfl ?_ (HM6.out.2.be.setCell (by show w.heap.size ≤ w.heap.size + 1; omega) _))
        all_goals exact Own.le (ownsRow_setCell_below HM6.out.2.own (a := ⟨w.heap.size + 1, 0, none⟩) (by show w.heap.size + 1 < w.heap.size + 2; omega) _) (by omega)
    · have h0 : refN n i = 1 := HRF.out.trans (if_neg hin)
      rw [h0] at HTW
      have HE3 : Hid (twN n i = 1) := HTW.out
      rw [HE3.out] at HT0
      clear h0 HRF HTW HC HE3
      by_cases h1 : 0 ≤ i
      · have t1 : decide (i < 0) = false := by simp; omega
        have t2 : decide ((n.length : Int) ≤ i) = true := by simp; omega
        have t3 : (n.length : Int) ≤ i := by omega
        clear hin
        go_enter Try.func15, Try.ntmps15
        go_wp2_with (go_at_call 19; go_loud ((with_reducible refine (HX.out _ HB.out).mono ?_); rintro e w1 ⟨rfl, hb⟩; have HB1 := Lib.hid (HB.out.trans (hb.mono HB.out.size)); have y0 := (hb.cell (p := ⟨w.heap.size, 0, none⟩) HZ0.out).trans HP0.out; have y1 := (hb.cell (p := ⟨w.heap.size + 1, 0, none⟩) HZ.out).trans HP1.out; have f1 := (hb.frozen (p := ⟨w.heap.size + 1, 0, none⟩) HZ.out).trans HF1.out; clear hb))
        go_wp2
        refine bodyPost_net2 (u := 5) rfl (w.heap.size + 1) (.slice none 0 0) rfl rfl (World.cell?_setCell_same _ _ _ y1) (HT0.out _ _ (by decide) rfl (HB1.out.setCell (by show w.heap.size ≤ w.heap.size + 1; omega) _))
      · have t1 : decide (i < 0) = true := by simp; omega
        clear hin
        go_enter Try.func15, Try.ntmps15
        go_wp2_with (go_at_call 19; go_loud ((with_reducible refine (HX.out _ HB.out).mono ?_); rintro e w1 ⟨rfl, hb⟩; have HB1 := Lib.hid (HB.out.trans (hb.mono HB.out.size)); have y0 := (hb.cell (p := ⟨w.heap.size, 0, none⟩) HZ0.out).trans HP0.out; have y1 := (hb.cell (p := ⟨w.heap.size + 1, 0, none⟩) HZ.out).trans HP1.out; have f1 := (hb.frozen (p := ⟨w.heap.size + 1, 0, none⟩) HZ.out).trans HF1.out; clear hb))
        go_wp2
        refine bodyPost_net2 (u := 5) rfl (w.heap.size + 1) (.slice none 0 0) rfl rfl (World.cell?_setCell_same _ _ _ y1) (HT0.out _ _ (by decide) rfl (HB1.out.setCell (by show w.heap.size ≤ w.heap.size + 1; omega) _))
end Nt
end Go.Proofs.Ytejolapbdkkdaaa
