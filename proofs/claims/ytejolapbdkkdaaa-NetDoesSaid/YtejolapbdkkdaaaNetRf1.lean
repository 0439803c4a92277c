/-
  gafferref18.right, Check, Take, Send.
-/
import Derived.Test.YtejolapbdkkdaaaNetCopy
namespace Go.Proofs.Ytejolapbdkkdaaa
open Go.RowKit Go.Lib
namespace Nt
open Rw
set_option linter.unusedVariables false
theorem isB_no1 {n : Int} (h : ¬ 1 ≤ n) : isB n = false := by unfold isB; rw [decide_eq_false h]; rfl
theorem isB_no2 {n : Int} (h1 : 1 ≤ n) (h : ¬ n ≤ 7) : isB n = false := by unfold isB; rw [decide_eq_true h1, decide_eq_false h]; rfl
theorem isB_yes {n : Int} (h1 : 1 ≤ n) (h : n ≤ 7) : isB n = true := by unfold isB; rw [decide_eq_true h1, decide_eq_true h]; rfl
set_option maxHeartbeats 2000000 in
theorem right_ref (p : Pk) (w : World) : Calls Try.prog 23 #[.agg #[.int .i64 p.f, .int .i64 p.t, .string p.d]] w fun e w' => e = .returned (.bool (rightB p)) ∧ Below w.heap.size w w' := by
  rcases p with ⟨f, t, d⟩
  have HI : Hid (rightB ⟨f, t, d⟩ = (isB f && isB t && !(f == t))) := rfl
  have HB := Lib.hid ((Below.refl _ w).alloc (Nat.le_refl _) (.cells #[.int .i64 f, .int .i64 t, .string d] 30))
  generalize rightB ⟨f, t, d⟩ = q at *
  dsimp only
  by_cases f1 : 1 ≤ f
  · have t1 : decide (1 ≤ f) = true := by simpa using f1
    by_cases f2 : f ≤ 7
    · have t2 : decide (f ≤ 7) = true := by simpa using f2
      rw [isB_yes f1 f2] at HI
      by_cases f3 : 1 ≤ t
      · have t3 : decide (1 ≤ t) = true := by simpa using f3
        by_cases f4 : t ≤ 7
        · have t4 : decide (t ≤ 7) = true := by simpa using f4
          rw [isB_yes f3 f4] at HI
          have HE : Hid (q = !(f == t)) := HI.out.trans rfl
          clear HI
          go_enter Try.func23, Try.ntmps23
          go_wp2
          go_ret
          exact ⟨by rw [HE.out]; cases h9 : (f == t) <;> simp [bne, h9], HB.out⟩
        · have t4 : decide (t ≤ 7) = false := by simpa using f4
          rw [isB_no2 f3 f4] at HI
          have HE : Hid (q = false) := HI.out.trans rfl
          clear HI
          go_enter Try.func23, Try.ntmps23
          go_wp2
          go_ret
          exact ⟨by rw [HE.out]; rfl, HB.out⟩
      · have t3 : decide (1 ≤ t) = false := by simpa using f3
        rw [isB_no1 f3] at HI
        have HE : Hid (q = false) := HI.out.trans rfl
        clear HI
        go_enter Try.func23, Try.ntmps23
        go_wp2
        go_ret
        exact ⟨by rw [HE.out]; rfl, HB.out⟩
    · have t2 : decide (f ≤ 7) = false := by simpa using f2
      rw [isB_no2 f1 f2] at HI
      have HE : Hid (q = false) := HI.out.trans rfl
      clear HI
      go_enter Try.func23, Try.ntmps23
      go_wp2
      go_ret
      exact ⟨by rw [HE.out]; rfl, HB.out⟩
  · have t1 : decide (1 ≤ f) = false := by simpa using f1
    rw [isB_no1 f1] at HI
    have HE : Hid (q = false) := HI.out.trans rfl
    clear HI
    go_enter Try.func23, Try.ntmps23
    go_wp2
    go_ret
    exact ⟨by rw [HE.out]; rfl, HB.out⟩
set_option maxHeartbeats 2000000 in
theorem check_ref (v : Value) (l : List Pk) (w : World) {A : Nat} (h : Sl w A w.heap.size v l) :
    Calls Try.prog 19 #[.agg #[v]] w fun e w' => e = .returned (.int .i64 (errN l)) ∧ Below w.heap.size w w' := by
  obtain ⟨a, c, rfl, -, -, hl, hc⟩ := h
  have HC := Lib.hid hc
  clear hc
  have HBX := Lib.hid (al w (.cells #[.slice a l.length c] 24))
  have HC0 := Lib.hid (cell_new w (.slice a l.length c) 24)
  have HE : Hid (errN l = if decide (l.length ≤ 4096) && l.all rightB then 0 else 10) := rfl
  generalize errN l = r at *
  go_enter Try.func19, Try.ntmps19
  go_wp2
  go_loopg [8] l.length (fun gg i wx => ∃ k : Nat, k + gg = l.length ∧ i = .int .i64 k ∧ Aside (Below w.heap.size w wx) ∧ Aside (wx.cell? ⟨w.heap.size, 0, none⟩ = some (.slice a l.length c)) ∧ Aside (w.heap.size < wx.heap.size) ∧ Aside (l.all rightB = (l.drop k).all rightB))
  case atStart => exact ⟨0, by omega, rfl, HBX.out, HC0.out, by show _ < _; simp, rfl⟩
  case round =>
    obtain ⟨k, hkg, rfl, HB, HY, HZ, HA⟩ := hrel
    cases gk with
    | zero =>
      obtain rfl : k = l.length := by omega
      have HALL : Hid (l.all rightB = true) := HA.out.trans (by rw [List.drop_length]; rfl)
      rw [HALL.out, Bool.and_true] at HE
      have y0 := HY.out
      clear hkg HA
      by_cases h4 : l.length ≤ 4096
      · have t1 : decide ((4096 : Int) < (l.length : Int)) = false := by simp; omega
        have t2 : ¬ ((4096 : Int) < (l.length : Int)) := by omega
        have HR : Hid (r = 0) := HE.out.trans (if_pos (by simpa using h4))
        clear HE
        go_wp2
        go_ret
        exact ⟨by rw [HR.out]; rfl, HB.out⟩
      · have t1 : decide ((4096 : Int) < (l.length : Int)) = true := by simp; omega
        have t2 : (4096 : Int) < (l.length : Int) := by omega
        have HR : Hid (r = 10) := HE.out.trans (if_neg (by simpa using h4))
        clear HE
        go_wp2
        go_ret
        exact ⟨by rw [HR.out]; rfl, HB.out⟩
    | succ gg =>
      have hlt : k < l.length := by omega
      have hlt2 : (k : Int) < (l.length : Int) := by omega
      obtain ⟨b, off, rfl, hA, hb, hcell⟩ := HC.out (by omega)
      obtain ⟨x0, x1, x2⟩ := at_pk ((hcell k hlt).keep HB.out hb)
      have x0 : wr.cell? ⟨b, off + k * 3, none⟩ = some (.int .i64 l[k].f) := x0
      have x1 : wr.cell? ⟨b, off + k * 3 + 1, none⟩ = some (.int .i64 l[k].t) := x1
      have x2 : wr.cell? ⟨b, off + k * 3 + 2, none⟩ = some (.string l[k].d) := x2
      have HM := Lib.hid (all_at l k hlt)
      have HW := Lib.hid (fun z => right_ref l[k] z)
      have tk : IntKind.i64.wrap ((k : Int) + 1) = (k : Int) + 1 := by rw [IntKind.wrap_i64]; omega
      clear hcell hA hb
      generalize l[k] = x at *
      rcases x with ⟨f, t, d⟩
      dsimp only at x0 x1 x2 HW
      have HAW := Lib.hid (al wr (.cells #[.int .i64 f, .int .i64 t, .string d] 30))
      cases hq : rightB ⟨f, t, d⟩
      · rw [hq] at HW HM
        have HALL : Hid (l.all rightB = false) := HA.out.trans (HM.out.trans rfl)
        rw [HALL.out, Bool.and_false] at HE
        have HR : Hid (r = 10) := HE.out
        clear hq HM HE
        go_wp2_with (go_at_call 23; go_loud ((with_reducible refine (HW.out _).mono ?_); rintro e w1 ⟨rfl, hb⟩; have HB1 := Lib.hid (HB.out.trans ((HAW.out.trans (hb.mono HAW.out.size)).mono HB.out.size)); clear hb))
        go_wp2
        go_ret
        exact ⟨by rw [HR.out]; rfl, HB1.out⟩
      · rw [hq] at HW HM
        have HALL : Hid (l.all rightB = (l.drop (k + 1)).all rightB) := HA.out.trans (HM.out.trans (Bool.true_and _))
        clear hq HM
        go_wp2_with (go_at_call 23; go_loud ((with_reducible refine (HW.out _).mono ?_); rintro e w1 ⟨rfl, hb⟩; have hb2 := HAW.out.trans (hb.mono HAW.out.size); have HB1 := Lib.hid (HB.out.trans (hb2.mono HB.out.size)); have HY1 := Lib.hid ((hb2.cell (p := ⟨w.heap.size, 0, none⟩) HZ.out).trans HY.out); have HZ1 := Lib.hid (Nat.lt_of_lt_of_le HZ.out hb2.size); clear hb hb2))
        go_wp2
        go_roundg gg
        case measure => omega
        case rel => exact ⟨k + 1, by omega, by simp, HB1.out, HY1.out, HZ1.out, HALL.out⟩
set_option maxHeartbeats 2000000 in
theorem take_ref (va : Value) (n : List Pk) (w : World) {A : Nat} (hn : Sl w A w.heap.size va n) : Calls Try.prog 17 #[.agg #[va]] w (TakeIs w n) := by
  have HX : Hid (∀ z, Below w.heap.size w z → Calls Try.prog 19 #[.agg #[va]] z fun e w' => e = .returned (.int .i64 (errN n)) ∧ Below z.heap.size z w') := fun z hz => check_ref va n z (hn.on hz)
  have HC : Hid (∀ z, Below w.heap.size w z → Calls Try.prog 7 #[.agg #[va]] z (CopyIs z n)) := fun z hz => copy_ref va n z (hn.on hz)
  obtain ⟨a, c, rfl⟩ := hn.slice
  clear hn
  have HT : Hid (∀ v' e w', e = .returned (.tuple #[v', .agg #[.slice none 0 0], .int .i64 (errN n)]) → OwnP w' w.heap.size v' (if netB n then n else []) → Below w.heap.size w w' → TakeIs w n e w') := fun v' e w' h1 h2 h3 => ⟨v', h1, h2, h3⟩
  obtain ⟨⟨hp0, hp1, hf1⟩, hb0, hs0⟩ := boxes2 w (.slice a n.length c)
  have HB := Lib.hid hb0
  have HP0 := Lib.hid hp0
  have HP1 := Lib.hid hp1
  have HF1 := Lib.hid hf1
  have HE : Hid (errN n = if netB n then 0 else 10) := rfl
  have HZ : Hid (w.heap.size + 1 < ((w.alloc (.cells #[.slice a n.length c] 24)).alloc (.cells #[.slice none 0 0] 24)).heap.size) := by show _ < _; omega
  have HZ0 : Hid (w.heap.size < ((w.alloc (.cells #[.slice a n.length c] 24)).alloc (.cells #[.slice none 0 0] 24)).heap.size) := by show _ < _; omega
  clear hp0 hp1 hf1 hb0 hs0
  cases hq : netB n
  · rw [hq] at HT HE
    have HE2 : Hid (errN n = 10) := HE.out
    rw [HE2.out] at HX HT
    clear HE hq HC
    go_enter Try.func17, Try.ntmps17
    go_wp2_with (go_at_call 19; go_loud ((with_reducible refine (HX.out _ HB.out).mono ?_); rintro e w1 ⟨rfl, hb⟩; have HB1 := Lib.hid (HB.out.trans (hb.mono HB.out.size)); have y1 := (hb.cell (p := ⟨w.heap.size + 1, 0, none⟩) HZ.out).trans HP1.out; have f1 := (hb.frozen (p := ⟨w.heap.size + 1, 0, none⟩) HZ.out).trans HF1.out; clear hb))
    go_wp2
    refine bodyPost_take (u := 2) (x := 4) rfl (w.heap.size + 1) (.slice none 0 0) rfl rfl (World.cell?_setCell_same _ _ _ y1) (HT.out _ _ _ rfl (Own.nil _ _ _) (HB1.out.setCell (by show w.heap.size ≤ w.heap.size + 1; omega) _))
  · rw [hq] at HT HE
    have HE2 : Hid (errN n = 0) := HE.out
    rw [HE2.out] at HX HT
    clear HE hq
    have hfd : ∀ (a : Option Addr) (n c : Nat) (w : World), (Instr.field 24 (.agg #[.slice a n c]) 0).run Try.prog w = .ok (.slice a n c) w := fun _ _ _ _ => by kernel_rfl
    go_enter Try.func17, Try.ntmps17
    go_wp2_with (go_at_call 19; go_loud ((with_reducible refine (HX.out _ HB.out).mono ?_); rintro e w1 ⟨rfl, hb⟩; have HB1 := Lib.hid (HB.out.trans (hb.mono HB.out.size)); have y0 := (hb.cell (p := ⟨w.heap.size, 0, none⟩) HZ0.out).trans HP0.out; have y1 := (hb.cell (p := ⟨w.heap.size + 1, 0, none⟩) HZ.out).trans HP1.out; have f1 := (hb.frozen (p := ⟨w.heap.size + 1, 0, none⟩) HZ.out).trans HF1.out; have HZ1 := Lib.hid (Nat.lt_of_lt_of_le HZ.out hb.size); clear hb))
    go_wp2_with (go_at_call 7; go_loud ((with_reducible refine (HC.out _ HB1.out).mono ?_); rintro e w2 ⟨v2, rfl, ho, hb⟩; obtain ⟨a3, c3, rfl⟩ := Own.slice ho; have HB2 := Lib.hid (HB1.out.trans (hb.mono HB1.out.size)); have z1 := (hb.cell (p := ⟨w.heap.size + 1, 0, none⟩) HZ1.out).trans y1; have g1 := (hb.frozen (p := ⟨w.heap.size + 1, 0, none⟩) HZ1.out).trans f1; have HO := Lib.hid ho; clear hb ho))
    go_wp2
    refine bodyPost_take (u := 2) (x := 4) rfl (w.heap.size + 1) (.slice none 0 0) rfl rfl (World.cell?_setCell_same _ _ _ z1) ?_
    refine HT.out (.slice a3 n.length c3) _ _ rfl ?_ (HB2.out.setCell (p := ⟨w.heap.size + 1, 0, none⟩) (by show w.heap.size ≤ w.heap.size + 1; omega) _)
    exact Own.le (ownsRow_setCell_below HO.out (a := ⟨w.heap.size + 1, 0, none⟩) HZ1.out _) HB1.out.size
/-- What the loop of the document's Send makes. -/
theorem sent_step (n l : List Pk) (k : Nat) (h : k < l.length) (hn : n.length ≤ 4096) : (l.take (k + 1)).filter rightB = (l.take k).filter rightB ++ (if rightB l[k] then [l[k]] else []) ∧
    sent n (l.take (k + 1)) = if rightB l[k] && decide (n.length + (sent n (l.take k)).length < 4096) then sent n (l.take k) ++ [l[k]] else sent n (l.take k) := by
  have h1 := filt_at l k h
  refine ⟨h1, ?_⟩
  unfold sent
  rw [h1]
  generalize (l.take k).filter rightB = F at *
  cases hq : rightB l[k]
  · simp
  · simp only [Bool.true_and, if_true]
    by_cases hf : F.length < 4096 - n.length
    · rw [List.take_of_length_le (l := F) (by omega), if_pos (by simp; omega), List.take_of_length_le (by simp; omega)]
    · rw [List.take_append_of_le_length (by omega), if_neg (by rw [List.length_take]; simp; omega)]
theorem sent_le (n l : List Pk) : (sent n l).length ≤ 4096 - n.length := List.length_take_le _ _
/-- The document's Send, its boxes: the net, and the answer; k packets were looked at. -/
structure RfS (w : World) (n l : List Pk) (k : Nat) (u : Value) (z : World) : Prop where
  be : Below w.heap.size w z
  lt : w.heap.size + 1 < z.heap.size
  c0 : z.cell? ⟨w.heap.size, 0, none⟩ = some u
  f0 : z.frozen? ⟨w.heap.size, 0, none⟩ = false
  c1 : z.cell? ⟨w.heap.size + 1, 0, none⟩ = some (.slice none 0 0)
  f1 : z.frozen? ⟨w.heap.size + 1, 0, none⟩ = false
  own : OwnP z (w.heap.size + 2) u (n ++ sent n (l.take k))
theorem RfS.go {w z z' : World} {n l : List Pk} {k : Nat} {u : Value} (h : RfS w n l k u z) (hb : Below z.heap.size z z') : RfS w n l k u z' := by
  have h2 := h.lt
  exact ⟨h.be.trans (hb.mono h.be.size), Nat.lt_of_lt_of_le h2 hb.size, (hb.cell (by show w.heap.size < _; omega)).trans h.c0, (hb.frozen (by show w.heap.size < _; omega)).trans h.f0, (hb.cell (by exact h2)).trans h.c1, (hb.frozen (by exact h2)).trans h.f1, keepP h.own hb⟩
theorem RfS.same {w z : World} {n l : List Pk} {k : Nat} {u : Value} (h : RfS w n l k u z) (he : sent n (l.take (k + 1)) = sent n (l.take k)) : RfS w n l (k + 1) u z := ⟨h.be, h.lt, h.c0, h.f0, h.c1, h.f1, by rw [he]; exact h.own⟩
/-- One packet more was put behind the net. -/
theorem RfS.more {w z z' : World} {n l : List Pk} {k : Nat} {u u' : Value} (h : RfS w n l k u z) (hg : z.grownBy z' u.ownBlock) (ho : OwnP z' (w.heap.size + 2) u' (n ++ sent n (l.take (k + 1)))) : RfS w n l (k + 1) u' (z'.setCell ⟨w.heap.size, 0, none⟩ u') := by
  have h2 := h.lt
  have hn : ∀ g, u.ownBlock = some g → w.heap.size + 2 ≤ g := fun g hg => (Own.lt h.own g hg).1
  have hne : ∀ b, b < w.heap.size + 2 → some b ≠ u.ownBlock := fun b hb e => by have := hn b e.symm; omega
  have c0 := hg.cell h.c0 (hne _ (by show w.heap.size < _; omega))
  have c1 := hg.cell h.c1 (hne _ (by show w.heap.size + 1 < _; omega))
  have f0 := (World.frozen?_of_block (a := ⟨w.heap.size, 0, none⟩) (hg.block w.heap.size (by omega) (hne _ (by omega)))).trans h.f0
  have f1 := (World.frozen?_of_block (a := ⟨w.heap.size + 1, 0, none⟩) (hg.block (w.heap.size + 1) h2 (hne _ (by omega)))).trans h.f1
  have hbe := h.be.grown hg h.be.size (fun g hg => by have := hn g hg; omega)
  refine ⟨hbe.setCell (p := ⟨w.heap.size, 0, none⟩) (Nat.le_refl _) _, by rw [World.size_setCell]; exact Nat.lt_of_lt_of_le h2 hg.size, World.cell?_setCell_same _ _ _ c0, by rw [World.frozen?_setCell]; exact f0, (World.cell?_setCell_other _ _ _ _ (fun e => by have := congrArg Addr.block e; simp at this)).trans c1, by rw [World.frozen?_setCell]; exact f1, ?_⟩
  exact ownsRow_setCell_below ho (a := ⟨w.heap.size, 0, none⟩) (by show w.heap.size < w.heap.size + 2; omega) _
set_option maxRecDepth 100000 in
set_option maxHeartbeats 4000000 in
theorem send_ref (va vl : Value) (n l : List Pk) (w : World) {A B : Nat} (hn : Sl w A w.heap.size va n) (hl : Sl w B w.heap.size vl l) :
    Calls Try.prog 9 #[.agg #[va], vl] w (SendIs w n l) := by
  have HX : Hid (∀ z, Below w.heap.size w z → Calls Try.prog 19 #[.agg #[va]] z fun e w' => e = .returned (.int .i64 (errN n)) ∧ Below z.heap.size z w') := fun z hz => check_ref va n z (hn.on hz)
  have HC : Hid (∀ z, Below w.heap.size w z → Calls Try.prog 7 #[.agg #[va]] z (CopyIs z n)) := fun z hz => copy_ref va n z (hn.on hz)
  obtain ⟨a, c, rfl⟩ := hn.slice
  obtain ⟨a2, c2, rfl, -, -, hll, hcc⟩ := hl
  have HL := Lib.hid hcc
  clear hn hcc
  obtain ⟨⟨hp0, hp1, hf1⟩, hb0, hs0⟩ := boxes2 w (.slice a n.length c)
  have hf0 : ((w.alloc (.cells #[.slice a n.length c] 24)).alloc (.cells #[.slice none 0 0] 24)).frozen? ⟨w.heap.size, 0, none⟩ = false := frozen_of_row _ _ 0 #[.slice a n.length c] 24 (by rw [Below.heap_alloc _ _ _ (by simp)]; exact heap_alloc_new w _)
  have HB := Lib.hid hb0
  have HP0 := Lib.hid hp0
  have HP1 := Lib.hid hp1
  have HF1 := Lib.hid hf1
  have HF0 := Lib.hid hf0
  have HE : Hid (errN n = if netB n then 0 else 10) := rfl
  have HZ : Hid (w.heap.size + 1 < ((w.alloc (.cells #[.slice a n.length c] 24)).alloc (.cells #[.slice none 0 0] 24)).heap.size) := by show _ < _; omega
  have HZ0 : Hid (w.heap.size < ((w.alloc (.cells #[.slice a n.length c] 24)).alloc (.cells #[.slice none 0 0] 24)).heap.size) := by show _ < _; omega
  clear hp0 hp1 hf1 hb0 hs0 hf0
  cases hq : netB n
  · have HT : Hid (∀ e w', e = .returned (.tuple #[.agg #[.slice none 0 0], .int .i64 0, .int .i64 10]) → Below w.heap.size w w' → SendIs w n l e w') := fun e w' h1 h2 =>
      ⟨.slice none 0 0, by rw [h1]; unfold putN errN; rw [hq]; rfl, by unfold putR; rw [hq]; exact Own.nil _ _ _, h2⟩
    rw [hq] at HE
    have HE2 : Hid (errN n = 10) := HE.out
    rw [HE2.out] at HX
    clear HE hq HC HL
    go_enter Try.func9, Try.ntmps9
    go_wp2_with (go_at_call 19; go_loud ((with_reducible refine (HX.out _ HB.out).mono ?_); rintro e w1 ⟨rfl, hb⟩; have HB1 := Lib.hid (HB.out.trans (hb.mono HB.out.size)); have y1 := (hb.cell (p := ⟨w.heap.size + 1, 0, none⟩) HZ.out).trans HP1.out; have f1 := (hb.frozen (p := ⟨w.heap.size + 1, 0, none⟩) HZ.out).trans HF1.out; clear hb))
    go_wp2
    refine bodyPost_net3 (u := 5) (x := 6) rfl (w.heap.size + 1) (.slice none 0 0) rfl rfl (World.cell?_setCell_same _ _ _ y1) (HT.out _ _ rfl (HB1.out.setCell (by show w.heap.size ≤ w.heap.size + 1; omega) _))
  · have hn4 := net_len hq
    have HT : Hid (∀ v' e w', e = .returned (.tuple #[.agg #[v'], .int .i64 ((sent n l).length : Nat), .int .i64 0]) → OwnP w' w.heap.size v' (n ++ sent n l) → Below w.heap.size w w' → SendIs w n l e w') := fun v' e w' h1 h2 h3 =>
      ⟨v', by rw [h1]; unfold putN errN; rw [hq]; rfl, by unfold putR; rw [hq]; exact h2, h3⟩
    rw [hq] at HE
    have HE2 : Hid (errN n = 0) := HE.out
    rw [HE2.out] at HX
    clear HE hq
    go_enter Try.func9, Try.ntmps9
    go_wp2_with (go_at_call 19; go_loud ((with_reducible refine (HX.out _ HB.out).mono ?_); rintro e w1 ⟨rfl, hb⟩; have HB1 := Lib.hid (HB.out.trans (hb.mono HB.out.size)); have y0 := (hb.cell (p := ⟨w.heap.size, 0, none⟩) HZ0.out).trans HP0.out; have f0 := (hb.frozen (p := ⟨w.heap.size, 0, none⟩) HZ0.out).trans HF0.out; have y1 := (hb.cell (p := ⟨w.heap.size + 1, 0, none⟩) HZ.out).trans HP1.out; have f1 := (hb.frozen (p := ⟨w.heap.size + 1, 0, none⟩) HZ.out).trans HF1.out; have HZ1 := Lib.hid (Nat.lt_of_lt_of_le HZ.out hb.size); clear hb))
    go_wp2_with (go_at_call 7; go_loud ((with_reducible refine (HC.out _ HB1.out).mono ?_); rintro e w2 ⟨v2, rfl, ho, hb⟩; obtain ⟨a3, c3, rfl⟩ := Own.slice ho; have HB2 := Lib.hid (HB1.out.trans (hb.mono HB1.out.size)); have z0 := (hb.cell (p := ⟨w.heap.size, 0, none⟩) (by have := HZ1.out; show w.heap.size < _; omega)).trans y0; have g0 := (hb.frozen (p := ⟨w.heap.size, 0, none⟩) (by have := HZ1.out; show w.heap.size < _; omega)).trans f0; have z1 := (hb.cell (p := ⟨w.heap.size + 1, 0, none⟩) HZ1.out).trans y1; have g1 := (hb.frozen (p := ⟨w.heap.size + 1, 0, none⟩) HZ1.out).trans f1; have HO := Lib.hid ho; have HZ2 := Lib.hid (Nat.lt_of_lt_of_le HZ1.out hb.size); clear hb ho))
    go_wp2
    have HS0 : Hid (RfS w n l 0 (.slice a3 n.length c3) (w2.setCell ⟨w.heap.size, 0, none⟩ (.slice a3 n.length c3))) := by
      refine ⟨HB2.out.setCell (p := ⟨w.heap.size, 0, none⟩) (Nat.le_refl _) _, by rw [World.size_setCell]; exact HZ2.out, World.cell?_setCell_same _ _ _ z0, by rw [World.frozen?_setCell]; exact g0, (World.cell?_setCell_other _ _ _ _ (fun e => by have := congrArg Addr.block e; simp at this)).trans z1, by rw [World.frozen?_setCell]; exact g1, ?_⟩
      rw [show n ++ sent n (l.take 0) = n by simp [sent]]
      exact ownsRow_setCell_below (Own.le HO.out HZ1.out) (a := ⟨w.heap.size, 0, none⟩) (by show w.heap.size < w.heap.size + 2; omega) _
    clear y0 f0 y1 f1 z0 g0 z1 g1 HC HX HB1 HB2 HO HZ2 HZ1
    generalize w2.setCell ⟨w.heap.size, 0, none⟩ (.slice a3 n.length c3) = w3 at *
    go_loopg [7, 18] l.length (fun gg pv iv wx => ∃ (k : Nat) (u : Value), k + gg = l.length ∧ pv = .int .i64 ((sent n (l.take k)).length : Nat) ∧ iv = .int .i64 k ∧ Aside (RfS w n l k u wx))
    case atStart => exact ⟨0, _, by omega, by simp [sent], rfl, HS0.out⟩
    case round =>
      obtain ⟨k, u, hkg, rfl, rfl, HS⟩ := hrel
      clear HS0
      obtain ⟨au, cu, rfl⟩ := Own.slice HS.out.own
      have y0 := HS.out.c0
      have y1 := HS.out.c1
      have f0 := HS.out.f0
      have f1 := HS.out.f1
      have hsl := sent_le n (l.take k)
      cases gk with
      | zero =>
        obtain rfl : k = l.length := by omega
        have HOE : Hid (OwnP wr (w.heap.size + 2) (.slice au (n ++ sent n (l.take l.length)).length cu) (n ++ sent n l)) := by
          have := HS.out.own
          rw [List.take_length] at this ⊢
          exact this
        have HSE : Hid ((sent n (l.take l.length)).length = (sent n l).length) := by show _ = _; rw [List.take_length]
        generalize (n ++ sent n (l.take l.length)).length = q at *
        generalize (sent n (l.take l.length)).length = q2 at *
        clear hkg hsl
        go_wp2
        refine bodyPost_net3 (u := 5) (x := 6) rfl (w.heap.size + 1) (.slice au q cu) rfl rfl (World.cell?_setCell_same _ _ _ y1) ?_
        refine HT.out (.slice au q cu) _ _ (by rw [← HSE.out]; rfl) ?_ (HS.out.be.setCell (p := ⟨w.heap.size + 1, 0, none⟩) (by show w.heap.size ≤ w.heap.size + 1; omega) _)
        exact Own.le (ownsRow_setCell_below HOE.out (a := ⟨w.heap.size + 1, 0, none⟩) (by show w.heap.size + 1 < w.heap.size + 2; omega) _) (by omega)
      | succ gg =>
        have hlt : k < l.length := by omega
        have hlt2 : (k : Int) < (l.length : Int) := by omega
        obtain ⟨b, off, rfl, hA, hb, hcell⟩ := HL.out (by omega)
        obtain ⟨x0, x1, x2⟩ := at_pk ((hcell k hlt).keep HS.out.be hb)
        have x0 : wr.cell? ⟨b, off + k * 3, none⟩ = some (.int .i64 l[k].f) := x0
        have x1 : wr.cell? ⟨b, off + k * 3 + 1, none⟩ = some (.int .i64 l[k].t) := x1
        have x2 : wr.cell? ⟨b, off + k * 3 + 2, none⟩ = some (.string l[k].d) := x2
        have HM := Lib.hid (sent_step n l k hlt hn4).2
        have HW := Lib.hid (fun z => right_ref l[k] z)
        have tk : IntKind.i64.wrap ((k : Int) + 1) = (k : Int) + 1 := by rw [IntKind.wrap_i64]; omega
        have hqn : (n ++ sent n (l.take k)).length = n.length + (sent n (l.take k)).length := List.length_append
        clear hcell hA hb
        generalize l[k] = x at *
        rcases x with ⟨f, t, d⟩
        dsimp only at x0 x1 x2 HW
        generalize hS : sent n (l.take k) = S at *
        have HSS := Lib.hid hS
        clear hS
        generalize hq9 : (n ++ S).length = q at *
        have HQ9 := Lib.hid hq9
        have HQN := Lib.hid hqn
        clear hq9
        have HAW := Lib.hid (al wr (.cells #[.int .i64 f, .int .i64 t, .string d] 30))
        have HP9 := Lib.hid (at_new wr (⟨f, t, d⟩ : Pk) 30)
        have HZ9 : Hid (wr.heap.size < (wr.alloc (.cells #[.int .i64 f, .int .i64 t, .string d] 30)).heap.size) := by show _ < _; simp
        have HK := Lib.hid hkg
        clear hkg
        cases hq : rightB ⟨f, t, d⟩
        · rw [hq] at HW HM
          have HE : Hid (sent n (l.take (k + 1)) = S) := HM.out.trans rfl
          clear hq HM hqn
          go_wp2_with (go_at_call 23; go_loud ((with_reducible refine (HW.out _).mono ?_); rintro e w5 ⟨rfl, hb⟩; have HS5 := Lib.hid ((HS.out.go HAW.out).go hb); clear hb))
          go_wp2
          go_roundg gg
          case measure => omega
          case rel => exact ⟨k + 1, _, by have := HK.out; omega, by rw [HE.out], by simp, RfS.same HS5.out (by rw [HE.out, HSS.out])⟩
        · rw [hq] at HW HM
          by_cases hrm : q < 4096
          · have HE : Hid (sent n (l.take (k + 1)) = S ++ [⟨f, t, d⟩]) := HM.out.trans (if_pos (by simp; omega))
            have m1 : decide ((q : Int) < 4096) = true := by simp; omega
            have m2 : (q : Int) < 4096 := by omega
            have tp : IntKind.i64.wrap ((S.length : Int) + 1) = (S.length : Int) + 1 := by rw [IntKind.wrap_i64]; omega
            obtain ⟨i0, hi, hq0, hq1, hq2⟩ := info_parts info_pk
            have HONE := Lib.hid (one_ok f t d)
            have HMX : Hid (q + 1 ≤ maxLen) := by show _ ≤ _; unfold maxLen; omega
            have HBY : Hid ((q + 1) * 32 ≤ 140737488355328) := by show _ ≤ _; omega
            have HNEW := Lib.hid (fun z => one_new z f t d)
            have HSN : Hid (∀ (w5 : World) (v4 : Value) (base : Nat), w5.ownsRow base 30 3 v4 (q + 1) (flat (n ++ S) ++ [.int .i64 f, .int .i64 t, .string d]) → OwnP w5 base v4 (n ++ sent n (l.take (k + 1)))) := fun w5 v4 base h => by
              rw [HE.out, ← List.append_assoc]
              refine Own.snoc (x := (⟨f, t, d⟩ : Pk)) ?_
              rw [HQ9.out]
              exact h
            have HOW : Hid (∀ z, OwnP z (w.heap.size + 2) (.slice au q cu) (n ++ S) → z.ownsRow (w.heap.size + 2) 30 3 (.slice au q cu) q (flat (n ++ S))) := fun z h => by
              have h8 : z.ownsRow (w.heap.size + 2) 30 3 (.slice au q cu) (n ++ S).length (flat (n ++ S)) := h
              rw [HQ9.out] at h8
              exact h8
            have HSO : Hid (∀ z, RfS w n l k (.slice au q cu) z → OwnP z (w.heap.size + 2) (.slice au q cu) (n ++ S)) := fun z h => by rw [← HSS.out]; exact h.own
            clear hq HM hqn hrm
            go_wp2_with (first | (go_at_call 23; go_loud ((with_reducible refine (HW.out _).mono ?_); rintro e w5 ⟨rfl, hb⟩; have HS5 := Lib.hid ((HS.out.go HAW.out).go hb); have z0 := HS5.out.c0; have zf := HS5.out.f0; obtain ⟨p0, p1, p2⟩ := at_pk (HP9.out.keep hb HZ9.out); have HS6 := Lib.hid (HS5.out.go (al w5 (.cells #[.int .i64 f, .int .i64 t, .string d] 30))); clear hb)) | (at_builtin; go_loud (refine wpList_append_own_at _ rfl _ _ 22 rfl (w.heap.size + 2) 30 i0 _ 3 32 Try.underlying22 hi hq0 hq1 hq2 rfl (by omega) _ _ _ rfl (HOW.out _ (HSO.out _ HS6.out)) ⟨w5.heap.size, 0, none⟩ 1 1 [.int .i64 f, .int .i64 t, .string d] rfl rfl (HNEW.out w5) HONE.out HMX.out HBY.out (by have := HS6.out.lt; omega) ?_; intro v4 w6 hown hg6 hnil hob; have HO6 := Lib.hid (HSN.out _ _ _ hown); obtain ⟨a4, c4, e4⟩ := Own.slice HO6.out; obtain ⟨q4, hq4⟩ : ∃ q4, q4 = (n ++ sent n (l.take (k + 1))).length := ⟨_, rfl⟩; rw [← hq4] at e4; subst e4; clear hq4; have HR6 := Lib.hid (RfS.more HS6.out hg6 HO6.out); have q0 := hg6.cell HS6.out.c0 (fun e => by have h7 : w.heap.size + 2 ≤ w.heap.size := (Own.lt HS6.out.own _ e.symm).1; omega); have qf := (World.frozen?_of_block (a := ⟨w.heap.size, 0, none⟩) (hg6.block w.heap.size (by have := HS6.out.lt; omega) (fun e => by have h7 : w.heap.size + 2 ≤ w.heap.size := (Own.lt HS6.out.own _ e.symm).1; omega))).trans HS6.out.f0; clear hown hg6 hnil hob)))
            go_wp2
            go_roundg gg
            case measure => omega
            case rel => exact ⟨k + 1, _, by have := HK.out; omega, by rw [HE.out]; simp, by simp, HR6.out⟩
          · have HE : Hid (sent n (l.take (k + 1)) = S) := HM.out.trans (if_neg (by simp; omega))
            have m1 : decide ((q : Int) < 4096) = false := by simp; omega
            have m2 : ¬ (q : Int) < 4096 := by omega
            clear hq HM hqn hrm
            go_wp2_with (go_at_call 23; go_loud ((with_reducible refine (HW.out _).mono ?_); rintro e w5 ⟨rfl, hb⟩; have HS5 := Lib.hid ((HS.out.go HAW.out).go hb); have z0 := HS5.out.c0; clear hb))
            go_wp2
            go_roundg gg
            case measure => omega
            case rel => exact ⟨k + 1, _, by have := HK.out; omega, by rw [HE.out], by simp, RfS.same HS5.out (by rw [HE.out, HSS.out])⟩
end Nt
end Go.Proofs.Ytejolapbdkkdaaa
