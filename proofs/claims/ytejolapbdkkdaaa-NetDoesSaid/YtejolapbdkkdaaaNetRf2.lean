/-
  gafferref18.Twice, Give.
-/
import Derived.Test.YtejolapbdkkdaaaNetRf1
import Derived.Deep.RegionHeld3
namespace Go.Proofs.Ytejolapbdkkdaaa
open Go.RowKit Go.Lib
namespace Nt
open Rw
set_option linter.unusedVariables false
theorem own_head {z : World} {base : Nat} {v : Value} {l : List Pk} (h : OwnP z base v l) (hp : 0 < l.length) (hl : l.length ≤ 4398046511104) : ∃ g c, v = .slice (some ⟨g, 0, none⟩) l.length c ∧ base ≤ g ∧ g < z.heap.size ∧ ∀ k (hk : k < l.length), At z g (k * 3) l[k] := by
  rcases h.2 with ⟨rfl, h0⟩ | ⟨g, cap, cur, rfl, hbg, hg, h1, h2, h3, h4⟩
  · omega
  · obtain ⟨a9, c9, he, -, -, -, hcc⟩ := Own.sl h hl
    simp only [Value.slice.injEq, true_and] at he
    obtain ⟨rfl, rfl⟩ := he
    obtain ⟨b, off, e, -, -, hc⟩ := hcc hp
    cases e
    refine ⟨g, cap, rfl, hbg, (Array.getElem?_eq_some_iff.1 hg).1, fun k hk => ?_⟩
    have := hc k hk
    rwa [Nat.zero_add] at this
set_option maxHeartbeats 8000000 in
set_option maxRecDepth 100000 in
theorem give_ref (va : Value) (n : List Pk) (i : Int) (w : World) {A : Nat} (hn : Sl w A w.heap.size va n) : Calls Try.prog 11 #[.agg #[va], .int .i64 i] w (GiveIs w n i) := by
  have HX : Hid (∀ z, Below w.heap.size w z → Calls Try.prog 19 #[.agg #[va]] z fun e w' => e = .returned (.int .i64 (errN n)) ∧ Below z.heap.size z w') := fun z hz => check_ref va n z (hn.on hz)
  have HNN := Lib.hid hn
  obtain ⟨a, c, rfl⟩ := hn.slice
  have hnl := hn.len
  clear hn
  obtain ⟨hb0, hb1, hb2, hbe, hbs⟩ := boxes3 w (.slice a n.length c)
  have HS0 : Hid (GvS w (.slice a n.length c) (((w.alloc (.cells #[.slice a n.length c] 24)).alloc (.cells #[.slice none 0 0] 24)).alloc (.cells #[.int .i64 0, .int .i64 0, .string ⟨#[]⟩] 30))) := ⟨hbe, hb0, hb1, hb2⟩
  clear hb0 hb1 hb2 hbe hbs
  have HE : Hid (errN n = if netB n then 0 else 10) := rfl
  cases hq : netB n
  · have h0 : refN n i = 10 := by unfold refN; rw [hq]; rfl
    have HT0 : Hid (∀ e w', e = .returned (.tuple #[.agg #[.slice none 0 0], .agg #[.int .i64 0, .int .i64 0, .string ⟨#[]⟩], .int .i64 10]) → Below w.heap.size w w' → GiveIs w n i e w') := fun e w' h1 h3 => ⟨_, [], ⟨0, 0, ⟨#[]⟩⟩, by rw [h0]; exact h1, Own.nil _ _ _, fun h => absurd (h0.symm.trans h) (by decide), fun _ => ⟨rfl, rfl⟩, h3⟩
    rw [hq] at HE
    have HE2 : Hid (errN n = 10) := HE.out
    rw [HE2.out] at HX
    clear HE hq h0 HNN
    go_enter Try.func11, Try.ntmps11
    go_wp2_with (go_at_call 19; go_loud ((with_reducible refine (HX.out _ HS0.out.be).mono ?_); rintro e w1 ⟨rfl, hb⟩; have HS1 := Lib.hid (HS0.out.go hb); obtain ⟨y0, y1, y2, y3, y4, y5, y6, y7, y8⟩ := HS1.out.facts; clear hb))
    go_wp2
    obtain ⟨g0, g1, g2, g3, g4, g5⟩ := gv_end HS1.out (.slice none 0 0) 0 0 ⟨#[]⟩ _ rfl
    refine bodyPost_give (x := 6) rfl (w.heap.size + 1) (w.heap.size + 1 + 1) (.slice none 0 0) 0 0 ⟨#[]⟩ rfl rfl rfl g0 g1 g2 g3 (HT0.out _ _ rfl g4)
  · have hn4 := net_len hq
    rw [hq] at HE
    have HE2 : Hid (errN n = 0) := HE.out
    rw [HE2.out] at HX
    have HRF : Hid (refN n i = if 0 ≤ i ∧ i < (n.length : Int) then 0 else 1) := by show _ = _; unfold refN; rw [hq]; rfl
    clear HE hq HE2
    by_cases hin : 0 ≤ i ∧ i < (n.length : Int)
    · have h0 : refN n i = 0 := HRF.out.trans (if_pos hin)
      obtain ⟨k, rfl⟩ : ∃ k : Nat, i = (k : Int) := ⟨i.toNat, by omega⟩
      have hk : k < n.length := by omega
      have hlt : (k : Int) < (n.length : Int) := hin.2
      have t1 : decide ((k : Int) < 0) = false := decide_eq_false (by omega)
      have t2 : decide ((n.length : Int) ≤ (k : Int)) = false := decide_eq_false (by omega)
      have t3 : decide (n.length ≤ k) = false := decide_eq_false (by omega)
      have HT1 : Hid (∀ v' e w', e = .returned (.tuple #[.agg #[v'], pkV n[k], .int .i64 0]) → OwnP w' w.heap.size v' (n.eraseIdx k) → Below w.heap.size w w' → GiveIs w n (k : Int) e w') := fun v' e w' h1 h2 h3 => ⟨v', _, _, by rw [h0]; exact h1, h2, fun _ => ⟨k, hk, rfl, rfl, rfl⟩, fun h => absurd h0 h, h3⟩
      obtain ⟨a9, c9, he, hcap, -, -, hcc⟩ := HNN.out
      simp only [Value.slice.injEq, true_and] at he
      obtain ⟨rfl, rfl⟩ := he
      obtain ⟨b, off, rfl, hA, hb, hcell⟩ := hcc (by omega)
      have HPK : Hid (∀ z, Below w.heap.size w z → z.cell? ⟨b, off + k * 3, none⟩ = some (.int .i64 n[k].f) ∧ z.cell? ⟨b, off + k * 3 + 1, none⟩ = some (.int .i64 n[k].t) ∧ z.cell? ⟨b, off + k * 3 + 2, none⟩ = some (.string n[k].d)) := fun z hz => at_pk ((hcell k hk).keep hz hb)
      have HTK : Hid (∀ z, Below w.heap.size w z → ∀ j u, (flat (n.take k))[j]? = some u → z.cell? ((⟨b, off, none⟩ : Addr).add j) = some u) := fun z hz j u hj => by
        have e : (flat n).take (k * 3) = flat (n.take k) := flat_take n k
        rw [← e, List.getElem?_take] at hj
        split at hj
        · exact (HNN.out.keep hz).news j u hj
        · cases hj
      have HDR : Hid (∀ z, Below w.heap.size w z → ∀ j u, (flat (n.drop (k + 1)))[j]? = some u → z.cell? ((⟨b, off + (k + 1) * 3, none⟩ : Addr).add j) = some u) := fun z hz j u hj => by
        have e : (flat n).drop ((k + 1) * 3) = flat (n.drop (k + 1)) := flat_drop n (k + 1)
        rw [← e, List.getElem?_drop] at hj
        have := (HNN.out.keep hz).news _ u hj
        rw [Addr.add_lit] at this ⊢
        rw [Nat.add_assoc]
        exact this
      have hl1 : (flat (n.take k)).length = k * 3 := by rw [flat_len, List.length_take]; show min k n.length * 3 = k * 3; congr 1; omega
      have hl2 : (flat (n.drop (k + 1))).length = (n.length - (k + 1)) * 3 := by rw [flat_len, List.length_drop]; rfl
      have HL1 := Lib.hid hl1
      have HL2 := Lib.hid hl2
      have HO1 := Lib.hid (flat_one (n.take k))
      have HO2 := Lib.hid (flat_one (n.drop (k + 1)))
      have HFIN : Hid (∀ z base v, z.ownsRow base 30 3 v (0 + k + (n.length - (k + 1))) ([] ++ flat (n.take k) ++ flat (n.drop (k + 1))) → OwnP z base v (n.eraseIdx k)) := fun z base v h => by
        unfold OwnP Own
        rw [List.eraseIdx_eq_take_drop_succ, flat_app, List.length_append, List.length_take, List.length_drop]
        rw [show min k n.length + (n.length - (k + 1)) = 0 + k + (n.length - (k + 1)) by omega]
        have h8 : z.ownsRow base 30 3 v (0 + k + (n.length - (k + 1))) (flat (n.take k) ++ flat (n.drop (k + 1))) := by rw [List.nil_append] at h; exact h
        exact h8
      have tk : IntKind.i64.wrap ((k : Int) + 1) = (k : Int) + 1 := by rw [IntKind.wrap_i64]; omega
      have tn : ((k : Int) + 1).toNat = k + 1 := by omega
      have tp : (0 : Int) ≤ (k : Int) + 1 := by omega
      have ts : (k : Int) + 1 ≤ (n.length : Int) := by omega
      have tc : (k : Int) ≤ (c : Int) := by omega
      have tcn : ¬ c = k := by omega
      have tl : (n.length : Int) ≤ (c : Int) := by omega
      obtain ⟨i0, hi, hq0, hq1, hq2⟩ := info_parts info_pk
      clear hcell hcc HNN hA h0 hl1 hl2 hin HRF
      generalize n[k] = x at *
      rcases x with ⟨f, t, d⟩
      have HP9 : Hid (pkV ⟨f, t, d⟩ = .agg #[.int .i64 f, .int .i64 t, .string d]) := rfl
      rw [HP9.out] at HT1
      dsimp only at HPK
      generalize flat (n.take k) = F1 at *
      generalize flat (n.drop (k + 1)) = F2 at *
      have HMX1 : Hid (0 + k ≤ maxLen) := by show _ ≤ _; unfold maxLen; omega
      have HMX2 : Hid (0 + k + (n.length - (k + 1)) ≤ maxLen) := by show _ ≤ _; unfold maxLen; omega
      have HBY1 : Hid ((0 + k) * 32 ≤ 140737488355328) := by show _ ≤ _; omega
      have HBY2 : Hid ((0 + k + (n.length - (k + 1))) * 32 ≤ 140737488355328) := by show _ ≤ _; omega
      have HKN := Lib.hid hk
      have HCP := Lib.hid hcap
      clear hk hcap hb hn4 HP9
      go_enter Try.func11, Try.ntmps11
      go_wp2_with (go_at_call 19; go_loud ((with_reducible refine (HX.out _ HS0.out.be).mono ?_); rintro e w1 ⟨rfl, hb⟩; have HS1 := Lib.hid (HS0.out.go hb); obtain ⟨y0, -⟩ := HS1.out.facts; obtain ⟨x0, x1, x2⟩ := HPK.out _ HS1.out.be; clear hb))
      go_wp2
      obtain ⟨w4, hw4⟩ : ∃ w4, w4 = w1.alloc (.cells #[.int .i64 f, .int .i64 t, .string d] 30) := ⟨_, rfl⟩
      have HS4 : Hid (GvS w (.slice (some ⟨b, off, none⟩) n.length c) w4) := by rw [hw4]; exact HS1.out.go (al w1 _)
      have HP4 : Hid (At w4 w1.heap.size 0 (⟨f, t, d⟩ : Pk)) := by rw [hw4]; exact at_new w1 (⟨f, t, d⟩ : Pk) 30
      have HZ4 : Hid (w1.heap.size < w4.heap.size) := by show _ < _; rw [hw4]; simp
      have HLO : Hid (w.heap.size + 1 + 1 < w1.heap.size) := HS1.out.lt
      rw [← hw4]
      clear hw4 y0 x0 x1 x2
      have PB : Hid (∀ y, GvS w (.slice (some ⟨b, off, none⟩) n.length c) y → At y w1.heap.size 0 (⟨f, t, d⟩ : Pk) → (y.cell? ⟨w.heap.size, 0, none⟩ = some (.slice (some ⟨b, off, none⟩) n.length c) ∧ y.cell? ⟨w1.heap.size, 0, none⟩ = some (.int .i64 f) ∧ y.cell? ⟨w1.heap.size, 1, none⟩ = some (.int .i64 t) ∧ y.cell? ⟨w1.heap.size, 2, none⟩ = some (.string d))) := fun y hy hp => ⟨hy.c0, (at_pk hp).1, (at_pk hp).2.1, (at_pk hp).2.2⟩
      have PS : Hid (∀ (y : World) v g o, (y.cell? ⟨w.heap.size, 0, none⟩ = some (.slice (some ⟨b, off, none⟩) n.length c) ∧ y.cell? ⟨w1.heap.size, 0, none⟩ = some (.int .i64 f) ∧ y.cell? ⟨w1.heap.size, 1, none⟩ = some (.int .i64 t) ∧ y.cell? ⟨w1.heap.size, 2, none⟩ = some (.string d)) → g < w1.heap.size → g ≠ w.heap.size → ((y.setCell ⟨g, o, none⟩ v).cell? ⟨w.heap.size, 0, none⟩ = some (.slice (some ⟨b, off, none⟩) n.length c) ∧ (y.setCell ⟨g, o, none⟩ v).cell? ⟨w1.heap.size, 0, none⟩ = some (.int .i64 f) ∧ (y.setCell ⟨g, o, none⟩ v).cell? ⟨w1.heap.size, 1, none⟩ = some (.int .i64 t) ∧ (y.setCell ⟨g, o, none⟩ v).cell? ⟨w1.heap.size, 2, none⟩ = some (.string d))) := fun y v g o hy h1 h2 => by
        obtain ⟨p, p0, p1, p2⟩ := hy
        have e0 : (⟨g, o, none⟩ : Addr) ≠ ⟨w.heap.size, 0, none⟩ := fun e => h2 (congrArg Addr.block e)
        have e1 : ∀ i, (⟨g, o, none⟩ : Addr) ≠ ⟨w1.heap.size, i, none⟩ := fun i e => by have h7 : g = w1.heap.size := congrArg Addr.block e; omega
        refine ⟨?_, ?_, ?_, ?_⟩
        · rw [World.cell?_setCell_other _ _ _ _ e0]; exact p
        · rw [World.cell?_setCell_other _ _ _ _ (e1 0)]; exact p0
        · rw [World.cell?_setCell_other _ _ _ _ (e1 1)]; exact p1
        · rw [World.cell?_setCell_other _ _ _ _ (e1 2)]; exact p2
      have KD := Lib.hid (PB.out _ (HS4.out.go ((Below.refl _ w4).drew)) (HP4.out.keep ((Below.refl _ w4).drew) HZ4.out))
      have KA := Lib.hid (PB.out _ (HS4.out.go ((al w4 (.cells #[] 30)).drew)) (HP4.out.keep ((al w4 (.cells #[] 30)).drew) HZ4.out))
      have HOA : Hid ((w4.alloc (.cells #[] 30)).drew.ownsRow w4.heap.size 30 3 (.slice (some ⟨w4.heap.size, 0, none⟩) 0 0) 0 []) := World.ownsRow_made w4 #[] 0 (Nat.le_refl _) (Nat.zero_le _) (by simp)
      have HBA : Hid (Below w.heap.size w (w4.alloc (.cells #[] 30)).drew) := (HS4.out.be.alloc HS4.out.be.size _).drew
      have HGR : Hid (∀ z z' own, GvS w (.slice (some ⟨b, off, none⟩) n.length c) z → At z w1.heap.size 0 (⟨f, t, d⟩ : Pk) → z.grownBy z' own → (∀ g, own = some g → w4.heap.size ≤ g) → GvS w (.slice (some ⟨b, off, none⟩) n.length c) z' ∧ At z' w1.heap.size 0 (⟨f, t, d⟩ : Pk)) := fun z z' own h1 h2 hg hn =>
        ⟨h1.grown hg (fun g hg2 => by have := hn g hg2; have := HZ4.out; have := HLO.out; omega), fun j u hj => hg.cell (h2 j u hj) (fun e => by have h7 : w4.heap.size ≤ w1.heap.size := hn _ e.symm; have := HZ4.out; omega)⟩
      have HOWN : Hid (∀ z v n xs, World.ownsRow z w4.heap.size 30 3 v n xs → ∀ g, v.ownBlock = some g → w4.heap.size ≤ g) := fun z v n xs h g hg => (World.ownsRow.lt h g hg).1
      have HSZ : Hid (w4.heap.size ≤ (w4.alloc (.cells #[] 30)).drew.heap.size) := by show w4.heap.size ≤ (w4.alloc _).heap.size; simp
      by_cases hce : c = k + 1
      · have hm : n.length = k + 1 := by have := HCP.out; have := HKN.out; omega
        have HF2 : Hid (F2 = []) := by
          have h7 := HL2.out
          rw [hm, Nat.sub_self, Nat.zero_mul] at h7
          exact List.eq_nil_of_length_eq_zero h7
        have HDN : Hid (∀ (z : World) j u, F2[j]? = some u → z.cell? ((⟨b, off, none⟩ : Addr).add j) = some u) := fun z j u hj => by rw [HF2.out] at hj; cases hj
        clear hm
        have hce2 : (c = k + 1) = True := by simp [hce]
        have hce3 : ((k + 1) = c) = True := by simp [hce]
        clear HX HS0 HS1 hce
        go_region_held3 (fun y => y.cell? ⟨w.heap.size, 0, none⟩ = some (.slice (some ⟨b, off, none⟩) n.length c) ∧ y.cell? ⟨w1.heap.size, 0, none⟩ = some (.int .i64 f) ∧ y.cell? ⟨w1.heap.size, 1, none⟩ = some (.int .i64 t) ∧ y.cell? ⟨w1.heap.size, 2, none⟩ = some (.string d)) (first | assumption | with_reducible exact KD.out | with_reducible exact KA.out | with_reducible exact KS.out.1 | with_reducible exact KS.out.2) (first
          | ((refine step_append_own1 rfl _ _ 22 rfl w4.heap.size 30 i0 _ 3 32 Try.underlying22 hi hq0 hq1 hq2 rfl (by omega) (.slice (some ⟨w4.heap.size, 0, none⟩) 0 0) 0 [] rfl HOA.out ⟨b, off, none⟩ k c F1 rfl HL1.out (HTK.out _ HBA.out) HO1.out HMX1.out HBY1.out HSZ.out ?_); intro v5 w5 hown5 hg5 hob5; have HG5 := Lib.hid (HGR.out _ _ _ (HS4.out.go ((al w4 (.cells #[] 30)).drew)) (HP4.out.keep ((al w4 (.cells #[] 30)).drew) HZ4.out) hg5 (HOWN.out _ _ _ _ HOA.out)); have HO5 := Lib.hid hown5; have HZ5 := Lib.hid (Nat.le_trans HSZ.out hg5.size); have hS5 := PB.out _ HG5.out.1 HG5.out.2; clear hown5 hg5 hob5)
          | ((refine step_append_own1 rfl _ _ 22 rfl w4.heap.size 30 i0 _ 3 32 Try.underlying22 hi hq0 hq1 hq2 rfl (by omega) v5 (0 + k) ([] ++ F1) rfl HO5.out ⟨b, off, none⟩ (n.length - (k + 1)) _ F2 rfl HL2.out (HDN.out _) HO2.out HMX2.out HBY2.out HZ5.out ?_); intro v6 w6 hown6 hg6 hob6; have HG6 := Lib.hid (HGR.out _ _ _ HG5.out.1 HG5.out.2 hg6 (HOWN.out _ _ _ _ HO5.out)); have HO6 := Lib.hid (HFIN.out _ _ _ hown6); obtain ⟨a6, c6, rfl⟩ := Own.slice HO6.out; have hS6 := PB.out _ HG6.out.1 HG6.out.2; obtain ⟨z0, z1, z2, z3, z4, z5, z6, z7, z8⟩ := HG6.out.1.facts; have KS := (by have q1 := PS.out w6 (.slice a6 (n.eraseIdx k).length c6) (w.heap.size + 1) 0 hS6 (by have := HLO.out; omega) (by omega); have q2 := PS.out _ (.int .i64 f) (w.heap.size + 1 + 1) 0 q1 HLO.out (by omega); have q3 := PS.out _ (.int .i64 t) (w.heap.size + 1 + 1) 1 q2 HLO.out (by omega); exact Lib.hid (And.intro q1 (PS.out _ (.string d) (w.heap.size + 1 + 1) 2 q3 HLO.out (by omega)))); clear hown6 hg6 hob6))
        all_goals go_wp2
        all_goals obtain ⟨g0, g1, g2, g3, g4, g5⟩ := gv_end HG6.out.1 (.slice a6 (n.eraseIdx k).length c6) f t d _ rfl
        all_goals refine bodyPost_give (x := 6) rfl (w.heap.size + 1) (w.heap.size + 1 + 1) (.slice a6 (n.eraseIdx k).length c6) f t d rfl rfl rfl g0 g1 g2 g3 (HT1.out _ _ _ rfl ?_ g4)
        all_goals exact Own.le (g5 w4.heap.size _ _ (by have := HLO.out; have := HZ4.out; omega) HO6.out) (by have := HLO.out; have := HZ4.out; omega)
      · have hce2 : ¬ (c = k + 1) := hce
        have hce3 : ¬ ((k + 1) = c) := fun h => hce h.symm
        clear HX HS0 HS1
        go_region_held3 (fun y => y.cell? ⟨w.heap.size, 0, none⟩ = some (.slice (some ⟨b, off, none⟩) n.length c) ∧ y.cell? ⟨w1.heap.size, 0, none⟩ = some (.int .i64 f) ∧ y.cell? ⟨w1.heap.size, 1, none⟩ = some (.int .i64 t) ∧ y.cell? ⟨w1.heap.size, 2, none⟩ = some (.string d)) (first | assumption | with_reducible exact KD.out | with_reducible exact KA.out | with_reducible exact KS.out.1 | with_reducible exact KS.out.2) (first
          | ((refine step_append_own1 rfl _ _ 22 rfl w4.heap.size 30 i0 _ 3 32 Try.underlying22 hi hq0 hq1 hq2 rfl (by omega) (.slice (some ⟨w4.heap.size, 0, none⟩) 0 0) 0 [] rfl HOA.out ⟨b, off, none⟩ k c F1 rfl HL1.out (HTK.out _ HBA.out) HO1.out HMX1.out HBY1.out HSZ.out ?_); intro v5 w5 hown5 hg5 hob5; have HG5 := Lib.hid (HGR.out _ _ _ (HS4.out.go ((al w4 (.cells #[] 30)).drew)) (HP4.out.keep ((al w4 (.cells #[] 30)).drew) HZ4.out) hg5 (HOWN.out _ _ _ _ HOA.out)); have HO5 := Lib.hid hown5; have HZ5 := Lib.hid (Nat.le_trans HSZ.out hg5.size); have hS5 := PB.out _ HG5.out.1 HG5.out.2; clear hown5 hg5 hob5)
          | ((refine step_append_own1 rfl _ _ 22 rfl w4.heap.size 30 i0 _ 3 32 Try.underlying22 hi hq0 hq1 hq2 rfl (by omega) v5 (0 + k) ([] ++ F1) rfl HO5.out ⟨b, off + (k + 1) * 3, none⟩ (n.length - (k + 1)) (c - (k + 1)) F2 rfl HL2.out (HDR.out _ HG5.out.1.be) HO2.out HMX2.out HBY2.out HZ5.out ?_); intro v6 w6 hown6 hg6 hob6; have HG6 := Lib.hid (HGR.out _ _ _ HG5.out.1 HG5.out.2 hg6 (HOWN.out _ _ _ _ HO5.out)); have HO6 := Lib.hid (HFIN.out _ _ _ hown6); obtain ⟨a6, c6, rfl⟩ := Own.slice HO6.out; have hS6 := PB.out _ HG6.out.1 HG6.out.2; obtain ⟨z0, z1, z2, z3, z4, z5, z6, z7, z8⟩ := HG6.out.1.facts; have KS := (by have q1 := PS.out w6 (.slice a6 (n.eraseIdx k).length c6) (w.heap.size + 1) 0 hS6 (by have := HLO.out; omega) (by omega); have q2 := PS.out _ (.int .i64 f) (w.heap.size + 1 + 1) 0 q1 HLO.out (by omega); have q3 := PS.out _ (.int .i64 t) (w.heap.size + 1 + 1) 1 q2 HLO.out (by omega); exact Lib.hid (And.intro q1 (PS.out _ (.string d) (w.heap.size + 1 + 1) 2 q3 HLO.out (by omega)))); clear hown6 hg6 hob6))
        all_goals go_wp2
        all_goals obtain ⟨g0, g1, g2, g3, g4, g5⟩ := gv_end HG6.out.1 (.slice a6 (n.eraseIdx k).length c6) f t d _ rfl
        all_goals refine bodyPost_give (x := 6) rfl (w.heap.size + 1) (w.heap.size + 1 + 1) (.slice a6 (n.eraseIdx k).length c6) f t d rfl rfl rfl g0 g1 g2 g3 (HT1.out _ _ _ rfl ?_ g4)
        all_goals exact Own.le (g5 w4.heap.size _ _ (by have := HLO.out; have := HZ4.out; omega) HO6.out) (by have := HLO.out; have := HZ4.out; omega)
    · have h0 : refN n i = 1 := HRF.out.trans (if_neg hin)
      have HT0 : Hid (∀ e w', e = .returned (.tuple #[.agg #[.slice none 0 0], .agg #[.int .i64 0, .int .i64 0, .string ⟨#[]⟩], .int .i64 1]) → Below w.heap.size w w' → GiveIs w n i e w') := fun e w' h1 h3 => ⟨_, [], ⟨0, 0, ⟨#[]⟩⟩, by rw [h0]; exact h1, Own.nil _ _ _, fun h => absurd (h0.symm.trans h) (by decide), fun _ => ⟨rfl, rfl⟩, h3⟩
      clear h0 HRF HNN
      by_cases h1 : 0 ≤ i
      · have t1 : decide (i < 0) = false := by simp; omega
        have t2 : decide ((n.length : Int) ≤ i) = true := by simp; omega
        have t3 : (n.length : Int) ≤ i := by omega
        clear hin
        go_enter Try.func11, Try.ntmps11
        go_wp2_with (go_at_call 19; go_loud ((with_reducible refine (HX.out _ HS0.out.be).mono ?_); rintro e w1 ⟨rfl, hb⟩; have HS1 := Lib.hid (HS0.out.go hb); obtain ⟨y0, y1, y2, y3, y4, y5, y6, y7, y8⟩ := HS1.out.facts; clear hb))
        go_wp2
        obtain ⟨g0, g1, g2, g3, g4, g5⟩ := gv_end HS1.out (.slice none 0 0) 0 0 ⟨#[]⟩ _ rfl
        refine bodyPost_give (x := 6) rfl (w.heap.size + 1) (w.heap.size + 1 + 1) (.slice none 0 0) 0 0 ⟨#[]⟩ rfl rfl rfl g0 g1 g2 g3 (HT0.out _ _ rfl g4)
      · have t1 : decide (i < 0) = true := by simp; omega
        clear hin
        go_enter Try.func11, Try.ntmps11
        go_wp2_with (go_at_call 19; go_loud ((with_reducible refine (HX.out _ HS0.out.be).mono ?_); rintro e w1 ⟨rfl, hb⟩; have HS1 := Lib.hid (HS0.out.go hb); obtain ⟨y0, y1, y2, y3, y4, y5, y6, y7, y8⟩ := HS1.out.facts; clear hb))
        go_wp2
        obtain ⟨g0, g1, g2, g3, g4, g5⟩ := gv_end HS1.out (.slice none 0 0) 0 0 ⟨#[]⟩ _ rfl
        refine bodyPost_give (x := 6) rfl (w.heap.size + 1) (w.heap.size + 1 + 1) (.slice none 0 0) 0 0 ⟨#[]⟩ rfl rfl rfl g0 g1 g2 g3 (HT0.out _ _ rfl g4)
end Nt
end Go.Proofs.Ytejolapbdkkdaaa
