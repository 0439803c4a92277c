/-
  gafferlaw12.SchedFirst.
-/
import Derived.Test.YthbmnkeigmbbdaaGreatScQuiet
import Derived.Test.YthbmnkeigmbbdaaGreatBgA
namespace Go.Proofs.YthbmnkeigmbbdaaGreat
open Go.RowKit Go.Lib
namespace Bo
open Rw
set_option linter.unusedVariables false
theorem pl_pre : ∀ (r : List Hd.Td) (c : Bk) (s : List Rg.Pr), ∃ q, (plG c r s).2 = s ++ q
  | [], _, s => ⟨[], (List.append_nil s).symm⟩
  | t :: r, c, s => by
    by_cases h8 : s.length = 8
    · exact ⟨[], by rw [pl_full h8, List.append_nil]⟩
    · by_cases ho : bstV c t = ⟨#[]⟩
      · rw [pl_skip h8 ho]; exact pl_pre r c s
      · rw [pl_step h8 ho]
        obtain ⟨q, hq⟩ := pl_pre r (biB c t.n (bstV c t) c.fe).1 (s ++ [⟨t.n, bstV c t⟩])
        exact ⟨⟨t.n, bstV c t⟩ :: q, by rw [hq, List.append_assoc]; rfl⟩
theorem bst_ne {b : Bk} (h : RB b) {t : Hd.Td} (hf : frV b t.n ≠ []) : ¬ bstV b t = ⟨#[]⟩ := by
  intro e
  have h1 := (fr_sub (bst_some (t := t) hf)).1
  rw [e] at h1
  obtain ⟨n, hn, hne⟩ := List.mem_map.1 h1
  have h2 : Rg.nodeE n.n n.z0 n.z1 n.z2 n.ls n.ts = 0 := of_decide_eq_true (h.kn n hn)
  have hne : n.n = ⟨#[]⟩ := hne
  rw [hne] at h2
  unfold Rg.nodeE at h2
  have h3 : Rg.nameB ⟨#[]⟩ = false := by decide
  rw [h3, if_neg (by decide)] at h2
  cases h2
/-- The first that can go somewhere goes first. -/
theorem first_step {b : Bk} {t : Hd.Td} {r : List Hd.Td} (h : RB b) (hf : frV b t.n ≠ []) : ∃ v q, (plG b (t :: r) []).2 = ⟨t.n, v⟩ :: q := by
  rw [pl_step (by decide) (bst_ne h hf)]
  obtain ⟨q, hq⟩ := pl_pre r (biB b t.n (bstV b t) b.fe).1 ([] ++ [⟨t.n, bstV b t⟩])
  exact ⟨_, q, hq⟩
theorem first_skip {b : Bk} {t : Hd.Td} {r : List Hd.Td} (hf : frV b t.n = []) : plG b (t :: r) [] = plG b r [] := pl_skip (by decide) (bst_none hf)
set_option maxRecDepth 100000 in
set_option maxHeartbeats 4000000 in
theorem sfirst_no (b : Bk) (vb0 : Value) (w : World) (hb : BookArg w vb0 b) (hc : chkB b = false) : Calls Tryz.prog 8 #[vb0] w fun e w' => e = .returned (.bool true) ∧ Below w.heap.size w w' := by
  obtain ⟨vn, vt, vb, rfl, hB⟩ := hb
  obtain ⟨⟨a0, c0, rfl⟩, ⟨b0, d0, rfl⟩, ⟨e0, f0, rfl⟩⟩ := And.intro hB.hn.slice (And.intro hB.ht.slice hB.hb.slice)
  obtain ⟨W0, hW0⟩ : ∃ W0, W0 = w.alloc (.cells #[.slice a0 (b).ns.length c0, .slice b0 (b).ts.length d0, .slice e0 (b).bs.length f0, .int .u64 ((b).fe : Nat)] 27) := ⟨_, rfl⟩
  have hb0 : Below w.heap.size w W0 := by rw [hW0]; exact al w _
  have hx0 : Hd.Bxn W0 w.heap.size [.slice a0 (b).ns.length c0, .slice b0 (b).ts.length d0, .slice e0 (b).bs.length f0, .int .u64 ((b).fe : Nat)] := by rw [hW0]; exact Hd.Bxn.made w _ _
  have HL : Hid (Calls Tryz.prog 26 #[] W0 fun e w' => e = .returned (.bool true) ∧ Below W0.heap.size W0 w') := livesS_any W0
  have HBK : Hid (∀ z, Below w.heap.size w z → Books z z.heap.size (.slice a0 (b).ns.length c0) (.slice b0 (b).ts.length d0) (.slice e0 (b).bs.length f0) (b)) := fun z hz => hB.on hz
  have HW := Lib.hid hW0
  have HX0 := Lib.hid hx0
  have HB0 := Lib.hid hb0
  clear hW0 hb0 hx0 hB
  have HPL : Hid (∀ z, Below w.heap.size w z → Calls Tryz.prog 22 #[.agg #[.slice a0 (b).ns.length c0, .slice b0 (b).ts.length d0, .slice e0 (b).bs.length f0, .int .u64 ((b).fe : Nat)], .int .u64 0] z fun e w' => ∃ (a : Option Addr) (c : Nat), e = .returned (.tuple #[.slice a (planV b).length c, .int .i64 (chE (chkB b) : Nat)]) ∧ Own w' z.heap.size 55 (.slice a (planV b).length c) ((planV b).map (stp 0)) ∧ Below z.heap.size z w') := fun z hz => by
    refine (plan_any b _ _ _ 0 z (HBK.out z hz)).mono ?_
    rintro e w' ⟨v, he, ho, hb⟩
    obtain ⟨a, c, rfl⟩ := ho.slice
    rw [List.length_map] at he ho
    exact ⟨a, c, he, ho, hb⟩
  have HWQ : Hid (∀ z, Below w.heap.size w z → Calls Tryz.prog 12 #[.agg #[.slice a0 (b).ns.length c0, .slice b0 (b).ts.length d0, .slice e0 (b).bs.length f0, .int .u64 ((b).fe : Nat)]] z fun e w' => ∃ (a : Option Addr) (c : Nat) (m : List TdM), e = .returned (.tuple #[.slice a m.length c, .int .i64 (chE (chkB b) : Nat)]) ∧ Own w' z.heap.size 42 (.slice a m.length c) m ∧ m.map (·.td) = (if chkB b = true then wtV b else []) ∧ Below z.heap.size z w') := fun z hz => by
    refine (waitq_any b _ _ _ z (HBK.out z hz)).mono ?_
    rintro e w' ⟨v, m, he, ho, hm, -, hb⟩
    obtain ⟨a, c, rfl⟩ := ho.slice
    exact ⟨a, c, m, he, ho, hm, hb⟩
  have h10 : chE (chkB b) = 10 := by rw [hc]; rfl
  rw [h10] at HPL HWQ
  clear hc h10
  go_enter Tryz.func8, Tryz.ntmps8
  go_upto_region 1 with fail
  rw [← HW.out]
  go_wp2_with fail
  refine HL.out.mono ?_
  rintro e w1 ⟨rfl, hb⟩
  have HX1 := Lib.hid (HX0.out.below hb)
  have HB1 : Hid (Below w.heap.size w w1) := HB0.out.trans (hb.mono HB0.out.size)
  clear hb HX0 HB0 HL HW
  have y0 : w1.cell? ⟨w.heap.size, 0, none⟩ = some (.slice a0 (b).ns.length c0) := HX1.out.cell 0
  have y1 : w1.cell? ⟨w.heap.size, 1, none⟩ = some (.slice b0 (b).ts.length d0) := HX1.out.cell 1
  have y2 : w1.cell? ⟨w.heap.size, 2, none⟩ = some (.slice e0 (b).bs.length f0) := HX1.out.cell 2
  have y3 : w1.cell? ⟨w.heap.size, 3, none⟩ = some (.int .u64 ((b).fe : Nat)) := HX1.out.cell 3
  go_wp2_with fail
  refine (HPL.out w1 HB1.out).mono ?_
  rintro e w2 ⟨a1, c1, rfl, ho, hb⟩
  have HX12 := Lib.hid (HX1.out.below hb)
  have HB2 : Hid (Below w.heap.size w w2) := HB1.out.trans (hb.mono HB1.out.size)
  have HO1 := Lib.hid ho
  have HX2 := HX12
  clear ho HX12
  clear hb y0 y1 y2 y3
  have y0 : w2.cell? ⟨w.heap.size, 0, none⟩ = some (.slice a0 (b).ns.length c0) := HX2.out.cell 0
  have y1 : w2.cell? ⟨w.heap.size, 1, none⟩ = some (.slice b0 (b).ts.length d0) := HX2.out.cell 1
  have y2 : w2.cell? ⟨w.heap.size, 2, none⟩ = some (.slice e0 (b).bs.length f0) := HX2.out.cell 2
  have y3 : w2.cell? ⟨w.heap.size, 3, none⟩ = some (.int .u64 ((b).fe : Nat)) := HX2.out.cell 3
  go_wp2_with fail
  refine (HWQ.out w2 HB2.out).mono ?_
  rintro e w3 ⟨a2, c2, m, rfl, hom, hmm, hb⟩
  have HX22 := Lib.hid (HX2.out.below hb)
  have HB3 : Hid (Below w.heap.size w w3) := HB2.out.trans (hb.mono HB2.out.size)
  have HOM := Lib.hid hom
  have HMM := Lib.hid hmm
  have HO3 := Lib.hid (HO1.out.keep hb)
  have HX3 := HX22
  clear hom hmm HX22
  clear hb y0 y1 y2 y3
  clear HX1 HX2 HX3 HPL HWQ HO1 HB1 HB2 HBK HOM HMM HO3
  go_wp2
  go_ret
  exact ⟨rfl, HB3.out⟩
set_option maxRecDepth 100000 in
set_option maxHeartbeats 4000000 in
theorem sfirst_ok (b : Bk) (vb0 : Value) (w : World) (hb : BookArg w vb0 b) (hc : chkB b = true) : Calls Tryz.prog 8 #[vb0] w fun e w' => e = .returned (.bool true) ∧ Below w.heap.size w w' := by
  obtain ⟨vn, vt, vb, rfl, hB⟩ := hb
  obtain ⟨⟨a0, c0, rfl⟩, ⟨b0, d0, rfl⟩, ⟨e0, f0, rfl⟩⟩ := And.intro hB.hn.slice (And.intro hB.ht.slice hB.hb.slice)
  obtain ⟨W0, hW0⟩ : ∃ W0, W0 = w.alloc (.cells #[.slice a0 (b).ns.length c0, .slice b0 (b).ts.length d0, .slice e0 (b).bs.length f0, .int .u64 ((b).fe : Nat)] 27) := ⟨_, rfl⟩
  have hb0 : Below w.heap.size w W0 := by rw [hW0]; exact al w _
  have hx0 : Hd.Bxn W0 w.heap.size [.slice a0 (b).ns.length c0, .slice b0 (b).ts.length d0, .slice e0 (b).bs.length f0, .int .u64 ((b).fe : Nat)] := by rw [hW0]; exact Hd.Bxn.made w _ _
  have HL : Hid (Calls Tryz.prog 26 #[] W0 fun e w' => e = .returned (.bool true) ∧ Below W0.heap.size W0 w') := livesS_any W0
  have HBK : Hid (∀ z, Below w.heap.size w z → Books z z.heap.size (.slice a0 (b).ns.length c0) (.slice b0 (b).ts.length d0) (.slice e0 (b).bs.length f0) (b)) := fun z hz => hB.on hz
  have HW := Lib.hid hW0
  have HX0 := Lib.hid hx0
  have HB0 := Lib.hid hb0
  clear hW0 hb0 hx0 hB
  have HPL : Hid (∀ z, Below w.heap.size w z → Calls Tryz.prog 22 #[.agg #[.slice a0 (b).ns.length c0, .slice b0 (b).ts.length d0, .slice e0 (b).bs.length f0, .int .u64 ((b).fe : Nat)], .int .u64 0] z fun e w' => ∃ (a : Option Addr) (c : Nat), e = .returned (.tuple #[.slice a (planV b).length c, .int .i64 (chE (chkB b) : Nat)]) ∧ Own w' z.heap.size 55 (.slice a (planV b).length c) ((planV b).map (stp 0)) ∧ Below z.heap.size z w') := fun z hz => by
    refine (plan_any b _ _ _ 0 z (HBK.out z hz)).mono ?_
    rintro e w' ⟨v, he, ho, hb⟩
    obtain ⟨a, c, rfl⟩ := ho.slice
    rw [List.length_map] at he ho
    exact ⟨a, c, he, ho, hb⟩
  have HWQ : Hid (∀ z, Below w.heap.size w z → Calls Tryz.prog 12 #[.agg #[.slice a0 (b).ns.length c0, .slice b0 (b).ts.length d0, .slice e0 (b).bs.length f0, .int .u64 ((b).fe : Nat)]] z fun e w' => ∃ (a : Option Addr) (c : Nat) (m : List TdM), e = .returned (.tuple #[.slice a m.length c, .int .i64 (chE (chkB b) : Nat)]) ∧ Own w' z.heap.size 42 (.slice a m.length c) m ∧ m.map (·.td) = (if chkB b = true then wtV b else []) ∧ Below z.heap.size z w') := fun z hz => by
    refine (waitq_any b _ _ _ z (HBK.out z hz)).mono ?_
    rintro e w' ⟨v, m, he, ho, hm, -, hb⟩
    obtain ⟨a, c, rfl⟩ := ho.slice
    exact ⟨a, c, m, he, ho, hm, hb⟩
  have h0 : chE (chkB b) = 0 := by rw [hc]; rfl
  rw [h0, hc] at HWQ
  rw [h0] at HPL
  have HRB := Lib.hid (rb_of_chk hc)
  have HPV : Hid (planV b = (plG b (wtV b) []).2) := by show _ = _; unfold planV; rw [if_pos hc]
  have HFQ : Hid (∀ (ky : ByteArray) z, Below w.heap.size w z → Calls Tryz.prog 16 #[.agg #[.slice a0 (b).ns.length c0, .slice b0 (b).ts.length d0, .slice e0 (b).bs.length f0, .int .u64 ((b).fe : Nat)], .string ky] z fun e w' => ∃ (a : Option Addr) (c q : Nat), e = .returned (.tuple #[.slice a (frV b ky).length c, .int .i64 (q : Nat)]) ∧ Below z.heap.size z w') := fun ky z hz => by
    refine (free_any b _ _ _ ky z (HBK.out z hz)).mono ?_
    rintro e w' ⟨v, he', ho, hb⟩
    obtain ⟨a, c, rfl⟩ := ho.slice
    exact ⟨a, c, _, he', hb⟩
  clear hc h0
  go_enter Tryz.func8, Tryz.ntmps8
  go_upto_region 1 with fail
  rw [← HW.out]
  go_wp2_with fail
  refine HL.out.mono ?_
  rintro e w1 ⟨rfl, hb⟩
  have HX1 := Lib.hid (HX0.out.below hb)
  have HB1 : Hid (Below w.heap.size w w1) := HB0.out.trans (hb.mono HB0.out.size)
  clear hb HX0 HB0 HL HW
  have y0 : w1.cell? ⟨w.heap.size, 0, none⟩ = some (.slice a0 (b).ns.length c0) := HX1.out.cell 0
  have y1 : w1.cell? ⟨w.heap.size, 1, none⟩ = some (.slice b0 (b).ts.length d0) := HX1.out.cell 1
  have y2 : w1.cell? ⟨w.heap.size, 2, none⟩ = some (.slice e0 (b).bs.length f0) := HX1.out.cell 2
  have y3 : w1.cell? ⟨w.heap.size, 3, none⟩ = some (.int .u64 ((b).fe : Nat)) := HX1.out.cell 3
  go_wp2_with fail
  refine (HPL.out w1 HB1.out).mono ?_
  rintro e w2 ⟨a1, c1, rfl, ho, hb⟩
  have HX12 := Lib.hid (HX1.out.below hb)
  have HB2 : Hid (Below w.heap.size w w2) := HB1.out.trans (hb.mono HB1.out.size)
  have HO1 := Lib.hid ho
  have HX2 := HX12
  clear ho HX12
  clear hb y0 y1 y2 y3
  have y0 : w2.cell? ⟨w.heap.size, 0, none⟩ = some (.slice a0 (b).ns.length c0) := HX2.out.cell 0
  have y1 : w2.cell? ⟨w.heap.size, 1, none⟩ = some (.slice b0 (b).ts.length d0) := HX2.out.cell 1
  have y2 : w2.cell? ⟨w.heap.size, 2, none⟩ = some (.slice e0 (b).bs.length f0) := HX2.out.cell 2
  have y3 : w2.cell? ⟨w.heap.size, 3, none⟩ = some (.int .u64 ((b).fe : Nat)) := HX2.out.cell 3
  go_wp2_with fail
  refine (HWQ.out w2 HB2.out).mono ?_
  rintro e w3 ⟨a2, c2, m, rfl, hom, hmm, hb⟩
  have HX22 := Lib.hid (HX2.out.below hb)
  have HB3 : Hid (Below w.heap.size w w3) := HB2.out.trans (hb.mono HB2.out.size)
  have HOM := Lib.hid hom
  have HMM := Lib.hid hmm
  have HO3 := Lib.hid (HO1.out.keep hb)
  have HX3 := HX22
  clear hom hmm HX22
  clear hb y0 y1 y2 y3
  have HMW : Hid (m.map (·.td) = wtV b) := by have h := HMM.out; rwa [if_pos trivial] at h
  have HLM : Hid (m.length ≤ 32) := by have h1 := congrArg List.length HMW.out; rw [List.length_map] at h1; have h2 := wt_len HRB.out; have h3 := HRB.out.lt; show _ ≤ _; omega
  clear HX1 HX2 HPL HWQ HO1 HB1 HB2 HMM
  go_wp2
  go_loopg [34] m.length (fun gg i wx => ∃ k : Nat, k + gg = m.length ∧ i = .int .i64 k ∧ Aside (planV b = (plG b ((wtV b).drop k) []).2) ∧ Aside (Below w3.heap.size w3 wx))
  case atStart => exact ⟨0, by omega, rfl, HPV.out, Below.refl _ _⟩
  case round =>
    obtain ⟨k, hkg, rfl, HP, HA⟩ := hrel
    obtain ⟨z1, rfl⟩ : ∃ q, q = wr := ⟨wr, rfl⟩
    have HU : Hid (Below w3.heap.size w3 z1) := HA.out
    have HPK := Lib.hid HP.out
    clear HA HP
    cases gk with
    | zero =>
      obtain rfl : k = m.length := by omega
      have HE : Hid (Below w.heap.size w z1) := HB3.out.trans (HU.out.mono HB3.out.size)
      have hl : (planV b).length = 0 := by
        have h2 : (wtV b).length = m.length := by rw [← HMW.out, List.length_map]
        rw [HPK.out, ← h2, List.drop_length]
        rfl
      rw [hl] at HO3
      clear hkg
      have t9 : (((planV b).length : Int) == 0) = true := by rw [hl]; rfl
      go_wp2
      go_ret
      exact ⟨by simp [hl], HE.out⟩
    | succ gg =>
      have hlk : k < m.length := by omega
      have t2 : (k : Int) < (m.length : Int) := by omega
      have t3 : IntKind.i64.wrap ((k : Int) + 1) = (k : Int) + 1 := by rw [IntKind.wrap_i64]; have := HLM.out; omega
      have t4 : (0 : Int) ≤ (k : Int) := by omega
      obtain ⟨g, cap, hv, -, hgl, hat, -⟩ := HOM.out.form (by omega)
      simp only [Value.slice.injEq, true_and] at hv
      obtain ⟨rfl, rfl⟩ := hv
      obtain ⟨p0, p1, p2, p3, p4, p5, p6, p7, p8⟩ := at_td (hat k hlk)
      have HDR : Hid ((wtV b).drop k = m[k].td :: (wtV b).drop (k + 1)) := by
        have h2 : k < (wtV b).length := by rw [← HMW.out, List.length_map]; exact hlk
        show _ = _
        rw [List.drop_eq_getElem_cons h2]
        congr 1
        simp only [← HMW.out, List.getElem_map]
      generalize m[k] = x at *
      have e0' : z1.cell? ⟨g, k * 9, none⟩ = some (.string x.td.n) := (HU.out.cell (by exact hgl)).trans p0
      have e1' : z1.cell? ⟨g, k * 9 + 1, none⟩ = some (.int .i64 x.td.z0) := (HU.out.cell (by exact hgl)).trans p1
      have e2' : z1.cell? ⟨g, k * 9 + 2, none⟩ = some (.int .i64 x.td.z1) := (HU.out.cell (by exact hgl)).trans p2
      have e3' : z1.cell? ⟨g, k * 9 + 3, none⟩ = some (.int .i64 x.td.z2) := (HU.out.cell (by exact hgl)).trans p3
      have e4' : z1.cell? ⟨g, k * 9 + 4, none⟩ = some (.slice x.a4 x.td.ws.length x.c4) := (HU.out.cell (by exact hgl)).trans p4
      have e5' : z1.cell? ⟨g, k * 9 + 5, none⟩ = some (.slice x.a5 x.td.bs.length x.c5) := (HU.out.cell (by exact hgl)).trans p5
      have e6' : z1.cell? ⟨g, k * 9 + 6, none⟩ = some (.string x.td.g) := (HU.out.cell (by exact hgl)).trans p6
      have e7' : z1.cell? ⟨g, k * 9 + 7, none⟩ = some (.string x.td.a) := (HU.out.cell (by exact hgl)).trans p7
      have e8' : z1.cell? ⟨g, k * 9 + 8, none⟩ = some (.int .i64 x.td.r) := (HU.out.cell (by exact hgl)).trans p8
      have HKG := Lib.hid hkg
      clear p0 p1 p2 p3 p4 p5 p6 p7 p8 hat hgl hkg
      generalize x.td.ws.length = n1 at *
      generalize x.td.bs.length = n2 at *
      obtain ⟨wy, hwy⟩ : ∃ wy, wy = z1.alloc (.cells #[.string x.td.n, .int .i64 x.td.z0, .int .i64 x.td.z1, .int .i64 x.td.z2, .slice x.a4 n1 x.c4, .slice x.a5 n2 x.c5, .string x.td.g, .string x.td.a, .int .i64 x.td.r] 42) := ⟨_, rfl⟩
      have HTY : Hid (Hd.Bxn wy z1.heap.size [.string x.td.n, .int .i64 x.td.z0, .int .i64 x.td.z1, .int .i64 x.td.z2, .slice x.a4 n1 x.c4, .slice x.a5 n2 x.c5, .string x.td.g, .string x.td.a, .int .i64 x.td.r]) := by rw [hwy]; exact Hd.Bxn.made z1 _ _
      have HYB : Hid (Below w3.heap.size w3 wy) := by rw [hwy]; exact HU.out.alloc HU.out.size _
      have HWY := Lib.hid hwy
      clear hwy
      go_upto_region 10 with fail
      rw [← HWY.out]
      clear e0' e1' e2' e3' e4' e5' e6' e7' e8' HWY
      have HXY := Lib.hid (HX3.out.below HYB.out)
      have HBY : Hid (Below w.heap.size w wy) := HB3.out.trans (HYB.out.mono HB3.out.size)
      have n0 : wy.cell? ⟨z1.heap.size, 0, none⟩ = some (.string x.td.n) := HTY.out.cell 0
      have y0 : wy.cell? ⟨w.heap.size, 0, none⟩ = some (.slice a0 (b).ns.length c0) := HXY.out.cell 0
      have y1 : wy.cell? ⟨w.heap.size, 1, none⟩ = some (.slice b0 (b).ts.length d0) := HXY.out.cell 1
      have y2 : wy.cell? ⟨w.heap.size, 2, none⟩ = some (.slice e0 (b).bs.length f0) := HXY.out.cell 2
      have y3 : wy.cell? ⟨w.heap.size, 3, none⟩ = some (.int .u64 ((b).fe : Nat)) := HXY.out.cell 3
      go_wp2_with fail
      refine (HFQ.out x.td.n wy HBY.out).mono ?_
      rintro e w5 ⟨a5, c5, q5, rfl, hb⟩
      have HU5 : Hid (Below w3.heap.size w3 w5) := HYB.out.trans (hb.mono HYB.out.size)
      have HT5 := Lib.hid (HTY.out.below hb)
      clear hb y0 y1 y2 y3 n0 HXY HTY
      by_cases hfr : frV b x.td.n = []
      · have HPN : Hid (planV b = (plG b ((wtV b).drop (k + 1)) []).2) := by show _ = _; rw [HPK.out, HDR.out, first_skip hfr]
        have hz : (frV b x.td.n).length = 0 := by rw [hfr]; rfl
        rw [hz]
        clear hz hfr
        go_wp2
        go_roundg gg
        case measure => omega
        case rel => exact ⟨k + 1, by have := HKG.out; omega, by simp, HPN.out, HU5.out⟩
      · have hz : ¬ (frV b x.td.n).length = 0 := fun h => hfr (List.eq_nil_of_length_eq_zero h)
        have t0 : (((frV b x.td.n).length : Int) == 0) = false := by simp; exact hfr
        have t0b : ¬ ((frV b x.td.n).length : Int) = 0 := by omega
        obtain ⟨v, q, hpq⟩ := first_step (r := (wtV b).drop (k + 1)) HRB.out hfr
        have hpl : planV b = ⟨x.td.n, v⟩ :: q := by rw [HPK.out, HDR.out, hpq]
        have HE : Hid (Below w.heap.size w w5) := HB3.out.trans (HU5.out.mono HB3.out.size)
        rw [hpl] at HO3
        obtain ⟨g1, q1, hv, -, hgl1, hat1, -⟩ := HO3.out.form (by simp)
        rw [List.length_map] at hv
        simp only [Value.slice.injEq, true_and] at hv
        obtain ⟨rfl, rfl⟩ := hv
        have hc0 : w3.cell? ⟨g1, 16, none⟩ = some (.string x.td.n) := by
          have h1 : w3.cell? ⟨g1, 0 * 19 + 16, none⟩ = some (.string x.td.n) := hat1 0 (by simp) 16 _ rfl
          simpa using h1
        have c0 : w5.cell? ⟨g1, 16, none⟩ = some (.string x.td.n) := (HU5.out.cell (p := ⟨g1, 16, none⟩) hgl1).trans hc0
        have d0 : w5.cell? ⟨z1.heap.size, 0, none⟩ = some (.string x.td.n) := HT5.out.cell 0
        have hlp : 0 < (planV b).length := by rw [hpl]; simp
        have t6 : (0 : Int) < ((planV b).length : Int) := by omega
        have t7 : decide ((0 : Int) < ((planV b).length : Int)) = true := decide_eq_true t6
        have s0 : (x.td.n.toList == x.td.n.toList) = true := by simp
        clear hc0 hat1 hgl1 hpl hpq hfr
        clear HPK HPV HO3 HLM
        generalize (planV b).length = L at *
        have t8 : decide (0 < L) = true := decide_eq_true hlp
        have t9 : ¬ L = 0 := by omega
        go_upto_region 12 with fail
        go_quiet (fail)
        go_wp2
        go_ret
        exact ⟨rfl, Rg.bdN HE.out _⟩
theorem sfirst_law (b : Bk) (vb0 : Value) (w : World) (hb : BookArg w vb0 b) : Calls Tryz.prog 8 #[vb0] w fun e w' => e = .returned (.bool true) ∧ Below w.heap.size w w' := by
  cases hc : chkB b
  · exact sfirst_no b vb0 w hb hc
  · exact sfirst_ok b vb0 w hb hc
end Bo
end Go.Proofs.YthbmnkeigmbbdaaGreat
