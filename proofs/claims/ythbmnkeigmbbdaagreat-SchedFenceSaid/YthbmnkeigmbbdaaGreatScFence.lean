/-
  gafferlaw12.SchedFence.
-/
import Derived.Test.YthbmnkeigmbbdaaGreatScQuiet
import Derived.Test.YthbmnkeigmbbdaaGreatBgA
namespace Go.Proofs.YthbmnkeigmbbdaaGreat
open Go.RowKit Go.Lib
namespace Bo
open Rw
set_option linter.unusedVariables false
theorem pl_len : ∀ (r : List Hd.Td) (c : Bk) (s : List Rg.Pr), s.length ≤ 8 → (plG c r s).2.length ≤ 8
  | [], _, _, h => h
  | t :: r, c, s, h => by
    by_cases h8 : s.length = 8
    · rw [pl_full h8]; exact h
    · by_cases ho : bstV c t = ⟨#[]⟩
      · rw [pl_skip h8 ho]; exact pl_len r c s h
      · rw [pl_step h8 ho]; exact pl_len r _ _ (by rw [List.length_append]; simp; omega)
theorem plan_len (b : Bk) : (planV b).length ≤ 8 := by
  unfold planV
  split
  · exact pl_len _ _ _ (Nat.zero_le _)
  · exact Nat.zero_le _
theorem at_stp {w : World} {g o : Nat} {y : Stp} (h : At w g o y) : w.cell? ⟨g, o + 16, none⟩ = some (.string y.k) ∧ w.cell? ⟨g, o + 17, none⟩ = some (.string y.v) ∧ w.cell? ⟨g, o + 18, none⟩ = some (.int .u64 (y.fe : Nat)) := ⟨h 16 _ rfl, h 17 _ rfl, h 18 _ rfl⟩
set_option maxRecDepth 100000 in
set_option maxHeartbeats 4000000 in
theorem fence_nat (b : Bk) (f g : Nat) (vb0 : Value) (w : World) (hb : BookArg w vb0 b) : Calls Tryz.prog 9 #[vb0, .int .u64 (f : Nat), .int .u64 (g : Nat)] w fun e w' => e = .returned (.bool true) ∧ Below w.heap.size w w' := by
  obtain ⟨vn, vt, vb, rfl, hB⟩ := hb
  obtain ⟨⟨a0, c0, rfl⟩, ⟨b0, d0, rfl⟩, ⟨e0, f0, rfl⟩⟩ := And.intro hB.hn.slice (And.intro hB.ht.slice hB.hb.slice)
  obtain ⟨W0, hW0⟩ : ∃ W0, W0 = w.alloc (.cells #[.slice a0 (b).ns.length c0, .slice b0 (b).ts.length d0, .slice e0 (b).bs.length f0, .int .u64 ((b).fe : Nat)] 27) := ⟨_, rfl⟩
  have hb0 : Below w.heap.size w W0 := by rw [hW0]; exact al w _
  have hx0 : Hd.Bxn W0 w.heap.size [.slice a0 (b).ns.length c0, .slice b0 (b).ts.length d0, .slice e0 (b).bs.length f0, .int .u64 ((b).fe : Nat)] := by rw [hW0]; exact Hd.Bxn.made w _ _
  have HL : Hid (Calls Tryz.prog 26 #[] W0 fun e w' => e = .returned (.bool true) ∧ Below W0.heap.size W0 w') := livesS_any W0
  have HBK : Hid (∀ z, Below w.heap.size w z → Books z z.heap.size (.slice a0 (b).ns.length c0) (.slice b0 (b).ts.length d0) (.slice e0 (b).bs.length f0) (b)) := fun z hz => hB.on hz
  have HW := Lib.hid hW0
  have HX0 := Lib.hid hx0
  have HB0 := Lib.hid hb0
  clear hW0 hb0 hx0 hB
  have HPL : Hid (∀ (q : Nat) z, Below w.heap.size w z → Calls Tryz.prog 22 #[.agg #[.slice a0 (b).ns.length c0, .slice b0 (b).ts.length d0, .slice e0 (b).bs.length f0, .int .u64 ((b).fe : Nat)], .int .u64 (q : Nat)] z fun e w' => ∃ (a : Option Addr) (c : Nat), e = .returned (.tuple #[.slice a (planV b).length c, .int .i64 (chE (chkB b) : Nat)]) ∧ Own w' z.heap.size 55 (.slice a (planV b).length c) ((planV b).map (stp q)) ∧ Below z.heap.size z w') := fun q z hz => by
    refine (plan_any b _ _ _ q z (HBK.out z hz)).mono ?_
    rintro e w' ⟨v, he, ho, hb⟩
    obtain ⟨a, c, rfl⟩ := ho.slice
    rw [List.length_map] at he ho
    exact ⟨a, c, he, ho, hb⟩
  have HLP : Hid ((planV b).length ≤ 8) := plan_len b
  generalize chE (chkB b) = er at *
  have t0 : ((er : Int) != (er : Int)) = false := by simp
  go_enter Tryz.func9, Tryz.ntmps9
  go_upto_region 1 with fail
  rw [← HW.out]
  go_wp2_with fail
  refine HL.out.mono ?_
  rintro e w1 ⟨rfl, hb⟩
  have HX1 := Lib.hid (HX0.out.below hb)
  have HB1 : Hid (Below w.heap.size w w1) := HB0.out.trans (hb.mono HB0.out.size)
  clear hb HX0 HB0 HL HW
  have y0 : w1.cell? ⟨w.heap.size, 0, none⟩ = some (.slice a0 (b).ns.length c0) := HX1.out.cell 0
  have y1 : w1.cell? ⟨w.heap.size, 1, none⟩ = some (.slice b0 (b).ts.length d0) := HX1.out.cell 1
  have y2 : w1.cell? ⟨w.heap.size, 2, none⟩ = some (.slice e0 (b).bs.length f0) := HX1.out.cell 2
  have y3 : w1.cell? ⟨w.heap.size, 3, none⟩ = some (.int .u64 ((b).fe : Nat)) := HX1.out.cell 3
  go_wp2_with fail
  refine (HPL.out f w1 HB1.out).mono ?_
  rintro e w2 ⟨a1, c1, rfl, ho, hb⟩
  have HX12 := Lib.hid (HX1.out.below hb)
  have HB2 : Hid (Below w.heap.size w w2) := HB1.out.trans (hb.mono HB1.out.size)
  have HO1 := Lib.hid ho
  have HX2 := HX12
  clear ho HX12
  clear hb y0 y1 y2 y3
  have y0 : w2.cell? ⟨w.heap.size, 0, none⟩ = some (.slice a0 (b).ns.length c0) := HX2.out.cell 0
  have y1 : w2.cell? ⟨w.heap.size, 1, none⟩ = some (.slice b0 (b).ts.length d0) := HX2.out.cell 1
  have y2 : w2.cell? ⟨w.heap.size, 2, none⟩ = some (.slice e0 (b).bs.length f0) := HX2.out.cell 2
  have y3 : w2.cell? ⟨w.heap.size, 3, none⟩ = some (.int .u64 ((b).fe : Nat)) := HX2.out.cell 3
  go_wp2_with fail
  refine (HPL.out g w2 HB2.out).mono ?_
  rintro e w3 ⟨a2, c2, rfl, ho, hb⟩
  have HX22 := Lib.hid (HX2.out.below hb)
  have HB3 : Hid (Below w.heap.size w w3) := HB2.out.trans (hb.mono HB2.out.size)
  have HO2 := Lib.hid ho
  have HO3 := Lib.hid (HO1.out.keep hb)
  clear ho HX22
  clear hb y0 y1 y2 y3
  clear HX1 HX2 HPL HO1 HB1 HB2 HBK
  have HLS : Hid ((planV b).length = ((planV b).map (stp f)).length ∧ (planV b).length = ((planV b).map (stp g)).length) := ⟨(List.length_map ..).symm, (List.length_map ..).symm⟩
  go_wp2
  go_loopg [38] (planV b).length (fun gg i wx => ∃ k : Nat, k + gg = (planV b).length ∧ i = .int .i64 k ∧ Aside (Below w3.heap.size w3 wx))
  case atStart => exact ⟨0, by omega, rfl, Below.refl _ _⟩
  case round =>
    obtain ⟨k, hkg, rfl, HA⟩ := hrel
    have HU : Hid (Below w3.heap.size w3 wr) := HA.out
    clear HA
    cases gk with
    | zero =>
      obtain rfl : k = (planV b).length := by omega
      have HE : Hid (Below w.heap.size w wr) := HB3.out.trans (HU.out.mono HB3.out.size)
      clear hkg
      go_wp2
      go_ret
      exact ⟨rfl, HE.out⟩
    | succ gg =>
      have hlk : k < (planV b).length := by omega
      have t2 : (k : Int) < ((planV b).length : Int) := by omega
      have t3 : IntKind.i64.wrap ((k : Int) + 1) = (k : Int) + 1 := by rw [IntKind.wrap_i64]; have := HLP.out; omega
      have t4 : (0 : Int) ≤ (k : Int) := by omega
      obtain ⟨g1, q1, hv, -, hgl1, hat1, -⟩ := HO3.out.form (by rw [List.length_map]; omega)
      rw [List.length_map] at hv
      simp only [Value.slice.injEq, true_and] at hv
      obtain ⟨rfl, rfl⟩ := hv
      obtain ⟨g2, q2, hv, -, hgl2, hat2, -⟩ := HO2.out.form (by rw [List.length_map]; omega)
      rw [List.length_map] at hv
      simp only [Value.slice.injEq, true_and] at hv
      obtain ⟨rfl, rfl⟩ := hv
      have ha1 : At w3 g1 (k * 19) (stp f (planV b)[k]) := by have := hat1 k (by rw [List.length_map]; exact hlk); rw [List.getElem_map] at this; exact this
      have ha2 : At w3 g2 (k * 19) (stp g (planV b)[k]) := by have := hat2 k (by rw [List.length_map]; exact hlk); rw [List.getElem_map] at this; exact this
      obtain ⟨p0, p1, p2⟩ := at_stp ha1
      obtain ⟨r0, r1, r2⟩ := at_stp ha2
      generalize (planV b)[k] = y at *
      have e0 : wr.cell? ⟨g1, k * 19 + 16, none⟩ = some (.string y.k) := (HU.out.cell (by exact hgl1)).trans p0
      have e1 : wr.cell? ⟨g1, k * 19 + 17, none⟩ = some (.string y.v) := (HU.out.cell (by exact hgl1)).trans p1
      have e2 : wr.cell? ⟨g1, k * 19 + 18, none⟩ = some (.int .u64 (f : Nat)) := (HU.out.cell (by exact hgl1)).trans p2
      have f0 : wr.cell? ⟨g2, k * 19 + 16, none⟩ = some (.string y.k) := (HU.out.cell (by exact hgl2)).trans r0
      have f1 : wr.cell? ⟨g2, k * 19 + 17, none⟩ = some (.string y.v) := (HU.out.cell (by exact hgl2)).trans r1
      have f2 : wr.cell? ⟨g2, k * 19 + 18, none⟩ = some (.int .u64 (g : Nat)) := (HU.out.cell (by exact hgl2)).trans r2
      have s0 : (y.k.toList == y.k.toList) = true := by simp
      have s1 : (y.v.toList == y.v.toList) = true := by simp
      have s2 : ((f : Int) == (f : Int)) = true := by simp
      have s3 : ((g : Int) == (g : Int)) = true := by simp
      have HKG := Lib.hid hkg
      clear p0 p1 p2 r0 r1 r2 ha1 ha2 hat1 hat2 hgl1 hgl2 hkg
      go_upto_region 10 with fail
      go_quiet (fail)
      go_wp2
      go_roundg gg
      case measure => omega
      case rel => exact ⟨k + 1, by have := HKG.out; omega, by simp, Rg.bdN HU.out _⟩
theorem sfence_law (b : Bk) (i j : Int) (vb0 : Value) (w : World) (hb : BookArg w vb0 b) (hi : (Lit.int .u64 i).wf = true) (hj : (Lit.int .u64 j).wf = true) :
    Calls Tryz.prog 9 #[vb0, .int .u64 i, .int .u64 j] w fun e w' => e = .returned (.bool true) ∧ Below w.heap.size w w' := by
  have h1 := bounds_u64 hi
  have h2 := bounds_u64 hj
  obtain ⟨f, rfl⟩ : ∃ f : Nat, i = (f : Nat) := ⟨i.toNat, by omega⟩
  obtain ⟨g, rfl⟩ : ∃ g : Nat, j = (g : Nat) := ⟨j.toNat, by omega⟩
  exact fence_nat b f g vb0 w hb
end Bo
end Go.Proofs.YthbmnkeigmbbdaaGreat
