/-
  gafferlaw12.SchedAll.
-/
import Derived.Test.YthbmnkeigmbbdaaGreatScRuns
import Derived.Test.YthbmnkeigmbbdaaGreatBgA
namespace Go.Proofs.YthbmnkeigmbbdaaGreat
open Go.RowKit Go.Lib
namespace Bo
open Rw
set_option linter.unusedVariables false
theorem pl_lenA : ∀ (r : List Hd.Td) (c : Bk) (s : List Rg.Pr), s.length ≤ 8 → (plG c r s).2.length ≤ 8
  | [], _, _, h => h
  | t :: r, c, s, h => by
    by_cases h8 : s.length = 8
    · rw [pl_full h8]; exact h
    · by_cases ho : bstV c t = ⟨#[]⟩
      · rw [pl_skip h8 ho]; exact pl_lenA r c s h
      · rw [pl_step h8 ho]; exact pl_lenA r _ _ (by rw [List.length_append]; simp; omega)
theorem plan_lenA (b : Bk) : (planV b).length ≤ 8 := by
  unfold planV
  split
  · exact pl_lenA _ _ _ (Nat.zero_le _)
  · exact Nat.zero_le _
theorem runs_fit : ∀ {q : List Rg.Pr} {c : Bk}, Runs c q → (∀ n ∈ c.ns, FitN n) → (∀ t ∈ c.ts, FitT t) → ∀ p ∈ q, FitB p
  | [], _, _, _, _, p, hp => by cases hp
  | p0 :: q, c, h, hn, ht, p, hp => by
    obtain ⟨h0, -, -, h3⟩ := h
    obtain ⟨-, e1, e2⟩ := bi_more h0
    rcases List.mem_cons.1 hp with rfl | hp
    · obtain ⟨⟨c1, c2⟩, -, -⟩ := can0.1 h0
      obtain ⟨t, ht', hk⟩ := has_mem (f := fun t : Hd.Td => t.n) c1
      obtain ⟨n, hn', hv⟩ := has_mem (f := fun n : Hd.Nd => n.n) c2
      refine ⟨?_, ?_⟩
      · have h := (ht t ht').1.1
        have hk : t.n = p.k := hk
        rw [hk] at h
        exact h
      · have h := (hn n hn').1
        have hv : n.n = p.v := hv
        rw [hv] at h
        exact h
    · exact runs_fit h3 (by rw [e1]; exact hn) (by rw [e2]; exact ht) p hp
set_option maxRecDepth 100000 in
set_option maxHeartbeats 4000000 in
theorem sall_no (b : Bk) (f : Nat) (vb0 : Value) (w : World) (hb : BookArg w vb0 b) (hc : chkB b = false) : Calls Tryz.prog 6 #[vb0, .int .u64 (f : Nat)] w fun e w' => e = .returned (.bool true) ∧ Below w.heap.size w w' := by
  obtain ⟨vn, vt, vb, rfl, hB⟩ := hb
  obtain ⟨⟨a0, c0, rfl⟩, ⟨b0, d0, rfl⟩, ⟨e0, f0, rfl⟩⟩ := And.intro hB.hn.slice (And.intro hB.ht.slice hB.hb.slice)
  obtain ⟨W0, hW0⟩ : ∃ W0, W0 = w.alloc (.cells #[.slice a0 (b).ns.length c0, .slice b0 (b).ts.length d0, .slice e0 (b).bs.length f0, .int .u64 ((b).fe : Nat)] 27) := ⟨_, rfl⟩
  have hb0 : Below w.heap.size w W0 := by rw [hW0]; exact al w _
  have hx0 : Hd.Bxn W0 w.heap.size [.slice a0 (b).ns.length c0, .slice b0 (b).ts.length d0, .slice e0 (b).bs.length f0, .int .u64 ((b).fe : Nat)] := by rw [hW0]; exact Hd.Bxn.made w _ _
  have HL : Hid (Calls Tryz.prog 26 #[] W0 fun e w' => e = .returned (.bool true) ∧ Below W0.heap.size W0 w') := livesS_any W0
  have HBK : Hid (∀ z, Below w.heap.size w z → Books z z.heap.size (.slice a0 (b).ns.length c0) (.slice b0 (b).ts.length d0) (.slice e0 (b).bs.length f0) (b)) := fun z hz => hB.on hz
  have HW := Lib.hid hW0
  have HX0 := Lib.hid hx0
  have HB0 := Lib.hid hb0
  clear hW0 hb0 hx0 hB
  have HPL : Hid (∀ z, Below w.heap.size w z → Calls Tryz.prog 22 #[.agg #[.slice a0 (b).ns.length c0, .slice b0 (b).ts.length d0, .slice e0 (b).bs.length f0, .int .u64 ((b).fe : Nat)], .int .u64 (f : Nat)] z fun e w' => ∃ (a : Option Addr) (c : Nat), e = .returned (.tuple #[.slice a (planV b).length c, .int .i64 (chE (chkB b) : Nat)]) ∧ Own w' z.heap.size 55 (.slice a (planV b).length c) ((planV b).map (stp f)) ∧ Below z.heap.size z w') := fun z hz => by
    refine (plan_any b _ _ _ f z (HBK.out z hz)).mono ?_
    rintro e w' ⟨v, he, ho, hb⟩
    obtain ⟨a, c, rfl⟩ := ho.slice
    rw [List.length_map] at he ho
    exact ⟨a, c, he, ho, hb⟩
  have HQU : Hid (∀ z, Below w.heap.size w z → Calls Tryz.prog 24 #[.agg #[.slice a0 (b).ns.length c0, .slice b0 (b).ts.length d0, .slice e0 (b).bs.length f0, .int .u64 ((b).fe : Nat)]] z fun e w' => e = .returned (.tuple #[.bool (quiV b), .int .i64 (chE (chkB b) : Nat)]) ∧ Below z.heap.size z w') := fun z hz => quiet_any b _ _ _ z (HBK.out z hz)
  have h10 : chE (chkB b) = 10 := by rw [hc]; rfl
  have hq : quiV b = false := by unfold quiV; rw [hc, if_neg (by decide)]
  have hl : (planV b).length = 0 := by unfold planV; rw [hc, if_neg (by decide)]; rfl
  rw [h10, hl] at HPL
  rw [h10, hq] at HQU
  clear hc h10 hq hl
  go_enter Tryz.func6, Tryz.ntmps6
  go_upto_region 1 with fail
  rw [← HW.out]
  go_wp2_with fail
  refine HL.out.mono ?_
  rintro e w1 ⟨rfl, hb⟩
  have HX1 := Lib.hid (HX0.out.below hb)
  have HB1 : Hid (Below w.heap.size w w1) := HB0.out.trans (hb.mono HB0.out.size)
  clear hb HX0 HB0 HL HW
  have y0 : w1.cell? ⟨w.heap.size, 0, none⟩ = some (.slice a0 (b).ns.length c0) := HX1.out.cell 0
  have y1 : w1.cell? ⟨w.heap.size, 1, none⟩ = some (.slice b0 (b).ts.length d0) := HX1.out.cell 1
  have y2 : w1.cell? ⟨w.heap.size, 2, none⟩ = some (.slice e0 (b).bs.length f0) := HX1.out.cell 2
  have y3 : w1.cell? ⟨w.heap.size, 3, none⟩ = some (.int .u64 ((b).fe : Nat)) := HX1.out.cell 3
  go_wp2_with fail
  refine (HPL.out w1 HB1.out).mono ?_
  rintro e w2 ⟨ap, cp, rfl, ho, hb⟩
  have HX12 := Lib.hid (HX1.out.below hb)
  have HS1 : Hid (w.heap.size < w1.heap.size) := HX1.out.lt
  have HB2 : Hid (Below w.heap.size w w2) := HB1.out.trans (hb.mono HB1.out.size)
  have HO1 := Lib.hid ho
  have HX2 := HX12
  clear ho HX12
  clear hb y0 y1 y2 y3
  have y0 : w2.cell? ⟨w.heap.size, 0, none⟩ = some (.slice a0 (b).ns.length c0) := HX2.out.cell 0
  have y1 : w2.cell? ⟨w.heap.size, 1, none⟩ = some (.slice b0 (b).ts.length d0) := HX2.out.cell 1
  have y2 : w2.cell? ⟨w.heap.size, 2, none⟩ = some (.slice e0 (b).bs.length f0) := HX2.out.cell 2
  have y3 : w2.cell? ⟨w.heap.size, 3, none⟩ = some (.int .u64 ((b).fe : Nat)) := HX2.out.cell 3
  go_wp2_with fail
  refine (HQU.out w2 HB2.out).mono ?_
  rintro e w3 ⟨rfl, hb⟩
  have HX22 := Lib.hid (HX2.out.below hb)
  have HB3 : Hid (Below w.heap.size w w3) := HB2.out.trans (hb.mono HB2.out.size)
  have hs23 : w2.heap.size ≤ w3.heap.size := hb.size
  have HO3 := Lib.hid (HO1.out.keep hb)
  have HX3 := HX22
  clear HX22
  clear hb y0 y1 y2 y3
  clear HX1 HX2 HX3 HPL HQU HO1 HB1 HB2 HBK HO3 hs23
  go_wp2
  go_ret
  exact ⟨rfl, HB3.out⟩
set_option maxRecDepth 100000 in
set_option maxHeartbeats 4000000 in
theorem sall_zero (b : Bk) (f : Nat) (vb0 : Value) (w : World) (hb : BookArg w vb0 b) (hc : chkB b = true) (hz : (planV b).length = 0) : Calls Tryz.prog 6 #[vb0, .int .u64 (f : Nat)] w fun e w' => e = .returned (.bool true) ∧ Below w.heap.size w w' := by
  obtain ⟨vn, vt, vb, rfl, hB⟩ := hb
  obtain ⟨⟨a0, c0, rfl⟩, ⟨b0, d0, rfl⟩, ⟨e0, f0, rfl⟩⟩ := And.intro hB.hn.slice (And.intro hB.ht.slice hB.hb.slice)
  obtain ⟨W0, hW0⟩ : ∃ W0, W0 = w.alloc (.cells #[.slice a0 (b).ns.length c0, .slice b0 (b).ts.length d0, .slice e0 (b).bs.length f0, .int .u64 ((b).fe : Nat)] 27) := ⟨_, rfl⟩
  have hb0 : Below w.heap.size w W0 := by rw [hW0]; exact al w _
  have hx0 : Hd.Bxn W0 w.heap.size [.slice a0 (b).ns.length c0, .slice b0 (b).ts.length d0, .slice e0 (b).bs.length f0, .int .u64 ((b).fe : Nat)] := by rw [hW0]; exact Hd.Bxn.made w _ _
  have HL : Hid (Calls Tryz.prog 26 #[] W0 fun e w' => e = .returned (.bool true) ∧ Below W0.heap.size W0 w') := livesS_any W0
  have HBK : Hid (∀ z, Below w.heap.size w z → Books z z.heap.size (.slice a0 (b).ns.length c0) (.slice b0 (b).ts.length d0) (.slice e0 (b).bs.length f0) (b)) := fun z hz => hB.on hz
  have HW := Lib.hid hW0
  have HX0 := Lib.hid hx0
  have HB0 := Lib.hid hb0
  clear hW0 hb0 hx0 hB
  have HPL : Hid (∀ z, Below w.heap.size w z → Calls Tryz.prog 22 #[.agg #[.slice a0 (b).ns.length c0, .slice b0 (b).ts.length d0, .slice e0 (b).bs.length f0, .int .u64 ((b).fe : Nat)], .int .u64 (f : Nat)] z fun e w' => ∃ (a : Option Addr) (c : Nat), e = .returned (.tuple #[.slice a (planV b).length c, .int .i64 (chE (chkB b) : Nat)]) ∧ Own w' z.heap.size 55 (.slice a (planV b).length c) ((planV b).map (stp f)) ∧ Below z.heap.size z w') := fun z hz => by
    refine (plan_any b _ _ _ f z (HBK.out z hz)).mono ?_
    rintro e w' ⟨v, he, ho, hb⟩
    obtain ⟨a, c, rfl⟩ := ho.slice
    rw [List.length_map] at he ho
    exact ⟨a, c, he, ho, hb⟩
  have HQU : Hid (∀ z, Below w.heap.size w z → Calls Tryz.prog 24 #[.agg #[.slice a0 (b).ns.length c0, .slice b0 (b).ts.length d0, .slice e0 (b).bs.length f0, .int .u64 ((b).fe : Nat)]] z fun e w' => e = .returned (.tuple #[.bool (quiV b), .int .i64 (chE (chkB b) : Nat)]) ∧ Below z.heap.size z w') := fun z hz => quiet_any b _ _ _ z (HBK.out z hz)
  have h0 : chE (chkB b) = 0 := by rw [hc]; rfl
  rw [h0] at HPL HQU
  have HC0 : Hid (chkB b = true) := hc
  have HRU := Lib.hid (plan_runs hc)
  have HLP : Hid ((planV b).length ≤ 8) := plan_lenA b
  have HFP : Hid (∀ p ∈ planV b, FitB p) := runs_fit HRU.out ((HBK.out w (Below.refl _ _)).fine hc).fn ((HBK.out w (Below.refl _ _)).fine hc).ft
  have HQV := Lib.hid (quiet_iff hc)
  rw [quiet_iff hc] at HQU
  clear hc h0
  have HZP := Lib.hid hz
  rw [decide_eq_true hz] at HQU
  have t0 : (((planV b).length : Int) == 0) = true := by rw [hz]; rfl
  have t0b : True := trivial
  all_goals
    go_enter Tryz.func6, Tryz.ntmps6
    go_upto_region 1 with fail
    rw [← HW.out]
    go_wp2_with fail
    refine HL.out.mono ?_
    rintro e w1 ⟨rfl, hb⟩
    have HX1 := Lib.hid (HX0.out.below hb)
    have HB1 : Hid (Below w.heap.size w w1) := HB0.out.trans (hb.mono HB0.out.size)
    clear hb HX0 HB0 HL HW
    have y0 : w1.cell? ⟨w.heap.size, 0, none⟩ = some (.slice a0 (b).ns.length c0) := HX1.out.cell 0
    have y1 : w1.cell? ⟨w.heap.size, 1, none⟩ = some (.slice b0 (b).ts.length d0) := HX1.out.cell 1
    have y2 : w1.cell? ⟨w.heap.size, 2, none⟩ = some (.slice e0 (b).bs.length f0) := HX1.out.cell 2
    have y3 : w1.cell? ⟨w.heap.size, 3, none⟩ = some (.int .u64 ((b).fe : Nat)) := HX1.out.cell 3
    go_wp2_with fail
    refine (HPL.out w1 HB1.out).mono ?_
    rintro e w2 ⟨ap, cp, rfl, ho, hb⟩
    have HX12 := Lib.hid (HX1.out.below hb)
    have HS1 : Hid (w.heap.size < w1.heap.size) := HX1.out.lt
    have HB2 : Hid (Below w.heap.size w w2) := HB1.out.trans (hb.mono HB1.out.size)
    have HO1 := Lib.hid ho
    have HX2 := HX12
    clear ho HX12
    clear hb y0 y1 y2 y3
    have y0 : w2.cell? ⟨w.heap.size, 0, none⟩ = some (.slice a0 (b).ns.length c0) := HX2.out.cell 0
    have y1 : w2.cell? ⟨w.heap.size, 1, none⟩ = some (.slice b0 (b).ts.length d0) := HX2.out.cell 1
    have y2 : w2.cell? ⟨w.heap.size, 2, none⟩ = some (.slice e0 (b).bs.length f0) := HX2.out.cell 2
    have y3 : w2.cell? ⟨w.heap.size, 3, none⟩ = some (.int .u64 ((b).fe : Nat)) := HX2.out.cell 3
    go_wp2_with fail
    refine (HQU.out w2 HB2.out).mono ?_
    rintro e w3 ⟨rfl, hb⟩
    have HX22 := Lib.hid (HX2.out.below hb)
    have HB3 : Hid (Below w.heap.size w w3) := HB2.out.trans (hb.mono HB2.out.size)
    have hs23 : w2.heap.size ≤ w3.heap.size := hb.size
    have HO3 := Lib.hid (HO1.out.keep hb)
    have HX3 := HX22
    clear HX22
    clear hb y0 y1 y2 y3
    have HS3 : Hid (w.heap.size < w2.heap.size ∧ w2.heap.size ≤ w3.heap.size) := ⟨HX2.out.lt, hs23⟩
    clear HX1 HX2 HPL HQU HO1 HB1 HB2 HQV hs23
    have t1 : ¬ (8 : Int) < ((planV b).length : Int) := by have := HLP.out; omega
    have t1b : decide ((8 : Int) < ((planV b).length : Int)) = false := decide_eq_false t1
    clear hz
    generalize hL : (planV b).length = L at *
    have HL := Lib.hid hL
    clear hL
    have t1n : ¬ 8 < L := by have := HLP.out; omega
    go_wp2
    clear t0 t0b t1 t1b t1n
    go_loopg [56] L (fun gg i wx => ∃ (k : Nat) (c : Bk) (a1 a2 a3 : Option Addr) (d1 d2 d3 : Nat), k + gg = L ∧ i = .int .i64 k ∧ Aside ((b.fe ≤ f → Runs c ((planV b).drop k)) ∧ chkB c = true ∧ c.fe = b.fe) ∧ Aside (Hd.Bxn wx w.heap.size [.slice a1 c.ns.length d1, .slice a2 c.ts.length d2, .slice a3 c.bs.length d3, .int .u64 (c.fe : Nat)]) ∧ Aside (w3.grownBy wx (some w.heap.size)) ∧ Aside (BkIn w wx c (.slice a1 c.ns.length d1) (.slice a2 c.ts.length d2) (.slice a3 c.bs.length d3)) ∧ Aside (Below w.heap.size w wx))
    case atStart => exact ⟨0, b, a0, b0, e0, c0, d0, f0, by omega, rfl, ⟨fun _ => HRU.out, HC0.out, rfl⟩, HX3.out, grown_of _ (Below.refl _ _), .inl HBK.out, HB3.out⟩
    case round =>
      obtain ⟨k, c, a1, a2, a3, d1, d2, d3, hkg, rfl, HA1, HA2, HA3, HA4, HA5⟩ := hrel
      have HI := Lib.hid HA1.out
      have HX := Lib.hid HA2.out
      have HG : Hid (w3.grownBy wr (some w.heap.size)) := HA3.out
      have HK := Lib.hid HA4.out
      have HB := Lib.hid HA5.out
      clear HA1 HA2 HA3 HA4 HA5
      cases gk with
      | zero =>
        obtain rfl : k = L := by omega
        clear hkg
        go_wp2
        go_ret
        exact ⟨rfl, HB.out⟩
      | succ gg => exfalso; have h9 := HZP.out; omega
set_option maxRecDepth 100000 in
set_option maxHeartbeats 4000000 in
theorem sall_ok (b : Bk) (f : Nat) (vb0 : Value) (w : World) (hb : BookArg w vb0 b) (hc : chkB b = true) (hz : ¬ (planV b).length = 0) : Calls Tryz.prog 6 #[vb0, .int .u64 (f : Nat)] w fun e w' => e = .returned (.bool true) ∧ Below w.heap.size w w' := by
  obtain ⟨vn, vt, vb, rfl, hB⟩ := hb
  obtain ⟨⟨a0, c0, rfl⟩, ⟨b0, d0, rfl⟩, ⟨e0, f0, rfl⟩⟩ := And.intro hB.hn.slice (And.intro hB.ht.slice hB.hb.slice)
  obtain ⟨W0, hW0⟩ : ∃ W0, W0 = w.alloc (.cells #[.slice a0 (b).ns.length c0, .slice b0 (b).ts.length d0, .slice e0 (b).bs.length f0, .int .u64 ((b).fe : Nat)] 27) := ⟨_, rfl⟩
  have hb0 : Below w.heap.size w W0 := by rw [hW0]; exact al w _
  have hx0 : Hd.Bxn W0 w.heap.size [.slice a0 (b).ns.length c0, .slice b0 (b).ts.length d0, .slice e0 (b).bs.length f0, .int .u64 ((b).fe : Nat)] := by rw [hW0]; exact Hd.Bxn.made w _ _
  have HL : Hid (Calls Tryz.prog 26 #[] W0 fun e w' => e = .returned (.bool true) ∧ Below W0.heap.size W0 w') := livesS_any W0
  have HBK : Hid (∀ z, Below w.heap.size w z → Books z z.heap.size (.slice a0 (b).ns.length c0) (.slice b0 (b).ts.length d0) (.slice e0 (b).bs.length f0) (b)) := fun z hz => hB.on hz
  have HW := Lib.hid hW0
  have HX0 := Lib.hid hx0
  have HB0 := Lib.hid hb0
  clear hW0 hb0 hx0 hB
  have HPL : Hid (∀ z, Below w.heap.size w z → Calls Tryz.prog 22 #[.agg #[.slice a0 (b).ns.length c0, .slice b0 (b).ts.length d0, .slice e0 (b).bs.length f0, .int .u64 ((b).fe : Nat)], .int .u64 (f : Nat)] z fun e w' => ∃ (a : Option Addr) (c : Nat), e = .returned (.tuple #[.slice a (planV b).length c, .int .i64 (chE (chkB b) : Nat)]) ∧ Own w' z.heap.size 55 (.slice a (planV b).length c) ((planV b).map (stp f)) ∧ Below z.heap.size z w') := fun z hz => by
    refine (plan_any b _ _ _ f z (HBK.out z hz)).mono ?_
    rintro e w' ⟨v, he, ho, hb⟩
    obtain ⟨a, c, rfl⟩ := ho.slice
    rw [List.length_map] at he ho
    exact ⟨a, c, he, ho, hb⟩
  have HQU : Hid (∀ z, Below w.heap.size w z → Calls Tryz.prog 24 #[.agg #[.slice a0 (b).ns.length c0, .slice b0 (b).ts.length d0, .slice e0 (b).bs.length f0, .int .u64 ((b).fe : Nat)]] z fun e w' => e = .returned (.tuple #[.bool (quiV b), .int .i64 (chE (chkB b) : Nat)]) ∧ Below z.heap.size z w') := fun z hz => quiet_any b _ _ _ z (HBK.out z hz)
  have h0 : chE (chkB b) = 0 := by rw [hc]; rfl
  rw [h0] at HPL HQU
  have HC0 : Hid (chkB b = true) := hc
  have HRU := Lib.hid (plan_runs hc)
  have HLP : Hid ((planV b).length ≤ 8) := plan_lenA b
  have HFP : Hid (∀ p ∈ planV b, FitB p) := runs_fit HRU.out ((HBK.out w (Below.refl _ _)).fine hc).fn ((HBK.out w (Below.refl _ _)).fine hc).ft
  have HQV := Lib.hid (quiet_iff hc)
  rw [quiet_iff hc] at HQU
  clear hc h0
  rw [decide_eq_false hz] at HQU
  have t0 : (((planV b).length : Int) == 0) = false := by rw [beq_eq_false_iff_ne]; omega
  have t0b : ¬ ((planV b).length : Int) = 0 := by omega
  all_goals
    go_enter Tryz.func6, Tryz.ntmps6
    go_upto_region 1 with fail
    rw [← HW.out]
    go_wp2_with fail
    refine HL.out.mono ?_
    rintro e w1 ⟨rfl, hb⟩
    have HX1 := Lib.hid (HX0.out.below hb)
    have HB1 : Hid (Below w.heap.size w w1) := HB0.out.trans (hb.mono HB0.out.size)
    clear hb HX0 HB0 HL HW
    have y0 : w1.cell? ⟨w.heap.size, 0, none⟩ = some (.slice a0 (b).ns.length c0) := HX1.out.cell 0
    have y1 : w1.cell? ⟨w.heap.size, 1, none⟩ = some (.slice b0 (b).ts.length d0) := HX1.out.cell 1
    have y2 : w1.cell? ⟨w.heap.size, 2, none⟩ = some (.slice e0 (b).bs.length f0) := HX1.out.cell 2
    have y3 : w1.cell? ⟨w.heap.size, 3, none⟩ = some (.int .u64 ((b).fe : Nat)) := HX1.out.cell 3
    go_wp2_with fail
    refine (HPL.out w1 HB1.out).mono ?_
    rintro e w2 ⟨ap, cp, rfl, ho, hb⟩
    have HX12 := Lib.hid (HX1.out.below hb)
    have HS1 : Hid (w.heap.size < w1.heap.size) := HX1.out.lt
    have HB2 : Hid (Below w.heap.size w w2) := HB1.out.trans (hb.mono HB1.out.size)
    have HO1 := Lib.hid ho
    have HX2 := HX12
    clear ho HX12
    clear hb y0 y1 y2 y3
    have y0 : w2.cell? ⟨w.heap.size, 0, none⟩ = some (.slice a0 (b).ns.length c0) := HX2.out.cell 0
    have y1 : w2.cell? ⟨w.heap.size, 1, none⟩ = some (.slice b0 (b).ts.length d0) := HX2.out.cell 1
    have y2 : w2.cell? ⟨w.heap.size, 2, none⟩ = some (.slice e0 (b).bs.length f0) := HX2.out.cell 2
    have y3 : w2.cell? ⟨w.heap.size, 3, none⟩ = some (.int .u64 ((b).fe : Nat)) := HX2.out.cell 3
    go_wp2_with fail
    refine (HQU.out w2 HB2.out).mono ?_
    rintro e w3 ⟨rfl, hb⟩
    have HX22 := Lib.hid (HX2.out.below hb)
    have HB3 : Hid (Below w.heap.size w w3) := HB2.out.trans (hb.mono HB2.out.size)
    have hs23 : w2.heap.size ≤ w3.heap.size := hb.size
    have HO3 := Lib.hid (HO1.out.keep hb)
    have HX3 := HX22
    clear HX22
    clear hb y0 y1 y2 y3
    have HS3 : Hid (w.heap.size < w2.heap.size ∧ w2.heap.size ≤ w3.heap.size) := ⟨HX2.out.lt, hs23⟩
    clear HX1 HX2 HPL HQU HO1 HB1 HB2 HQV hs23
    have t1 : ¬ (8 : Int) < ((planV b).length : Int) := by have := HLP.out; omega
    have t1b : decide ((8 : Int) < ((planV b).length : Int)) = false := decide_eq_false t1
    clear hz
    generalize hL : (planV b).length = L at *
    have HL := Lib.hid hL
    clear hL
    have t1n : ¬ 8 < L := by have := HLP.out; omega
    go_wp2
    clear t0 t0b t1 t1b t1n
    go_loopg [56] L (fun gg i wx => ∃ (k : Nat) (c : Bk) (a1 a2 a3 : Option Addr) (d1 d2 d3 : Nat), k + gg = L ∧ i = .int .i64 k ∧ Aside ((b.fe ≤ f → Runs c ((planV b).drop k)) ∧ chkB c = true ∧ c.fe = b.fe) ∧ Aside (Hd.Bxn wx w.heap.size [.slice a1 c.ns.length d1, .slice a2 c.ts.length d2, .slice a3 c.bs.length d3, .int .u64 (c.fe : Nat)]) ∧ Aside (w3.grownBy wx (some w.heap.size)) ∧ Aside (BkIn w wx c (.slice a1 c.ns.length d1) (.slice a2 c.ts.length d2) (.slice a3 c.bs.length d3)) ∧ Aside (Below w.heap.size w wx))
    case atStart => exact ⟨0, b, a0, b0, e0, c0, d0, f0, by omega, rfl, ⟨fun _ => HRU.out, HC0.out, rfl⟩, HX3.out, grown_of _ (Below.refl _ _), .inl HBK.out, HB3.out⟩
    case round =>
      obtain ⟨k, c, a1, a2, a3, d1, d2, d3, hkg, rfl, HA1, HA2, HA3, HA4, HA5⟩ := hrel
      have HI := Lib.hid HA1.out
      have HX := Lib.hid HA2.out
      have HG : Hid (w3.grownBy wr (some w.heap.size)) := HA3.out
      have HK := Lib.hid HA4.out
      have HB := Lib.hid HA5.out
      clear HA1 HA2 HA3 HA4 HA5
      cases gk with
      | zero =>
        obtain rfl : k = L := by omega
        clear hkg
        go_wp2
        go_ret
        exact ⟨rfl, HB.out⟩
      | succ gg =>
        have hlk : k < (planV b).length := by rw [HL.out]; omega
        have t2 : (k : Int) < (L : Int) := by omega
        have t3 : IntKind.i64.wrap ((k : Int) + 1) = (k : Int) + 1 := by rw [IntKind.wrap_i64]; have := HLP.out; omega
        have t4 : (0 : Int) ≤ (k : Int) := by omega
        obtain ⟨g, cap, hv, hbg, hgl, hat, -⟩ := HO3.out.form (by rw [List.length_map]; omega)
        simp only [Value.slice.injEq] at hv
        obtain ⟨rfl, -, rfl⟩ := hv
        have ha : At w3 g (k * 19) (stp f (planV b)[k]) := by have := hat k (by rw [List.length_map]; exact hlk); rw [List.getElem_map] at this; exact this
        have HDR : Hid ((planV b).drop k = (planV b)[k] :: (planV b).drop (k + 1)) := List.drop_eq_getElem_cons hlk
        have HFB := Lib.hid (HFP.out _ (List.getElem_mem hlk))
        generalize (planV b)[k] = y at *
        have hne : g ≠ w.heap.size := by have := HS1.out; omega
        have hrow : wr.rangeAt g (k * 19) [.int .u8 5, .string ⟨#[]⟩, .int .i64 0, .int .i64 0, .int .i64 0, .slice none 0 0, .slice none 0 0, .string ⟨#[]⟩, .int .i64 0, .int .i64 0, .int .i64 0, .slice none 0 0, .slice none 0 0, .string ⟨#[]⟩, .string ⟨#[]⟩, .int .i64 0, .string y.k, .string y.v, .int .u64 (f : Nat)] := fun j u hj => HG.out.cell (ha j u hj) (fun e => hne (Option.some.inj e))
        have HKG := Lib.hid hkg
        have HZR : Hid (w.heap.size < wr.heap.size) := HX.out.lt
        clear ha hat hgl hbg hne hkg hlk
        go_upto_region 11 with fail
        refine wp_region_list ?_
        refine wpList_plain rfl fun K hK => ?_
        go_simp
        refine hK _ _ ?_
        clear hK K
        refine wpList_load_mid rfl 55 (.tmp 58) rfl (g) (k * 19) rfl [.int .u8 5, .string ⟨#[]⟩, .int .i64 0, .int .i64 0, .int .i64 0, .slice none 0 0, .slice none 0 0, .string ⟨#[]⟩, .int .i64 0, .int .i64 0, .int .i64 0, .slice none 0 0, .slice none 0 0, .string ⟨#[]⟩, .string ⟨#[]⟩, .int .i64 0, .string y.k, .string y.v, .int .u64 (f : Nat)] _ (hrow) Tryz.underlying55 rfl rfl ?_
        refine wpList_plain rfl fun K hK => ?_
        go_simp
        refine hK _ _ ?_
        clear hK K
        obtain ⟨th1, hbz, hx1⟩ := one_made wr [.int .u8 0, .string ⟨#[]⟩, .int .i64 0, .int .i64 0, .int .i64 0, .slice none 0 0, .slice none 0 0, .string ⟨#[]⟩, .int .i64 0, .int .i64 0, .int .i64 0, .slice none 0 0, .slice none 0 0, .string ⟨#[]⟩, .string ⟨#[]⟩, .int .i64 0, .string ⟨#[]⟩, .string ⟨#[]⟩, .int .u64 0] [.int .u8 5, .string ⟨#[]⟩, .int .i64 0, .int .i64 0, .int .i64 0, .slice none 0 0, .slice none 0 0, .string ⟨#[]⟩, .int .i64 0, .int .i64 0, .int .i64 0, .slice none 0 0, .slice none 0 0, .string ⟨#[]⟩, .string ⟨#[]⟩, .int .i64 0, .string y.k, .string y.v, .int .u64 (f : Nat)] 55 rfl
        refine wpList_store_mid rfl 55 (.tmp 10) (.tmp 59) rfl (wr.heap.size) 0 #[.int .u8 5, .string ⟨#[]⟩, .int .i64 0, .int .i64 0, .int .i64 0, .slice none 0 0, .slice none 0 0, .string ⟨#[]⟩, .int .i64 0, .int .i64 0, .int .i64 0, .slice none 0 0, .slice none 0 0, .string ⟨#[]⟩, .string ⟨#[]⟩, .int .i64 0, .string y.k, .string y.v, .int .u64 (f : Nat)] rfl rfl th1 rfl (all_oneCell_toArray (List.all_eq_true.1 (show List.all ([.int .u8 5, .string ⟨#[]⟩, .int .i64 0, .int .i64 0, .int .i64 0, .slice none 0 0, .slice none 0 0, .string ⟨#[]⟩, .int .i64 0, .int .i64 0, .int .i64 0, .slice none 0 0, .slice none 0 0, .string ⟨#[]⟩, .string ⟨#[]⟩, .int .i64 0, .string y.k, .string y.v, .int .u64 (f : Nat)] : List Value) (fun v => v.oneCell') = true from rfl))) ?_
        rw [show (#[.int .u8 5, .string ⟨#[]⟩, .int .i64 0, .int .i64 0, .int .i64 0, .slice none 0 0, .slice none 0 0, .string ⟨#[]⟩, .int .i64 0, .int .i64 0, .int .i64 0, .slice none 0 0, .slice none 0 0, .string ⟨#[]⟩, .string ⟨#[]⟩, .int .i64 0, .string y.k, .string y.v, .int .u64 (f : Nat)] : Array Value).toList = [.int .u8 5, .string ⟨#[]⟩, .int .i64 0, .int .i64 0, .int .i64 0, .slice none 0 0, .slice none 0 0, .string ⟨#[]⟩, .int .i64 0, .int .i64 0, .int .i64 0, .slice none 0 0, .slice none 0 0, .string ⟨#[]⟩, .string ⟨#[]⟩, .int .i64 0, .string y.k, .string y.v, .int .u64 (f : Nat)] from rfl]
        clear th1 hrow
        generalize (wr.alloc (.cells #[.int .u8 0, .string ⟨#[]⟩, .int .i64 0, .int .i64 0, .int .i64 0, .slice none 0 0, .slice none 0 0, .string ⟨#[]⟩, .int .i64 0, .int .i64 0, .int .i64 0, .slice none 0 0, .slice none 0 0, .string ⟨#[]⟩, .string ⟨#[]⟩, .int .i64 0, .string ⟨#[]⟩, .string ⟨#[]⟩, .int .u64 0] 55)).setCells wr.heap.size 0 [.int .u8 5, .string ⟨#[]⟩, .int .i64 0, .int .i64 0, .int .i64 0, .slice none 0 0, .slice none 0 0, .string ⟨#[]⟩, .int .i64 0, .int .i64 0, .int .i64 0, .slice none 0 0, .slice none 0 0, .string ⟨#[]⟩, .string ⟨#[]⟩, .int .i64 0, .string y.k, .string y.v, .int .u64 (f : Nat)] = z0 at *
        have HX0 := Lib.hid (HX.out.below hbz)
        have HQ := Lib.hid hx1
        have HG0 : Hid (w3.grownBy z0 (some w.heap.size)) := grown_tr HG.out (grown_of _ hbz)
        have HK0 := Lib.hid (HK.out.keep hbz)
        have HB0' : Hid (Below w.heap.size w z0) := HB.out.trans (hbz.mono HB.out.size)
        clear hbz hx1 HX HG HK HB
        refine wpList_nil ?_
        have q18 : z0.cell? ⟨wr.heap.size, 18, none⟩ = some (.int .u64 (f : Nat)) := HQ.out.cell 18
        go_upto_region 14 with fail
        clear q18
        by_cases hf : b.fe ≤ f
        · obtain ⟨h0, h1, h2, h3⟩ : canE c y.k y.v = 0 ∧ chkB (biB c y.k y.v c.fe).1 = true ∧ (biB c y.k y.v c.fe).1.fe = c.fe ∧ Runs (biB c y.k y.v c.fe).1 ((planV b).drop (k + 1)) := by have h := HI.out.1 hf; rw [HDR.out] at h; exact h
          have hd : doF c (oBnd y.k y.v f) = ((biB c y.k y.v c.fe).1, 0, ByteArray.empty) := by rw [do_bnd HI.out.2.1, bi_above (by rw [HI.out.2.2]; exact hf) h0]
          have HIN : Hid ((b.fe ≤ f → Runs (biB c y.k y.v c.fe).1 ((planV b).drop (k + 1))) ∧ chkB (biB c y.k y.v c.fe).1 = true ∧ (biB c y.k y.v c.fe).1.fe = b.fe) := ⟨fun _ => h3, h1, h2.trans HI.out.2.2⟩
          have HFF : Hid (c.fe ≤ f) := by show _ ≤ _; rw [HI.out.2.2]; exact hf
          generalize (biB c y.k y.v c.fe).1 = c2 at *
          clear h0 h1 h2 h3 hf
          have HDO : Hid (∀ z, Books z z.heap.size (.slice a1 c.ns.length d1) (.slice a2 c.ts.length d2) (.slice a3 c.bs.length d3) c → Calls Tryz.prog 21 #[.agg #[.slice a1 c.ns.length d1, .slice a2 c.ts.length d2, .slice a3 c.bs.length d3, .int .u64 (c.fe : Nat)], .agg #[.int .u8 5, .string ⟨#[]⟩, .int .i64 0, .int .i64 0, .int .i64 0, .slice none 0 0, .slice none 0 0, .string ⟨#[]⟩, .int .i64 0, .int .i64 0, .int .i64 0, .slice none 0 0, .slice none 0 0, .string ⟨#[]⟩, .string ⟨#[]⟩, .int .i64 0, .string y.k, .string y.v, .int .u64 (f : Nat)]] z fun e w' => ∃ vn' vt' vb', e = .returned (.tuple #[.agg #[vn', vt', vb', .int .u64 (c2.fe : Nat)], .agg #[.int .i64 0, .string ⟨#[]⟩]]) ∧ Kept z w' c2 vn' vt' vb' ∧ Below z.heap.size z w') := fun z hz => do_use c c2 0 ByteArray.empty _ _ _ (oBnd y.k y.v f) none none none none 0 0 0 0 z hz (deepN0 z _ rfl rfl) fitN0 (deepT0 z _ rfl rfl) fitT0 HFB.out hd
          clear hd
          refine wp_region_list ?_
          refine wpList_load_mid rfl 27 (.tmp 2) rfl (w.heap.size) (0) rfl [.slice a1 c.ns.length d1, .slice a2 c.ts.length d2, .slice a3 c.bs.length d3, .int .u64 (c.fe : Nat)] _ (HX0.out.range 0) Tryz.underlying27 rfl rfl ?_
          refine wpList_load_mid rfl 55 (.tmp 10) rfl (wr.heap.size) (0) rfl [.int .u8 5, .string ⟨#[]⟩, .int .i64 0, .int .i64 0, .int .i64 0, .slice none 0 0, .slice none 0 0, .string ⟨#[]⟩, .int .i64 0, .int .i64 0, .int .i64 0, .slice none 0 0, .slice none 0 0, .string ⟨#[]⟩, .string ⟨#[]⟩, .int .i64 0, .string y.k, .string y.v, .int .u64 (f : Nat)] _ (HQ.out.range 0) Tryz.underlying55 rfl rfl ?_
          refine wpList_plain rfl fun K hK => ?_
          go_wp2_with fail
          refine (HDO.out z0 (HK0.out.books HB0'.out)).mono ?_
          rintro e z1 ⟨v1, v2, v3, rfl, hkp, hb⟩
          obtain ⟨⟨a4, c4, rfl⟩, ⟨b4, d4, rfl⟩, ⟨e4, f4, rfl⟩⟩ := hkp.slices
          refine hK _ _ ?_
          clear hK K
          have HX1' := Lib.hid (HX0.out.below hb)
          have HG1 : Hid (w3.grownBy z1 (some w.heap.size)) := grown_tr HG0.out (grown_of _ hb)
          have HB1' : Hid (Below w.heap.size w z1) := HB0'.out.trans (hb.mono HB0'.out.size)
          have HK1 := Lib.hid hkp
          have HZ0 : Hid (w.heap.size < z0.heap.size) := HX0.out.lt
          clear hb hkp HX0 HG0 HK0 HB0' HQ HDO
          refine wpList_plain rfl fun K hK => ?_
          go_simp
          refine hK _ _ ?_
          clear hK K
          refine wpList_plain rfl fun K hK => ?_
          go_simp
          refine hK _ _ ?_
          clear hK K
          refine wpList_plain rfl fun K hK => ?_
          go_simp
          refine hK _ _ ?_
          clear hK K
          refine wpList_plain rfl fun K hK => ?_
          go_simp
          refine hK _ _ ?_
          clear hK K
          refine wpList_plain rfl fun K hK => ?_
          go_simp
          refine hK _ _ ?_
          clear hK K
          obtain ⟨th1, th2, hbz, hx1, hx2⟩ := two_made z1 [.slice none 0 0, .slice none 0 0, .slice none 0 0, .int .u64 0] [.int .i64 0, .string ⟨#[]⟩] [.slice a4 (c2).ns.length c4, .slice b4 (c2).ts.length d4, .slice e4 (c2).bs.length f4, .int .u64 ((c2).fe : Nat)] [.int .i64 0, .string ⟨#[]⟩] 27 50 rfl rfl
          refine wpList_store_mid rfl 27 (.tmp 11) (.tmp 68) rfl (z1.heap.size) 0 #[.slice a4 (c2).ns.length c4, .slice b4 (c2).ts.length d4, .slice e4 (c2).bs.length f4, .int .u64 ((c2).fe : Nat)] rfl rfl th1 rfl (all_oneCell_toArray (List.all_eq_true.1 (show List.all ([.slice a4 (c2).ns.length c4, .slice b4 (c2).ts.length d4, .slice e4 (c2).bs.length f4, .int .u64 ((c2).fe : Nat)] : List Value) (fun v => v.oneCell') = true from rfl))) ?_
          rw [show (#[.slice a4 (c2).ns.length c4, .slice b4 (c2).ts.length d4, .slice e4 (c2).bs.length f4, .int .u64 ((c2).fe : Nat)] : Array Value).toList = [.slice a4 (c2).ns.length c4, .slice b4 (c2).ts.length d4, .slice e4 (c2).bs.length f4, .int .u64 ((c2).fe : Nat)] from rfl]
          refine wpList_store_mid rfl 50 (.tmp 12) (.tmp 69) rfl (z1.heap.size + 1) 0 #[.int .i64 0, .string ⟨#[]⟩] rfl rfl th2 rfl (all_oneCell_toArray (List.all_eq_true.1 (show List.all ([.int .i64 0, .string ⟨#[]⟩] : List Value) (fun v => v.oneCell') = true from rfl))) ?_
          rw [show (#[.int .i64 0, .string ⟨#[]⟩] : Array Value).toList = [.int .i64 0, .string ⟨#[]⟩] from rfl]
          clear th1 th2
          generalize (((z1.alloc (.cells #[.slice none 0 0, .slice none 0 0, .slice none 0 0, .int .u64 0] 27)).alloc (.cells #[.int .i64 0, .string ⟨#[]⟩] 50)).setCells z1.heap.size 0 [.slice a4 (c2).ns.length c4, .slice b4 (c2).ts.length d4, .slice e4 (c2).bs.length f4, .int .u64 ((c2).fe : Nat)]).setCells (z1.heap.size + 1) 0 [.int .i64 0, .string ⟨#[]⟩] = z2 at *
          refine wpList_nil ?_
          have HX2' := Lib.hid (HX1'.out.below hbz)
          have HG2 : Hid (w3.grownBy z2 (some w.heap.size)) := grown_tr HG1.out (grown_of _ hbz)
          have HB2' : Hid (Below w.heap.size w z2) := HB1'.out.trans (hbz.mono HB1'.out.size)
          have HK2 := Lib.hid (HK1.out.keep hbz)
          have HP2 := Lib.hid hx1
          clear hbz HX1' HG1 HB1' HK1
          have u3 : z2.cell? ⟨w.heap.size, 3, none⟩ = some (.int .u64 (c.fe : Nat)) := HX2'.out.cell 3
          have u0 : z2.cell? ⟨z1.heap.size + 1, 0, none⟩ = some (.int .i64 0) := hx2.cell 0
          clear hx1 hx2
          have v1 : (c.fe : Int) ≤ (f : Int) := by have := HFF.out; omega
          have v2 : decide ((c.fe : Int) ≤ (f : Int)) = true := decide_eq_true v1
          have v3 : ¬ (f : Int) < (c.fe : Int) := by omega
          have v4 : decide ((f : Int) < (c.fe : Int)) = false := decide_eq_false v3
          have v5 : c.fe ≤ f := HFF.out
          have v6 : ¬ f < c.fe := by omega
          go_upto_region 17 with fail
          clear u3 u0
          refine wp_region_list ?_
          have hth := HX2'.out.there 4 rfl
          refine wpList_load_mid rfl 27 (.tmp 11) rfl (z1.heap.size) (0) rfl [.slice a4 (c2).ns.length c4, .slice b4 (c2).ts.length d4, .slice e4 (c2).bs.length f4, .int .u64 ((c2).fe : Nat)] _ (HP2.out.range 0) Tryz.underlying27 rfl rfl ?_
          refine wpList_store_mid rfl 27 (.tmp 2) (.tmp 90) rfl (w.heap.size) 0 #[.slice a4 (c2).ns.length c4, .slice b4 (c2).ts.length d4, .slice e4 (c2).bs.length f4, .int .u64 ((c2).fe : Nat)] rfl rfl hth rfl (all_oneCell_toArray (List.all_eq_true.1 (show List.all ([.slice a4 (c2).ns.length c4, .slice b4 (c2).ts.length d4, .slice e4 (c2).bs.length f4, .int .u64 ((c2).fe : Nat)] : List Value) (fun v => v.oneCell') = true from rfl))) ?_
          rw [show (#[.slice a4 (c2).ns.length c4, .slice b4 (c2).ts.length d4, .slice e4 (c2).bs.length f4, .int .u64 ((c2).fe : Nat)] : Array Value).toList = [.slice a4 (c2).ns.length c4, .slice b4 (c2).ts.length d4, .slice e4 (c2).bs.length f4, .int .u64 ((c2).fe : Nat)] from rfl]
          clear hth
          have HX9 := Lib.hid (HX2'.out.all [.slice a4 (c2).ns.length c4, .slice b4 (c2).ts.length d4, .slice e4 (c2).bs.length f4, .int .u64 ((c2).fe : Nat)] rfl)
          have HG9 : Hid (w3.grownBy (z2.setCells w.heap.size 0 [.slice a4 (c2).ns.length c4, .slice b4 (c2).ts.length d4, .slice e4 (c2).bs.length f4, .int .u64 ((c2).fe : Nat)]) (some w.heap.size)) := grown_tr HG2.out (grown_setCells _ _ _ _)
          have HK9 : Hid (BkIn w (z2.setCells w.heap.size 0 [.slice a4 (c2).ns.length c4, .slice b4 (c2).ts.length d4, .slice e4 (c2).bs.length f4, .int .u64 ((c2).fe : Nat)]) c2 (.slice a4 c2.ns.length c4) (.slice b4 c2.ts.length d4) (.slice e4 c2.bs.length f4)) := .inr ⟨z0, HZ0.out, HK2.out.far HZ0.out 0 _⟩
          have HB9 : Hid (Below w.heap.size w (z2.setCells w.heap.size 0 [.slice a4 (c2).ns.length c4, .slice b4 (c2).ts.length d4, .slice e4 (c2).bs.length f4, .int .u64 ((c2).fe : Nat)])) := below_setCells HB2'.out (Nat.le_refl _) _ _
          refine wpList_nil ?_
          go_wp2
          go_roundg gg
          case measure => omega
          case rel => exact ⟨k + 1, c2, a4, b4, e4, c4, d4, f4, by have := HKG.out; omega, by simp, HIN.out, HX9.out, HG9.out, HK9.out, HB9.out⟩
        · have hlt : f < c.fe := by rw [HI.out.2.2]; omega
          have hd : doF c (oBnd y.k y.v f) = (c, 14, ByteArray.empty) := by rw [do_bnd HI.out.2.1, bi_below hlt]
          have HIN : Hid ((b.fe ≤ f → Runs c ((planV b).drop (k + 1))) ∧ chkB c = true ∧ c.fe = b.fe) := ⟨fun h => absurd h hf, HI.out.2⟩
          have HFF : Hid (f < c.fe) := hlt
          clear hf hlt
          have HDO : Hid (∀ z, Books z z.heap.size (.slice a1 c.ns.length d1) (.slice a2 c.ts.length d2) (.slice a3 c.bs.length d3) c → Calls Tryz.prog 21 #[.agg #[.slice a1 c.ns.length d1, .slice a2 c.ts.length d2, .slice a3 c.bs.length d3, .int .u64 (c.fe : Nat)], .agg #[.int .u8 5, .string ⟨#[]⟩, .int .i64 0, .int .i64 0, .int .i64 0, .slice none 0 0, .slice none 0 0, .string ⟨#[]⟩, .int .i64 0, .int .i64 0, .int .i64 0, .slice none 0 0, .slice none 0 0, .string ⟨#[]⟩, .string ⟨#[]⟩, .int .i64 0, .string y.k, .string y.v, .int .u64 (f : Nat)]] z fun e w' => ∃ vn' vt' vb', e = .returned (.tuple #[.agg #[vn', vt', vb', .int .u64 (c.fe : Nat)], .agg #[.int .i64 14, .string ⟨#[]⟩]]) ∧ Kept z w' c vn' vt' vb' ∧ Below z.heap.size z w') := fun z hz => do_use c c 14 ByteArray.empty _ _ _ (oBnd y.k y.v f) none none none none 0 0 0 0 z hz (deepN0 z _ rfl rfl) fitN0 (deepT0 z _ rfl rfl) fitT0 HFB.out hd
          clear hd
          refine wp_region_list ?_
          refine wpList_load_mid rfl 27 (.tmp 2) rfl (w.heap.size) (0) rfl [.slice a1 c.ns.length d1, .slice a2 c.ts.length d2, .slice a3 c.bs.length d3, .int .u64 (c.fe : Nat)] _ (HX0.out.range 0) Tryz.underlying27 rfl rfl ?_
          refine wpList_load_mid rfl 55 (.tmp 10) rfl (wr.heap.size) (0) rfl [.int .u8 5, .string ⟨#[]⟩, .int .i64 0, .int .i64 0, .int .i64 0, .slice none 0 0, .slice none 0 0, .string ⟨#[]⟩, .int .i64 0, .int .i64 0, .int .i64 0, .slice none 0 0, .slice none 0 0, .string ⟨#[]⟩, .string ⟨#[]⟩, .int .i64 0, .string y.k, .string y.v, .int .u64 (f : Nat)] _ (HQ.out.range 0) Tryz.underlying55 rfl rfl ?_
          refine wpList_plain rfl fun K hK => ?_
          go_wp2_with fail
          refine (HDO.out z0 (HK0.out.books HB0'.out)).mono ?_
          rintro e z1 ⟨v1, v2, v3, rfl, hkp, hb⟩
          obtain ⟨⟨a4, c4, rfl⟩, ⟨b4, d4, rfl⟩, ⟨e4, f4, rfl⟩⟩ := hkp.slices
          refine hK _ _ ?_
          clear hK K
          have HX1' := Lib.hid (HX0.out.below hb)
          have HG1 : Hid (w3.grownBy z1 (some w.heap.size)) := grown_tr HG0.out (grown_of _ hb)
          have HB1' : Hid (Below w.heap.size w z1) := HB0'.out.trans (hb.mono HB0'.out.size)
          have HK1 := Lib.hid hkp
          have HZ0 : Hid (w.heap.size < z0.heap.size) := HX0.out.lt
          clear hb hkp HX0 HG0 HK0 HB0' HQ HDO
          refine wpList_plain rfl fun K hK => ?_
          go_simp
          refine hK _ _ ?_
          clear hK K
          refine wpList_plain rfl fun K hK => ?_
          go_simp
          refine hK _ _ ?_
          clear hK K
          refine wpList_plain rfl fun K hK => ?_
          go_simp
          refine hK _ _ ?_
          clear hK K
          refine wpList_plain rfl fun K hK => ?_
          go_simp
          refine hK _ _ ?_
          clear hK K
          refine wpList_plain rfl fun K hK => ?_
          go_simp
          refine hK _ _ ?_
          clear hK K
          obtain ⟨th1, th2, hbz, hx1, hx2⟩ := two_made z1 [.slice none 0 0, .slice none 0 0, .slice none 0 0, .int .u64 0] [.int .i64 0, .string ⟨#[]⟩] [.slice a4 (c).ns.length c4, .slice b4 (c).ts.length d4, .slice e4 (c).bs.length f4, .int .u64 ((c).fe : Nat)] [.int .i64 14, .string ⟨#[]⟩] 27 50 rfl rfl
          refine wpList_store_mid rfl 27 (.tmp 11) (.tmp 68) rfl (z1.heap.size) 0 #[.slice a4 (c).ns.length c4, .slice b4 (c).ts.length d4, .slice e4 (c).bs.length f4, .int .u64 ((c).fe : Nat)] rfl rfl th1 rfl (all_oneCell_toArray (List.all_eq_true.1 (show List.all ([.slice a4 (c).ns.length c4, .slice b4 (c).ts.length d4, .slice e4 (c).bs.length f4, .int .u64 ((c).fe : Nat)] : List Value) (fun v => v.oneCell') = true from rfl))) ?_
          rw [show (#[.slice a4 (c).ns.length c4, .slice b4 (c).ts.length d4, .slice e4 (c).bs.length f4, .int .u64 ((c).fe : Nat)] : Array Value).toList = [.slice a4 (c).ns.length c4, .slice b4 (c).ts.length d4, .slice e4 (c).bs.length f4, .int .u64 ((c).fe : Nat)] from rfl]
          refine wpList_store_mid rfl 50 (.tmp 12) (.tmp 69) rfl (z1.heap.size + 1) 0 #[.int .i64 14, .string ⟨#[]⟩] rfl rfl th2 rfl (all_oneCell_toArray (List.all_eq_true.1 (show List.all ([.int .i64 14, .string ⟨#[]⟩] : List Value) (fun v => v.oneCell') = true from rfl))) ?_
          rw [show (#[.int .i64 14, .string ⟨#[]⟩] : Array Value).toList = [.int .i64 14, .string ⟨#[]⟩] from rfl]
          clear th1 th2
          generalize (((z1.alloc (.cells #[.slice none 0 0, .slice none 0 0, .slice none 0 0, .int .u64 0] 27)).alloc (.cells #[.int .i64 0, .string ⟨#[]⟩] 50)).setCells z1.heap.size 0 [.slice a4 (c).ns.length c4, .slice b4 (c).ts.length d4, .slice e4 (c).bs.length f4, .int .u64 ((c).fe : Nat)]).setCells (z1.heap.size + 1) 0 [.int .i64 14, .string ⟨#[]⟩] = z2 at *
          refine wpList_nil ?_
          have HX2' := Lib.hid (HX1'.out.below hbz)
          have HG2 : Hid (w3.grownBy z2 (some w.heap.size)) := grown_tr HG1.out (grown_of _ hbz)
          have HB2' : Hid (Below w.heap.size w z2) := HB1'.out.trans (hbz.mono HB1'.out.size)
          have HK2 := Lib.hid (HK1.out.keep hbz)
          have HP2 := Lib.hid hx1
          clear hbz HX1' HG1 HB1' HK1
          have u3 : z2.cell? ⟨w.heap.size, 3, none⟩ = some (.int .u64 (c.fe : Nat)) := HX2'.out.cell 3
          have u0 : z2.cell? ⟨z1.heap.size + 1, 0, none⟩ = some (.int .i64 14) := hx2.cell 0
          clear hx1 hx2
          have v1 : ¬ (c.fe : Int) ≤ (f : Int) := by have := HFF.out; omega
          have v2 : decide ((c.fe : Int) ≤ (f : Int)) = false := decide_eq_false v1
          have v3 : (f : Int) < (c.fe : Int) := by omega
          have v4 : decide ((f : Int) < (c.fe : Int)) = true := decide_eq_true v3
          have v5 : ¬ c.fe ≤ f := by omega
          have v6 : f < c.fe := HFF.out
          go_upto_region 17 with fail
          clear u3 u0
          refine wp_region_list ?_
          have hth := HX2'.out.there 4 rfl
          refine wpList_load_mid rfl 27 (.tmp 11) rfl (z1.heap.size) (0) rfl [.slice a4 (c).ns.length c4, .slice b4 (c).ts.length d4, .slice e4 (c).bs.length f4, .int .u64 ((c).fe : Nat)] _ (HP2.out.range 0) Tryz.underlying27 rfl rfl ?_
          refine wpList_store_mid rfl 27 (.tmp 2) (.tmp 90) rfl (w.heap.size) 0 #[.slice a4 (c).ns.length c4, .slice b4 (c).ts.length d4, .slice e4 (c).bs.length f4, .int .u64 ((c).fe : Nat)] rfl rfl hth rfl (all_oneCell_toArray (List.all_eq_true.1 (show List.all ([.slice a4 (c).ns.length c4, .slice b4 (c).ts.length d4, .slice e4 (c).bs.length f4, .int .u64 ((c).fe : Nat)] : List Value) (fun v => v.oneCell') = true from rfl))) ?_
          rw [show (#[.slice a4 (c).ns.length c4, .slice b4 (c).ts.length d4, .slice e4 (c).bs.length f4, .int .u64 ((c).fe : Nat)] : Array Value).toList = [.slice a4 (c).ns.length c4, .slice b4 (c).ts.length d4, .slice e4 (c).bs.length f4, .int .u64 ((c).fe : Nat)] from rfl]
          clear hth
          have HX9 := Lib.hid (HX2'.out.all [.slice a4 (c).ns.length c4, .slice b4 (c).ts.length d4, .slice e4 (c).bs.length f4, .int .u64 ((c).fe : Nat)] rfl)
          have HG9 : Hid (w3.grownBy (z2.setCells w.heap.size 0 [.slice a4 (c).ns.length c4, .slice b4 (c).ts.length d4, .slice e4 (c).bs.length f4, .int .u64 ((c).fe : Nat)]) (some w.heap.size)) := grown_tr HG2.out (grown_setCells _ _ _ _)
          have HK9 : Hid (BkIn w (z2.setCells w.heap.size 0 [.slice a4 (c).ns.length c4, .slice b4 (c).ts.length d4, .slice e4 (c).bs.length f4, .int .u64 ((c).fe : Nat)]) c (.slice a4 c.ns.length c4) (.slice b4 c.ts.length d4) (.slice e4 c.bs.length f4)) := .inr ⟨z0, HZ0.out, HK2.out.far HZ0.out 0 _⟩
          have HB9 : Hid (Below w.heap.size w (z2.setCells w.heap.size 0 [.slice a4 (c).ns.length c4, .slice b4 (c).ts.length d4, .slice e4 (c).bs.length f4, .int .u64 ((c).fe : Nat)])) := below_setCells HB2'.out (Nat.le_refl _) _ _
          refine wpList_nil ?_
          go_wp2
          go_roundg gg
          case measure => omega
          case rel => exact ⟨k + 1, c, a4, b4, e4, c4, d4, f4, by have := HKG.out; omega, by simp, HIN.out, HX9.out, HG9.out, HK9.out, HB9.out⟩
theorem sall_law (b : Bk) (i : Int) (vb0 : Value) (w : World) (hb : BookArg w vb0 b) (hi : (Lit.int .u64 i).wf = true) : Calls Tryz.prog 6 #[vb0, .int .u64 i] w fun e w' => e = .returned (.bool true) ∧ Below w.heap.size w w' := by
  have h1 := bounds_u64 hi
  obtain ⟨f, rfl⟩ : ∃ f : Nat, i = (f : Nat) := ⟨i.toNat, by omega⟩
  cases hc : chkB b
  · exact sall_no b f vb0 w hb hc
  · by_cases hz : (planV b).length = 0
    · exact sall_zero b f vb0 w hb hc hz
    · exact sall_ok b f vb0 w hb hc hz
end Bo
end Go.Proofs.YthbmnkeigmbbdaaGreat
