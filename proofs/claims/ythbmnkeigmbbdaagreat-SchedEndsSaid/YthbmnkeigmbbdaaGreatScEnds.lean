/-
  gafferlaw12.SchedEnds.
-/
import Derived.Test.YthbmnkeigmbbdaaGreatScEndP
import Derived.Test.YthbmnkeigmbbdaaGreatBgA
namespace Go.Proofs.YthbmnkeigmbbdaaGreat
open Go.RowKit Go.Lib
namespace Bo
open Rw
set_option linter.unusedVariables false
set_option maxRecDepth 100000 in
set_option maxHeartbeats 4000000 in
theorem sends_no (b : Bk) (vb0 : Value) (w : World) (hb : BookArg w vb0 b) (hc : chkB b = false) : Calls Tryz.prog 7 #[vb0] w fun e w' => e = .returned (.bool true) ∧ Below w.heap.size w w' := by
  obtain ⟨vn, vt, vb, rfl, hB⟩ := hb
  obtain ⟨⟨a0, c0, rfl⟩, ⟨b0, d0, rfl⟩, ⟨e0, f0, rfl⟩⟩ := And.intro hB.hn.slice (And.intro hB.ht.slice hB.hb.slice)
  obtain ⟨W0, hW0⟩ : ∃ W0, W0 = w.alloc (.cells #[.slice a0 (b).ns.length c0, .slice b0 (b).ts.length d0, .slice e0 (b).bs.length f0, .int .u64 ((b).fe : Nat)] 27) := ⟨_, rfl⟩
  have hb0 : Below w.heap.size w W0 := by rw [hW0]; exact al w _
  have hx0 : Hd.Bxn W0 w.heap.size [.slice a0 (b).ns.length c0, .slice b0 (b).ts.length d0, .slice e0 (b).bs.length f0, .int .u64 ((b).fe : Nat)] := by rw [hW0]; exact Hd.Bxn.made w _ _
  have HL : Hid (Calls Tryz.prog 26 #[] W0 fun e w' => e = .returned (.bool true) ∧ Below W0.heap.size W0 w') := livesS_any W0
  have HBK : Hid (∀ z, Below w.heap.size w z → Books z z.heap.size (.slice a0 (b).ns.length c0) (.slice b0 (b).ts.length d0) (.slice e0 (b).bs.length f0) (b)) := fun z hz => hB.on hz
  have HW := Lib.hid hW0
  have HX0 := Lib.hid hx0
  have HB0 := Lib.hid hb0
  clear hW0 hb0 hx0 hB
  have HPL : Hid (∀ z, Below w.heap.size w z → Calls Tryz.prog 22 #[.agg #[.slice a0 (b).ns.length c0, .slice b0 (b).ts.length d0, .slice e0 (b).bs.length f0, .int .u64 ((b).fe : Nat)], .int .u64 (b.fe : Nat)] z fun e w' => ∃ (a : Option Addr) (c : Nat), e = .returned (.tuple #[.slice a 0 c, .int .i64 10]) ∧ Below z.heap.size z w') := fun z hz => by
    refine (plan_any b _ _ _ _ z (HBK.out z hz)).mono ?_
    rintro e w' ⟨v, he, ho, hb⟩
    obtain ⟨a, c, rfl⟩ := ho.slice
    have hl : (planV b).length = 0 := by unfold planV; rw [hc, if_neg (by decide)]; rfl
    rw [List.length_map, hl] at he
    rw [hc] at he
    exact ⟨a, c, he, hb⟩
  clear hc
  go_enter Tryz.func7, Tryz.ntmps7
  go_upto_region 1 with fail
  rw [← HW.out]
  go_wp2_with fail
  refine HL.out.mono ?_
  rintro e w1 ⟨rfl, hb⟩
  have HX1 := Lib.hid (HX0.out.below hb)
  have HB1 : Hid (Below w.heap.size w w1) := HB0.out.trans (hb.mono HB0.out.size)
  clear hb HX0 HB0 HL HW
  have y2 : w1.cell? ⟨w.heap.size, 2, none⟩ = some (.slice e0 (b).bs.length f0) := HX1.out.cell 2
  go_wp2
  clear y2
  go_loopg [4] 1 (fun gg i wx => gg = 1 ∧ i = .int .i64 0 ∧ Aside (Hd.Bxn wx w.heap.size [.slice a0 (b).ns.length c0, .slice b0 (b).ts.length d0, .slice e0 (b).bs.length f0, .int .u64 ((b).fe : Nat)]) ∧ Aside (Below w.heap.size w wx))
  case atStart => exact ⟨rfl, rfl, HX1.out, HB1.out⟩
  case round =>
    obtain ⟨hg, rfl, HA1, HA2⟩ := hrel
    have HX := Lib.hid HA1.out
    have HB := Lib.hid HA2.out
    clear HA1 HA2 hg
    have y0 : wr.cell? ⟨w.heap.size, 0, none⟩ = some (.slice a0 (b).ns.length c0) := HX.out.cell 0
    have y1 : wr.cell? ⟨w.heap.size, 1, none⟩ = some (.slice b0 (b).ts.length d0) := HX.out.cell 1
    have y2 : wr.cell? ⟨w.heap.size, 2, none⟩ = some (.slice e0 (b).bs.length f0) := HX.out.cell 2
    have y3 : wr.cell? ⟨w.heap.size, 3, none⟩ = some (.int .u64 ((b).fe : Nat)) := HX.out.cell 3
    go_wp2_with fail
    refine (HPL.out wr HB.out).mono ?_
    rintro e w2 ⟨ap, cp, rfl, hb⟩
    have HX2 := Lib.hid (HX.out.below hb)
    have HB2 : Hid (Below w.heap.size w w2) := HB.out.trans (hb.mono HB.out.size)
    clear hb y0 y1 y2 y3
    clear HX1 HX HX2 HPL HB1 HB HBK
    go_wp2
    go_ret
    exact ⟨rfl, HB2.out⟩
set_option maxRecDepth 100000 in
set_option maxHeartbeats 4000000 in
theorem sends_ok (b : Bk) (vb0 : Value) (w : World) (hb : BookArg w vb0 b) (hc : chkB b = true) : Calls Tryz.prog 7 #[vb0] w fun e w' => e = .returned (.bool true) ∧ Below w.heap.size w w' := by
  obtain ⟨vn, vt, vb, rfl, hB⟩ := hb
  obtain ⟨⟨a0, c0, rfl⟩, ⟨b0, d0, rfl⟩, ⟨e0, f0, rfl⟩⟩ := And.intro hB.hn.slice (And.intro hB.ht.slice hB.hb.slice)
  obtain ⟨W0, hW0⟩ : ∃ W0, W0 = w.alloc (.cells #[.slice a0 (b).ns.length c0, .slice b0 (b).ts.length d0, .slice e0 (b).bs.length f0, .int .u64 ((b).fe : Nat)] 27) := ⟨_, rfl⟩
  have hb0 : Below w.heap.size w W0 := by rw [hW0]; exact al w _
  have hx0 : Hd.Bxn W0 w.heap.size [.slice a0 (b).ns.length c0, .slice b0 (b).ts.length d0, .slice e0 (b).bs.length f0, .int .u64 ((b).fe : Nat)] := by rw [hW0]; exact Hd.Bxn.made w _ _
  have HL : Hid (Calls Tryz.prog 26 #[] W0 fun e w' => e = .returned (.bool true) ∧ Below W0.heap.size W0 w') := livesS_any W0
  have HBK : Hid (∀ z, Below w.heap.size w z → Books z z.heap.size (.slice a0 (b).ns.length c0) (.slice b0 (b).ts.length d0) (.slice e0 (b).bs.length f0) (b)) := fun z hz => hB.on hz
  have HW := Lib.hid hW0
  have HX0 := Lib.hid hx0
  have HB0 := Lib.hid hb0
  clear hW0 hb0 hx0 hB
  have HC0 : Hid (chkB b = true) := hc
  clear hc
  go_enter Tryz.func7, Tryz.ntmps7
  go_upto_region 1 with fail
  rw [← HW.out]
  go_wp2_with fail
  refine HL.out.mono ?_
  rintro e w1 ⟨rfl, hb⟩
  have HX1 := Lib.hid (HX0.out.below hb)
  have HB1 : Hid (Below w.heap.size w w1) := HB0.out.trans (hb.mono HB0.out.size)
  clear hb HX0 HB0 HL HW
  have y2 : w1.cell? ⟨w.heap.size, 2, none⟩ = some (.slice e0 (b).bs.length f0) := HX1.out.cell 2
  go_wp2
  clear y2
  go_loopg [4] 33 (fun gg i wx => ∃ (k : Nat) (c : Bk) (a1 g1 p1 : Option Addr) (d1 h1 q1 : Nat), k + gg = 33 ∧ i = .int .i64 k ∧ Aside (chkB c = true ∧ b.bs.length + k ≤ c.bs.length) ∧ Aside (Hd.Bxn wx w.heap.size [.slice a1 c.ns.length d1, .slice g1 c.ts.length h1, .slice p1 c.bs.length q1, .int .u64 (c.fe : Nat)]) ∧ Aside (BkIn w wx c (.slice a1 c.ns.length d1) (.slice g1 c.ts.length h1) (.slice p1 c.bs.length q1)) ∧ Aside (Below w.heap.size w wx))
  case atStart => exact ⟨0, b, a0, b0, e0, c0, d0, f0, by omega, rfl, ⟨HC0.out, Nat.le_refl _⟩, HX1.out, .inl HBK.out, HB1.out⟩
  case round =>
    obtain ⟨k, c, a1, g1, p1, d1, h1, q1, hkg, rfl, HA1, HA2, HA3, HA4⟩ := hrel
    have HC : Hid (chkB c = true) := HA1.out.1
    have HC1 : Hid (b.bs.length + k ≤ c.bs.length) := HA1.out.2
    have HX := Lib.hid HA2.out
    have HK := Lib.hid HA3.out
    have HB := Lib.hid HA4.out
    have HC32 : Hid (c.bs.length ≤ 32) := (rb_of_chk HC.out).lists.lb
    clear HA1 HA2 HA3 HA4 HX1 HB1 HBK
    cases gk with
    | zero => exfalso; have h1 := HC1.out; have h2 := HC32.out; omega
    | succ gg =>
      have t0 : (k : Int) ≤ 32 := by omega
      have t0b : decide ((k : Int) ≤ 32) = true := decide_eq_true t0
      have t3 : IntKind.i64.wrap ((k : Int) + 1) = (k : Int) + 1 := by rw [IntKind.wrap_i64]; omega
      have HKG := Lib.hid hkg
      clear hkg
      by_cases hz : (planV c).length = 0
      · have HPL : Hid (∀ z, Books z z.heap.size (.slice a1 c.ns.length d1) (.slice g1 c.ts.length h1) (.slice p1 c.bs.length q1) c → Calls Tryz.prog 22 #[.agg #[.slice a1 c.ns.length d1, .slice g1 c.ts.length h1, .slice p1 c.bs.length q1, .int .u64 (c.fe : Nat)], .int .u64 (c.fe : Nat)] z fun e w' => ∃ (a : Option Addr) (cp : Nat), e = .returned (.tuple #[.slice a 0 cp, .int .i64 0]) ∧ Own w' z.heap.size 55 (.slice a 0 cp) ((planV c).map (stp c.fe)) ∧ Below z.heap.size z w') := fun z hz' => plan_at HC.out hz _ _ _ _ z hz'
        have HQU : Hid (∀ z, Books z z.heap.size (.slice a1 c.ns.length d1) (.slice g1 c.ts.length h1) (.slice p1 c.bs.length q1) c → Calls Tryz.prog 24 #[.agg #[.slice a1 c.ns.length d1, .slice g1 c.ts.length h1, .slice p1 c.bs.length q1, .int .u64 (c.fe : Nat)]] z fun e w' => e = .returned (.tuple #[.bool true, .int .i64 0]) ∧ Below z.heap.size z w') := fun z hz' => quiet_at HC.out hz _ _ _ z hz'
        have HCK : Hid (∀ z, Books z z.heap.size (.slice a1 c.ns.length d1) (.slice g1 c.ts.length h1) (.slice p1 c.bs.length q1) c → Calls Tryz.prog 28 #[.agg #[.slice a1 c.ns.length d1, .slice g1 c.ts.length h1, .slice p1 c.bs.length q1, .int .u64 (c.fe : Nat)]] z fun e w' => e = .returned (.int .i64 0) ∧ Below z.heap.size z w') := fun z hz' => check_at HC.out _ _ _ z hz'
        have t5 : (b.bs.length : Int) ≤ (c.bs.length : Int) := by have := HC1.out; omega
        have t5b : decide ((b.bs.length : Int) ≤ (c.bs.length : Int)) = true := decide_eq_true t5
        have t5c : b.bs.length ≤ c.bs.length := by have := HC1.out; omega
        clear hz
        have y0 : wr.cell? ⟨w.heap.size, 0, none⟩ = some (.slice a1 c.ns.length d1) := HX.out.cell 0
        have y1 : wr.cell? ⟨w.heap.size, 1, none⟩ = some (.slice g1 c.ts.length h1) := HX.out.cell 1
        have y2 : wr.cell? ⟨w.heap.size, 2, none⟩ = some (.slice p1 c.bs.length q1) := HX.out.cell 2
        have y3 : wr.cell? ⟨w.heap.size, 3, none⟩ = some (.int .u64 (c.fe : Nat)) := HX.out.cell 3
        go_wp2_with fail
        refine (HPL.out wr (HK.out.books HB.out)).mono ?_
        rintro e w3 ⟨ap, cp, rfl, ho, hb⟩
        have HX3 := Lib.hid (HX.out.below hb)
        have HB3 : Hid (Below w.heap.size w w3) := HB.out.trans (hb.mono HB.out.size)
        have HK3 := Lib.hid (HK.out.keep hb)
        have HS3 : Hid (w.heap.size < wr.heap.size ∧ wr.heap.size ≤ w3.heap.size) := ⟨HX.out.lt, hb.size⟩
        have HO3 := Lib.hid ho
        clear hb ho y0 y1 y2 y3 HX HB HK HPL
        clear HO3
        have y0 : w3.cell? ⟨w.heap.size, 0, none⟩ = some (.slice a1 c.ns.length d1) := HX3.out.cell 0
        have y1 : w3.cell? ⟨w.heap.size, 1, none⟩ = some (.slice g1 c.ts.length h1) := HX3.out.cell 1
        have y2 : w3.cell? ⟨w.heap.size, 2, none⟩ = some (.slice p1 c.bs.length q1) := HX3.out.cell 2
        have y3 : w3.cell? ⟨w.heap.size, 3, none⟩ = some (.int .u64 (c.fe : Nat)) := HX3.out.cell 3
        go_wp2_with fail
        refine (HQU.out w3 (HK3.out.books HB3.out)).mono ?_
        rintro e w4 ⟨rfl, hb⟩
        have HX4 := Lib.hid (HX3.out.below hb)
        have HB4 : Hid (Below w.heap.size w w4) := HB3.out.trans (hb.mono HB3.out.size)
        have HK4 := Lib.hid (HK3.out.keep hb)
        clear hb y0 y1 y2 y3 HX3 HB3 HK3 HQU
        have y0 : w4.cell? ⟨w.heap.size, 0, none⟩ = some (.slice a1 c.ns.length d1) := HX4.out.cell 0
        have y1 : w4.cell? ⟨w.heap.size, 1, none⟩ = some (.slice g1 c.ts.length h1) := HX4.out.cell 1
        have y2 : w4.cell? ⟨w.heap.size, 2, none⟩ = some (.slice p1 c.bs.length q1) := HX4.out.cell 2
        have y3 : w4.cell? ⟨w.heap.size, 3, none⟩ = some (.int .u64 (c.fe : Nat)) := HX4.out.cell 3
        go_wp2_with fail
        refine (HCK.out w4 (HK4.out.books HB4.out)).mono ?_
        rintro e w5 ⟨rfl, hb⟩
        have HB5 : Hid (Below w.heap.size w w5) := HB4.out.trans (hb.mono HB4.out.size)
        clear hb y0 y1 y2 y3 HX4 HB4 HK4 HCK
        go_wp2
        go_ret
        exact ⟨rfl, HB5.out⟩
      · have HL0 : Hid (0 < (planV c).length) := Nat.pos_of_ne_zero hz
        have HL8 : Hid ((planV c).length ≤ 8) := plan_len8 c
        have HRU := Lib.hid (plan_runs HC.out)
        have HFP : Hid (∀ p ∈ planV c, FitB p) := runs_fitB HRU.out ((HK.out.books HB.out).fine HC.out).fn ((HK.out.books HB.out).fine HC.out).ft
        generalize hL : (planV c).length = L at *
        have HL := Lib.hid hL
        have HPL : Hid (∀ z, Books z z.heap.size (.slice a1 c.ns.length d1) (.slice g1 c.ts.length h1) (.slice p1 c.bs.length q1) c → Calls Tryz.prog 22 #[.agg #[.slice a1 c.ns.length d1, .slice g1 c.ts.length h1, .slice p1 c.bs.length q1, .int .u64 (c.fe : Nat)], .int .u64 (c.fe : Nat)] z fun e w' => ∃ (a : Option Addr) (cp : Nat), e = .returned (.tuple #[.slice a L cp, .int .i64 0]) ∧ Own w' z.heap.size 55 (.slice a L cp) ((planV c).map (stp c.fe)) ∧ Below z.heap.size z w') := fun z hz' => plan_at HC.out HL.out _ _ _ _ z hz'
        clear hL
        have t1 : ((L : Int) == 0) = false := by rw [beq_eq_false_iff_ne]; omega
        have t1b : ¬ (L : Int) = 0 := by omega
        clear hz
        have y0 : wr.cell? ⟨w.heap.size, 0, none⟩ = some (.slice a1 c.ns.length d1) := HX.out.cell 0
        have y1 : wr.cell? ⟨w.heap.size, 1, none⟩ = some (.slice g1 c.ts.length h1) := HX.out.cell 1
        have y2 : wr.cell? ⟨w.heap.size, 2, none⟩ = some (.slice p1 c.bs.length q1) := HX.out.cell 2
        have y3 : wr.cell? ⟨w.heap.size, 3, none⟩ = some (.int .u64 (c.fe : Nat)) := HX.out.cell 3
        go_wp2_with fail
        refine (HPL.out wr (HK.out.books HB.out)).mono ?_
        rintro e w3 ⟨ap, cp, rfl, ho, hb⟩
        have HX3 := Lib.hid (HX.out.below hb)
        have HB3 : Hid (Below w.heap.size w w3) := HB.out.trans (hb.mono HB.out.size)
        have HK3 := Lib.hid (HK.out.keep hb)
        have HS3 : Hid (w.heap.size < wr.heap.size ∧ wr.heap.size ≤ w3.heap.size) := ⟨HX.out.lt, hb.size⟩
        have HO3 := Lib.hid ho
        clear hb ho y0 y1 y2 y3 HX HB HK HPL
        have y2 : w3.cell? ⟨w.heap.size, 2, none⟩ = some (.slice p1 c.bs.length q1) := HX3.out.cell 2
        go_wp2
        clear y2 t0 t0b t1 t1b
        go_loopg [62] L (fun gj i wx => ∃ (j : Nat) (c2 : Bk) (a2 g2 p2 : Option Addr) (d2 h2 q2 : Nat), j + gj = L ∧ i = .int .i64 j ∧ Aside (Runs c2 ((planV c).drop j) ∧ chkB c2 = true ∧ c2.fe = c.fe ∧ c2.bs.length = c.bs.length + j) ∧ Aside (Hd.Bxn wx w.heap.size [.slice a2 c2.ns.length d2, .slice g2 c2.ts.length h2, .slice p2 c2.bs.length q2, .int .u64 (c2.fe : Nat)]) ∧ Aside (w3.grownBy wx (some w.heap.size)) ∧ Aside (BkIn w wx c2 (.slice a2 c2.ns.length d2) (.slice g2 c2.ts.length h2) (.slice p2 c2.bs.length q2)) ∧ Aside (Below w.heap.size w wx))
        case atStart => exact ⟨0, c, a1, g1, p1, d1, h1, q1, by omega, rfl, ⟨HRU.out, HC.out, rfl, rfl⟩, HX3.out, grown_of _ (Below.refl _ _), HK3.out, HB3.out⟩
        case round =>
          obtain ⟨j, c2, a2, g2, p2, d2, h2, q2, hjg, rfl, HA1, HA2, HA3, HA4, HA5⟩ := hrel
          obtain ⟨wj, rfl⟩ : ∃ q, q = wr := ⟨wr, rfl⟩
          have HI := Lib.hid HA1.out
          have HXJ := Lib.hid HA2.out
          have HGJ : Hid (w3.grownBy wj (some w.heap.size)) := HA3.out
          have HKJ := Lib.hid HA4.out
          have HBJ := Lib.hid HA5.out
          clear HA1 HA2 HA3 HA4 HA5
          cases gk with
          | zero =>
            obtain rfl : j = L := by omega
            have HN2 : Hid (b.bs.length + (k + 1) ≤ c2.bs.length) := by show _ ≤ _; have h1 := HI.out.2.2.2; have h2 := HC1.out; have h3 := HL0.out; omega
            have t5 : IntKind.i64.wrap ((c.bs.length : Int) + (j : Int)) = (c2.bs.length : Int) := by rw [IntKind.wrap_i64]; have h1 := HI.out.2.2.2; have h2 := (rb_of_chk HI.out.2.1).lists.lb; omega
            have HC2 : Hid (chkB c2 = true) := HI.out.2.1
            have y2 : wj.cell? ⟨w.heap.size, 2, none⟩ = some (.slice p2 c2.bs.length q2) := HXJ.out.cell 2
            clear hjg HI HRU HGJ HO3 HX3 HK3 HB3
            go_wp2
            clear y2 t5
            go_roundg gg
            case measure => omega
            case rel => exact ⟨k + 1, c2, a2, g2, p2, d2, h2, q2, by have := HKG.out; omega, by simp, ⟨HC2.out, HN2.out⟩, HXJ.out, HKJ.out, HBJ.out⟩
          | succ gj =>
            have hlj : j < (planV c).length := by rw [HL.out]; omega
            have u2 : (j : Int) < (L : Int) := by omega
            have u3 : IntKind.i64.wrap ((j : Int) + 1) = (j : Int) + 1 := by rw [IntKind.wrap_i64]; have := HL8.out; omega
            have u4 : (0 : Int) ≤ (j : Int) := by omega
            obtain ⟨g, cap, hv, hbg, hgl, hat, -⟩ := HO3.out.form (by rw [List.length_map]; omega)
            simp only [Value.slice.injEq] at hv
            obtain ⟨rfl, -, rfl⟩ := hv
            have ha : At w3 g (j * 19) (stp c.fe (planV c)[j]) := by have := hat j (by rw [List.length_map]; exact hlj); rw [List.getElem_map] at this; exact this
            have HDR : Hid ((planV c).drop j = (planV c)[j] :: (planV c).drop (j + 1)) := List.drop_eq_getElem_cons hlj
            have HFB := Lib.hid (HFP.out _ (List.getElem_mem hlj))
            generalize (planV c)[j] = y at *
            have hne : g ≠ w.heap.size := by have := HS3.out; omega
            have hrow : wj.rangeAt g (j * 19) [.int .u8 5, .string ⟨#[]⟩, .int .i64 0, .int .i64 0, .int .i64 0, .slice none 0 0, .slice none 0 0, .string ⟨#[]⟩, .int .i64 0, .int .i64 0, .int .i64 0, .slice none 0 0, .slice none 0 0, .string ⟨#[]⟩, .string ⟨#[]⟩, .int .i64 0, .string y.k, .string y.v, .int .u64 (c.fe : Nat)] := fun i u hj => HGJ.out.cell (ha i u hj) (fun e => hne (Option.some.inj e))
            have HJG := Lib.hid hjg
            obtain ⟨h0, h1, h2, h3⟩ : canE c2 y.k y.v = 0 ∧ chkB (biB c2 y.k y.v c2.fe).1 = true ∧ (biB c2 y.k y.v c2.fe).1.fe = c2.fe ∧ Runs (biB c2 y.k y.v c2.fe).1 ((planV c).drop (j + 1)) := by have h := HI.out.1; rw [HDR.out] at h; exact h
            have hd : doF c2 (oBnd y.k y.v c.fe) = ((biB c2 y.k y.v c2.fe).1, 0, ByteArray.empty) := by rw [do_bnd HI.out.2.1, bi_above (Nat.le_of_eq HI.out.2.2.1) h0]
            have HIN : Hid (Runs (biB c2 y.k y.v c2.fe).1 ((planV c).drop (j + 1)) ∧ chkB (biB c2 y.k y.v c2.fe).1 = true ∧ (biB c2 y.k y.v c2.fe).1.fe = c.fe ∧ (biB c2 y.k y.v c2.fe).1.bs.length = c.bs.length + (j + 1)) := ⟨h3, h1, h2.trans HI.out.2.2.1, by rw [(bi_more h0).1, HI.out.2.2.2]; omega⟩
            generalize (biB c2 y.k y.v c2.fe).1 = c3 at *
            clear ha hat hgl hbg hne hjg hlj h0 h1 h2 h3
            go_upto_region 16 with fail
            refine wp_region_list ?_
            refine wpList_plain rfl fun K hK => ?_
            go_simp
            refine hK _ _ ?_
            clear hK K
            refine wpList_load_mid rfl 55 (.tmp 64) rfl (g) (j * 19) rfl [.int .u8 5, .string ⟨#[]⟩, .int .i64 0, .int .i64 0, .int .i64 0, .slice none 0 0, .slice none 0 0, .string ⟨#[]⟩, .int .i64 0, .int .i64 0, .int .i64 0, .slice none 0 0, .slice none 0 0, .string ⟨#[]⟩, .string ⟨#[]⟩, .int .i64 0, .string y.k, .string y.v, .int .u64 (c.fe : Nat)] _ (hrow) Tryz.underlying55 rfl rfl ?_
            refine wpList_plain rfl fun K hK => ?_
            go_simp
            refine hK _ _ ?_
            clear hK K
            obtain ⟨th1, hbz, hx1⟩ := one_made wj [.int .u8 0, .string ⟨#[]⟩, .int .i64 0, .int .i64 0, .int .i64 0, .slice none 0 0, .slice none 0 0, .string ⟨#[]⟩, .int .i64 0, .int .i64 0, .int .i64 0, .slice none 0 0, .slice none 0 0, .string ⟨#[]⟩, .string ⟨#[]⟩, .int .i64 0, .string ⟨#[]⟩, .string ⟨#[]⟩, .int .u64 0] [.int .u8 5, .string ⟨#[]⟩, .int .i64 0, .int .i64 0, .int .i64 0, .slice none 0 0, .slice none 0 0, .string ⟨#[]⟩, .int .i64 0, .int .i64 0, .int .i64 0, .slice none 0 0, .slice none 0 0, .string ⟨#[]⟩, .string ⟨#[]⟩, .int .i64 0, .string y.k, .string y.v, .int .u64 (c.fe : Nat)] 55 rfl
            refine wpList_store_mid rfl 55 (.tmp 11) (.tmp 65) rfl (wj.heap.size) 0 #[.int .u8 5, .string ⟨#[]⟩, .int .i64 0, .int .i64 0, .int .i64 0, .slice none 0 0, .slice none 0 0, .string ⟨#[]⟩, .int .i64 0, .int .i64 0, .int .i64 0, .slice none 0 0, .slice none 0 0, .string ⟨#[]⟩, .string ⟨#[]⟩, .int .i64 0, .string y.k, .string y.v, .int .u64 (c.fe : Nat)] rfl rfl th1 rfl (all_oneCell_toArray (List.all_eq_true.1 (show List.all ([.int .u8 5, .string ⟨#[]⟩, .int .i64 0, .int .i64 0, .int .i64 0, .slice none 0 0, .slice none 0 0, .string ⟨#[]⟩, .int .i64 0, .int .i64 0, .int .i64 0, .slice none 0 0, .slice none 0 0, .string ⟨#[]⟩, .string ⟨#[]⟩, .int .i64 0, .string y.k, .string y.v, .int .u64 (c.fe : Nat)] : List Value) (fun v => v.oneCell') = true from rfl))) ?_
            rw [show (#[.int .u8 5, .string ⟨#[]⟩, .int .i64 0, .int .i64 0, .int .i64 0, .slice none 0 0, .slice none 0 0, .string ⟨#[]⟩, .int .i64 0, .int .i64 0, .int .i64 0, .slice none 0 0, .slice none 0 0, .string ⟨#[]⟩, .string ⟨#[]⟩, .int .i64 0, .string y.k, .string y.v, .int .u64 (c.fe : Nat)] : Array Value).toList = [.int .u8 5, .string ⟨#[]⟩, .int .i64 0, .int .i64 0, .int .i64 0, .slice none 0 0, .slice none 0 0, .string ⟨#[]⟩, .int .i64 0, .int .i64 0, .int .i64 0, .slice none 0 0, .slice none 0 0, .string ⟨#[]⟩, .string ⟨#[]⟩, .int .i64 0, .string y.k, .string y.v, .int .u64 (c.fe : Nat)] from rfl]
            clear th1 hrow
            generalize (wj.alloc (.cells #[.int .u8 0, .string ⟨#[]⟩, .int .i64 0, .int .i64 0, .int .i64 0, .slice none 0 0, .slice none 0 0, .string ⟨#[]⟩, .int .i64 0, .int .i64 0, .int .i64 0, .slice none 0 0, .slice none 0 0, .string ⟨#[]⟩, .string ⟨#[]⟩, .int .i64 0, .string ⟨#[]⟩, .string ⟨#[]⟩, .int .u64 0] 55)).setCells wj.heap.size 0 [.int .u8 5, .string ⟨#[]⟩, .int .i64 0, .int .i64 0, .int .i64 0, .slice none 0 0, .slice none 0 0, .string ⟨#[]⟩, .int .i64 0, .int .i64 0, .int .i64 0, .slice none 0 0, .slice none 0 0, .string ⟨#[]⟩, .string ⟨#[]⟩, .int .i64 0, .string y.k, .string y.v, .int .u64 (c.fe : Nat)] = z0 at *
            have HX0 := Lib.hid (HXJ.out.below hbz)
            have HQ := Lib.hid hx1
            have HG0 : Hid (w3.grownBy z0 (some w.heap.size)) := grown_tr HGJ.out (grown_of _ hbz)
            have HK0 := Lib.hid (HKJ.out.keep hbz)
            have HB0' : Hid (Below w.heap.size w z0) := HBJ.out.trans (hbz.mono HBJ.out.size)
            clear hbz hx1 HXJ HGJ HKJ HBJ
            refine wpList_nil ?_
            have HDO : Hid (∀ z, Books z z.heap.size (.slice a2 c2.ns.length d2) (.slice g2 c2.ts.length h2) (.slice p2 c2.bs.length q2) c2 → Calls Tryz.prog 21 #[.agg #[.slice a2 c2.ns.length d2, .slice g2 c2.ts.length h2, .slice p2 c2.bs.length q2, .int .u64 (c2.fe : Nat)], .agg #[.int .u8 5, .string ⟨#[]⟩, .int .i64 0, .int .i64 0, .int .i64 0, .slice none 0 0, .slice none 0 0, .string ⟨#[]⟩, .int .i64 0, .int .i64 0, .int .i64 0, .slice none 0 0, .slice none 0 0, .string ⟨#[]⟩, .string ⟨#[]⟩, .int .i64 0, .string y.k, .string y.v, .int .u64 (c.fe : Nat)]] z fun e w' => ∃ vn' vt' vb', e = .returned (.tuple #[.agg #[vn', vt', vb', .int .u64 (c3.fe : Nat)], .agg #[.int .i64 0, .string ⟨#[]⟩]]) ∧ Kept z w' c3 vn' vt' vb' ∧ Below z.heap.size z w') := fun z hz => do_use c2 c3 0 ByteArray.empty _ _ _ (oBnd y.k y.v c.fe) none none none none 0 0 0 0 z hz (deepN0 z _ rfl rfl) fitN0 (deepT0 z _ rfl rfl) fitT0 HFB.out hd
            clear hd
            go_upto_region 17 with fail
            refine wp_region_list ?_
            refine wpList_load_mid rfl 27 (.tmp 1) rfl (w.heap.size) (0) rfl [.slice a2 c2.ns.length d2, .slice g2 c2.ts.length h2, .slice p2 c2.bs.length q2, .int .u64 (c2.fe : Nat)] _ (HX0.out.range 0) Tryz.underlying27 rfl rfl ?_
            refine wpList_load_mid rfl 55 (.tmp 11) rfl (wj.heap.size) (0) rfl [.int .u8 5, .string ⟨#[]⟩, .int .i64 0, .int .i64 0, .int .i64 0, .slice none 0 0, .slice none 0 0, .string ⟨#[]⟩, .int .i64 0, .int .i64 0, .int .i64 0, .slice none 0 0, .slice none 0 0, .string ⟨#[]⟩, .string ⟨#[]⟩, .int .i64 0, .string y.k, .string y.v, .int .u64 (c.fe : Nat)] _ (HQ.out.range 0) Tryz.underlying55 rfl rfl ?_
            refine wpList_plain rfl fun K hK => ?_
            go_wp2_with fail
            refine (HDO.out z0 (HK0.out.books HB0'.out)).mono ?_
            rintro e z1 ⟨v1, v2, v3, rfl, hkp, hb⟩
            obtain ⟨⟨a4, c4, rfl⟩, ⟨b4, d4, rfl⟩, ⟨e4, f4, rfl⟩⟩ := hkp.slices
            refine hK _ _ ?_
            clear hK K
            have HX1' := Lib.hid (HX0.out.below hb)
            have HG1 : Hid (w3.grownBy z1 (some w.heap.size)) := grown_tr HG0.out (grown_of _ hb)
            have HB1' : Hid (Below w.heap.size w z1) := HB0'.out.trans (hb.mono HB0'.out.size)
            have HK1 := Lib.hid hkp
            have HZ0 : Hid (w.heap.size < z0.heap.size) := HX0.out.lt
            clear hb hkp HX0 HG0 HK0 HB0' HQ HDO
            refine wpList_plain rfl fun K hK => ?_
            go_simp
            refine hK _ _ ?_
            clear hK K
            refine wpList_plain rfl fun K hK => ?_
            go_simp
            refine hK _ _ ?_
            clear hK K
            refine wpList_plain rfl fun K hK => ?_
            go_simp
            refine hK _ _ ?_
            clear hK K
            have hth := HX1'.out.there 4 rfl
            refine wpList_store_mid rfl 27 (.tmp 1) (.tmp 70) rfl (w.heap.size) 0 #[.slice a4 (c3).ns.length c4, .slice b4 (c3).ts.length d4, .slice e4 (c3).bs.length f4, .int .u64 ((c3).fe : Nat)] rfl rfl hth rfl (all_oneCell_toArray (List.all_eq_true.1 (show List.all ([.slice a4 (c3).ns.length c4, .slice b4 (c3).ts.length d4, .slice e4 (c3).bs.length f4, .int .u64 ((c3).fe : Nat)] : List Value) (fun v => v.oneCell') = true from rfl))) ?_
            rw [show (#[.slice a4 (c3).ns.length c4, .slice b4 (c3).ts.length d4, .slice e4 (c3).bs.length f4, .int .u64 ((c3).fe : Nat)] : Array Value).toList = [.slice a4 (c3).ns.length c4, .slice b4 (c3).ts.length d4, .slice e4 (c3).bs.length f4, .int .u64 ((c3).fe : Nat)] from rfl]
            clear hth
            have HX9 := Lib.hid (HX1'.out.all [.slice a4 (c3).ns.length c4, .slice b4 (c3).ts.length d4, .slice e4 (c3).bs.length f4, .int .u64 ((c3).fe : Nat)] rfl)
            have HG9 : Hid (w3.grownBy (z1.setCells w.heap.size 0 [.slice a4 (c3).ns.length c4, .slice b4 (c3).ts.length d4, .slice e4 (c3).bs.length f4, .int .u64 ((c3).fe : Nat)]) (some w.heap.size)) := grown_tr HG1.out (grown_setCells _ _ _ _)
            have HK9 : Hid (BkIn w (z1.setCells w.heap.size 0 [.slice a4 (c3).ns.length c4, .slice b4 (c3).ts.length d4, .slice e4 (c3).bs.length f4, .int .u64 ((c3).fe : Nat)]) c3 (.slice a4 c3.ns.length c4) (.slice b4 c3.ts.length d4) (.slice e4 c3.bs.length f4)) := .inr ⟨z0, HZ0.out, HK1.out.far HZ0.out 0 _⟩
            have HB9 : Hid (Below w.heap.size w (z1.setCells w.heap.size 0 [.slice a4 (c3).ns.length c4, .slice b4 (c3).ts.length d4, .slice e4 (c3).bs.length f4, .int .u64 ((c3).fe : Nat)])) := below_setCells HB1'.out (Nat.le_refl _) _ _
            clear HX1' HG1 HB1' HK1
            refine wpList_nil ?_
            go_wp2
            go_roundg gj
            case measure => omega
            case rel => exact ⟨j + 1, c3, a4, b4, e4, c4, d4, f4, by have := HJG.out; omega, by simp, HIN.out, HX9.out, HG9.out, HK9.out, HB9.out⟩
theorem sends_law (b : Bk) (vb0 : Value) (w : World) (hb : BookArg w vb0 b) : Calls Tryz.prog 7 #[vb0] w fun e w' => e = .returned (.bool true) ∧ Below w.heap.size w w' := by
  cases hc : chkB b
  · exact sends_no b vb0 w hb hc
  · exact sends_ok b vb0 w hb hc
end Bo
end Go.Proofs.YthbmnkeigmbbdaaGreat
