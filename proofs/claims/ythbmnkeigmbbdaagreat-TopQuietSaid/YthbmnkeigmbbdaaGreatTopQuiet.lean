/-
  gaffertop.TopQuiet.
-/
import Derived.Test.YthbmnkeigmbbdaaGreatTqA
import Derived.Test.YthbmnkeigmbbdaaGreatDk2
namespace Go.Proofs.YthbmnkeigmbbdaaGreat
open Go.RowKit Go.Lib
namespace Bo
open Rw
set_option linter.unusedVariables false
set_option maxRecDepth 100000 in
set_option maxHeartbeats 4000000 in
theorem tquiet_no (b : Bk) (k : ByteArray) (vb0 : Value) (w : World) (hb : BookArg w vb0 b) (hfk : FitS k) (hc : chkB b = false) : Calls Tryz.prog 11 #[vb0, .string k] w fun e w' => e = .returned (.bool true) ∧ Below w.heap.size w w' := by
  obtain ⟨vn, vt, vb, rfl, hB⟩ := hb
  obtain ⟨⟨a0, c0, rfl⟩, ⟨b0, d0, rfl⟩, ⟨e0, f0, rfl⟩⟩ := And.intro hB.hn.slice (And.intro hB.ht.slice hB.hb.slice)
  obtain ⟨W0, hW0⟩ : ∃ W0, W0 = w.alloc (.cells #[.slice a0 (b).ns.length c0, .slice b0 (b).ts.length d0, .slice e0 (b).bs.length f0, .int .u64 ((b).fe : Nat)] 27) := ⟨_, rfl⟩
  have hb0 : Below w.heap.size w W0 := by rw [hW0]; exact al w _
  have hx0 : Hd.Bxn W0 w.heap.size [.slice a0 (b).ns.length c0, .slice b0 (b).ts.length d0, .slice e0 (b).bs.length f0, .int .u64 ((b).fe : Nat)] := by rw [hW0]; exact Hd.Bxn.made w _ _
  have HL : Hid (Calls Tryz.prog 29 #[] W0 fun e w' => e = .returned (.bool true) ∧ Below W0.heap.size W0 w') := Dk.begins_true W0
  have HBK : Hid (∀ z, Below w.heap.size w z → Books z z.heap.size (.slice a0 (b).ns.length c0) (.slice b0 (b).ts.length d0) (.slice e0 (b).bs.length f0) (b)) := fun z hz => hB.on hz
  have HW := Lib.hid hW0
  have HX0 := Lib.hid hx0
  have HB0 := Lib.hid hb0
  clear hW0 hb0 hx0 hB
  have HCK : Hid (∀ z, Below w.heap.size w z → Calls Tryz.prog 28 #[.agg #[.slice a0 (b).ns.length c0, .slice b0 (b).ts.length d0, .slice e0 (b).bs.length f0, .int .u64 ((b).fe : Nat)]] z fun e w' => e = .returned (.int .i64 10) ∧ Below z.heap.size z w') := fun z hz => by
    have h := check_any b _ _ _ z (HBK.out z hz)
    rw [hc] at h
    exact h
  clear hc HBK
  go_enter Tryz.func11, Tryz.ntmps11
  go_upto_region 1 with fail
  rw [← HW.out]
  go_wp2_with fail
  refine HL.out.mono ?_
  rintro e w1 ⟨rfl, hb⟩
  have HX1 := Lib.hid (HX0.out.below hb)
  have HB1 : Hid (Below w.heap.size w w1) := HB0.out.trans (hb.mono HB0.out.size)
  clear hb HX0 HB0 HL HW
  have y0 : w1.cell? ⟨w.heap.size, 0, none⟩ = some (.slice a0 (b).ns.length c0) := HX1.out.cell 0
  have y1 : w1.cell? ⟨w.heap.size, 1, none⟩ = some (.slice b0 (b).ts.length d0) := HX1.out.cell 1
  have y2 : w1.cell? ⟨w.heap.size, 2, none⟩ = some (.slice e0 (b).bs.length f0) := HX1.out.cell 2
  have y3 : w1.cell? ⟨w.heap.size, 3, none⟩ = some (.int .u64 ((b).fe : Nat)) := HX1.out.cell 3
  go_wp2_with fail
  refine (HCK.out w1 HB1.out).mono ?_
  rintro e w2 ⟨rfl, hb⟩
  have HX12 := Lib.hid (HX1.out.below hb)
  have HB2 : Hid (Below w.heap.size w w2) := HB1.out.trans (hb.mono HB1.out.size)
  clear hb y0 y1 y2 y3
  clear HX1 HX12 HCK HB1
  go_wp2
  go_ret
  exact ⟨rfl, HB2.out⟩
set_option maxRecDepth 100000 in
set_option maxHeartbeats 4000000 in
theorem tquiet_ok (b : Bk) (k : ByteArray) (vb0 : Value) (w : World) (hb : BookArg w vb0 b) (hfk : FitS k) (hc : chkB b = true) : Calls Tryz.prog 11 #[vb0, .string k] w fun e w' => e = .returned (.bool true) ∧ Below w.heap.size w w' := by
  obtain ⟨vn, vt, vb, rfl, hB⟩ := hb
  obtain ⟨⟨a0, c0, rfl⟩, ⟨b0, d0, rfl⟩, ⟨e0, f0, rfl⟩⟩ := And.intro hB.hn.slice (And.intro hB.ht.slice hB.hb.slice)
  obtain ⟨W0, hW0⟩ : ∃ W0, W0 = w.alloc (.cells #[.slice a0 (b).ns.length c0, .slice b0 (b).ts.length d0, .slice e0 (b).bs.length f0, .int .u64 ((b).fe : Nat)] 27) := ⟨_, rfl⟩
  have hb0 : Below w.heap.size w W0 := by rw [hW0]; exact al w _
  have hx0 : Hd.Bxn W0 w.heap.size [.slice a0 (b).ns.length c0, .slice b0 (b).ts.length d0, .slice e0 (b).bs.length f0, .int .u64 ((b).fe : Nat)] := by rw [hW0]; exact Hd.Bxn.made w _ _
  have HL : Hid (Calls Tryz.prog 29 #[] W0 fun e w' => e = .returned (.bool true) ∧ Below W0.heap.size W0 w') := Dk.begins_true W0
  have HBK : Hid (∀ z, Below w.heap.size w z → Books z z.heap.size (.slice a0 (b).ns.length c0) (.slice b0 (b).ts.length d0) (.slice e0 (b).bs.length f0) (b)) := fun z hz => hB.on hz
  have HW := Lib.hid hW0
  have HX0 := Lib.hid hx0
  have HB0 := Lib.hid hb0
  clear hW0 hb0 hx0 hB
  have HCK : Hid (∀ z, Below w.heap.size w z → Calls Tryz.prog 28 #[.agg #[.slice a0 (b).ns.length c0, .slice b0 (b).ts.length d0, .slice e0 (b).bs.length f0, .int .u64 ((b).fe : Nat)]] z fun e w' => e = .returned (.int .i64 0) ∧ Below z.heap.size z w') := fun z hz => by
    have h := check_any b _ _ _ z (HBK.out z hz)
    rw [hc] at h
    exact h
  have HFK := Lib.hid hfk
  have HC0 : Hid (chkB b = true) := hc
  have HDN : Hid (∀ z, Below w.heap.size w z → Calls Tryz.prog 33 #[.agg #[.slice a0 (b).ns.length c0, .slice b0 (b).ts.length d0, .slice e0 (b).bs.length f0, .int .u64 ((b).fe : Nat)]] z fun e w' => ∃ (c : Bk) (un ut ub : Value), e = .returned (.tuple #[.agg #[un, ut, ub, .int .u64 (c.fe : Nat)], .bool true]) ∧ Dn z w' b (.slice a0 (b).ns.length c0) (.slice b0 (b).ts.length d0) (.slice e0 (b).bs.length f0) c un ut ub ∧ (chkB c = true ∧ (planV c).length = 0 ∧ b.bs.length ≤ c.bs.length ∧ ((planV b).length ≠ 0 → b.bs.length + 1 ≤ c.bs.length)) ∧ Below z.heap.size z w') := fun z hz => done_any b _ _ _ z (HBK.out z hz) HC0.out
  clear hc hfk
  go_enter Tryz.func11, Tryz.ntmps11
  go_upto_region 1 with fail
  rw [← HW.out]
  go_wp2_with fail
  refine HL.out.mono ?_
  rintro e w1 ⟨rfl, hb⟩
  have HX1 := Lib.hid (HX0.out.below hb)
  have HB1 : Hid (Below w.heap.size w w1) := HB0.out.trans (hb.mono HB0.out.size)
  clear hb HX0 HB0 HL HW
  have y0 : w1.cell? ⟨w.heap.size, 0, none⟩ = some (.slice a0 (b).ns.length c0) := HX1.out.cell 0
  have y1 : w1.cell? ⟨w.heap.size, 1, none⟩ = some (.slice b0 (b).ts.length d0) := HX1.out.cell 1
  have y2 : w1.cell? ⟨w.heap.size, 2, none⟩ = some (.slice e0 (b).bs.length f0) := HX1.out.cell 2
  have y3 : w1.cell? ⟨w.heap.size, 3, none⟩ = some (.int .u64 ((b).fe : Nat)) := HX1.out.cell 3
  go_wp2_with fail
  refine (HCK.out w1 HB1.out).mono ?_
  rintro e w2 ⟨rfl, hb⟩
  have HX12 := Lib.hid (HX1.out.below hb)
  have HX2 := HX12
  have HB2 : Hid (Below w.heap.size w w2) := HB1.out.trans (hb.mono HB1.out.size)
  clear HX12 HX1 HB1 HCK HC0
  clear hb y0 y1 y2 y3
  go_upto_region 6 with fail
  refine wp_region_list ?_
  refine wpList_plain rfl fun K hK => ?_
  go_simp
  refine hK _ _ ?_
  clear hK K
  refine wpList_load_mid rfl 27 (.tmp 2) rfl (w.heap.size) (0) rfl [.slice a0 (b).ns.length c0, .slice b0 (b).ts.length d0, .slice e0 (b).bs.length f0, .int .u64 ((b).fe : Nat)] _ (HX2.out.range 0) Tryz.underlying27 rfl rfl ?_
  refine wpList_plain rfl fun K hK => ?_
  go_wp2_with fail
  refine (HDN.out w2 HB2.out).mono ?_
  rintro e w3 ⟨c1, un, ut, ub, rfl, hdn, hfi, hb⟩
  have hbk := hdn.books (HBK.out w2 HB2.out) hb
  obtain ⟨⟨a1, d1, rfl⟩, ⟨g1, h1, rfl⟩, ⟨p1, q1, rfl⟩⟩ := And.intro hbk.hn.slice (And.intro hbk.ht.slice hbk.hb.slice)
  refine hK _ _ ?_
  clear hK K
  refine wpList_plain rfl fun K hK => ?_
  go_simp
  refine hK _ _ ?_
  clear hK K
  refine wpList_plain rfl fun K hK => ?_
  go_simp
  refine hK _ _ ?_
  clear hK K
  refine wpList_plain rfl fun K hK => ?_
  go_simp
  refine hK _ _ ?_
  clear hK K
  have hth := (HX2.out.below hb).there 4 rfl
  refine wpList_store_mid rfl 27 (.tmp 2) (.tmp 28) rfl (w.heap.size) 0 #[.slice a1 c1.ns.length d1, .slice g1 c1.ts.length h1, .slice p1 c1.bs.length q1, .int .u64 (c1.fe : Nat)] rfl rfl hth rfl (all_oneCell_toArray (List.all_eq_true.1 (show List.all ([.slice a1 c1.ns.length d1, .slice g1 c1.ts.length h1, .slice p1 c1.bs.length q1, .int .u64 (c1.fe : Nat)] : List Value) (fun v => v.oneCell') = true from rfl))) ?_
  rw [show (#[.slice a1 c1.ns.length d1, .slice g1 c1.ts.length h1, .slice p1 c1.bs.length q1, .int .u64 (c1.fe : Nat)] : Array Value).toList = [.slice a1 c1.ns.length d1, .slice g1 c1.ts.length h1, .slice p1 c1.bs.length q1, .int .u64 (c1.fe : Nat)] from rfl]
  clear hth
  have HX3 := Lib.hid ((HX2.out.below hb).all [.slice a1 c1.ns.length d1, .slice g1 c1.ts.length h1, .slice p1 c1.bs.length q1, .int .u64 (c1.fe : Nat)] rfl)
  have HB3 : Hid (Below w.heap.size w (w3.setCells w.heap.size 0 [.slice a1 c1.ns.length d1, .slice g1 c1.ts.length h1, .slice p1 c1.bs.length q1, .int .u64 (c1.fe : Nat)])) := below_setCells (HB2.out.trans (hb.mono HB2.out.size)) (Nat.le_refl _) _ _
  have HK3 := Lib.hid (Dn.at_set HBK.out HB2.out.size hdn [.slice a1 c1.ns.length d1, .slice g1 c1.ts.length h1, .slice p1 c1.bs.length q1, .int .u64 (c1.fe : Nat)] HB3.out)
  have HC1 : Hid (chkB c1 = true) := hfi.1
  have HZ1 : Hid ((planV c1).length = 0) := hfi.2.1
  clear hb hdn hfi hbk HX2 HB2 HDN HBK
  generalize w3.setCells w.heap.size 0 [.slice a1 c1.ns.length d1, .slice g1 c1.ts.length h1, .slice p1 c1.bs.length q1, .int .u64 (c1.fe : Nat)] = z3 at *
  refine wpList_plain rfl fun K hK => ?_
  go_simp
  refine hK _ _ ?_
  clear hK K
  refine wpList_nil ?_
  obtain ⟨c2, r, hd, hc2, hfr⟩ : ∃ c2 r, doF c1 (oFre k) = (c2, r, ByteArray.empty) ∧ chkB c2 = true ∧ (r = 0 → c2.bs.length + 1 = c1.bs.length ∧ (planV c2).length ≠ 0) := ⟨(frB c1 k).1, (frB c1 k).2, do_fre HC1.out k, chk_of_rb ((rb_of_chk HC1.out).frB k), fun h => free_again (rb_of_chk HC1.out) h⟩
  have HC2 := Lib.hid hc2
  have HFR := Lib.hid hfr
  have HDO : Hid (∀ z, Books z z.heap.size (.slice a1 c1.ns.length d1) (.slice g1 c1.ts.length h1) (.slice p1 c1.bs.length q1) c1 → Calls Tryz.prog 21 #[.agg #[.slice a1 c1.ns.length d1, .slice g1 c1.ts.length h1, .slice p1 c1.bs.length q1, .int .u64 (c1.fe : Nat)], .agg #[.int .u8 6, .string ⟨#[]⟩, .int .i64 0, .int .i64 0, .int .i64 0, .slice none 0 0, .slice none 0 0, .string ⟨#[]⟩, .int .i64 0, .int .i64 0, .int .i64 0, .slice none 0 0, .slice none 0 0, .string ⟨#[]⟩, .string ⟨#[]⟩, .int .i64 0, .string k, .string ⟨#[]⟩, .int .u64 0]] z fun e w' => ∃ vn' vt' vb', e = .returned (.tuple #[.agg #[vn', vt', vb', .int .u64 (c2.fe : Nat)], .agg #[.int .i64 (r : Nat), .string ⟨#[]⟩]]) ∧ Kept z w' c2 vn' vt' vb' ∧ Below z.heap.size z w') := fun z hz => do_use c1 c2 r ByteArray.empty _ _ _ (oFre k) none none none none 0 0 0 0 z hz (deepN0 z _ rfl rfl) fitN0 (deepT0 z _ rfl rfl) fitT0 ⟨HFK.out, fitS0⟩ hd
  clear hd hc2 hfr
  go_upto_region 7 with fail
  refine wp_region_list ?_
  refine wpList_load_mid rfl 27 (.tmp 2) rfl (w.heap.size) (0) rfl [.slice a1 c1.ns.length d1, .slice g1 c1.ts.length h1, .slice p1 c1.bs.length q1, .int .u64 (c1.fe : Nat)] _ (HX3.out.range 0) Tryz.underlying27 rfl rfl ?_
  refine wpList_plain rfl fun K hK => ?_
  go_simp
  refine hK _ _ ?_
  clear hK K
  refine wpList_plain rfl fun K hK => ?_
  go_simp
  refine hK _ _ ?_
  clear hK K
  refine wpList_plain rfl fun K hK => ?_
  go_wp2_with fail
  refine (HDO.out z3 HK3.out).mono ?_
  rintro e w4 ⟨v1, v2, v3, rfl, hkp, hb⟩
  obtain ⟨⟨a4, c4, rfl⟩, ⟨b4, d4, rfl⟩, ⟨e4, f4, rfl⟩⟩ := hkp.slices
  refine hK _ _ ?_
  clear hK K
  have HX4' := Lib.hid (HX3.out.below hb)
  have HB4' : Hid (Below w.heap.size w w4) := HB3.out.trans (hb.mono HB3.out.size)
  have HK4' := Lib.hid (HK3.out.on hb)
  have HKP := Lib.hid hkp
  clear hb hkp HX3 HB3 HK3 HDO
  refine wpList_plain rfl fun K hK => ?_
  go_simp
  refine hK _ _ ?_
  clear hK K
  refine wpList_plain rfl fun K hK => ?_
  go_simp
  refine hK _ _ ?_
  clear hK K
  refine wpList_plain rfl fun K hK => ?_
  go_simp
  refine hK _ _ ?_
  clear hK K
  refine wpList_plain rfl fun K hK => ?_
  go_simp
  refine hK _ _ ?_
  clear hK K
  refine wpList_plain rfl fun K hK => ?_
  go_simp
  refine hK _ _ ?_
  clear hK K
  obtain ⟨th1, th2, hbz, hx1, hx2⟩ := two_made w4 [.slice none 0 0, .slice none 0 0, .slice none 0 0, .int .u64 0] [.int .i64 0, .string ⟨#[]⟩] [.slice a4 (c2).ns.length c4, .slice b4 (c2).ts.length d4, .slice e4 (c2).bs.length f4, .int .u64 ((c2).fe : Nat)] [.int .i64 (r : Nat), .string ⟨#[]⟩] 27 50 rfl rfl
  refine wpList_store_mid rfl 27 (.tmp 7) (.tmp 35) rfl (w4.heap.size) 0 #[.slice a4 (c2).ns.length c4, .slice b4 (c2).ts.length d4, .slice e4 (c2).bs.length f4, .int .u64 ((c2).fe : Nat)] rfl rfl th1 rfl (all_oneCell_toArray (List.all_eq_true.1 (show List.all ([.slice a4 (c2).ns.length c4, .slice b4 (c2).ts.length d4, .slice e4 (c2).bs.length f4, .int .u64 ((c2).fe : Nat)] : List Value) (fun v => v.oneCell') = true from rfl))) ?_
  rw [show (#[.slice a4 (c2).ns.length c4, .slice b4 (c2).ts.length d4, .slice e4 (c2).bs.length f4, .int .u64 ((c2).fe : Nat)] : Array Value).toList = [.slice a4 (c2).ns.length c4, .slice b4 (c2).ts.length d4, .slice e4 (c2).bs.length f4, .int .u64 ((c2).fe : Nat)] from rfl]
  refine wpList_store_mid rfl 50 (.tmp 8) (.tmp 36) rfl (w4.heap.size + 1) 0 #[.int .i64 (r : Nat), .string ⟨#[]⟩] rfl rfl th2 rfl (all_oneCell_toArray (List.all_eq_true.1 (show List.all ([.int .i64 (r : Nat), .string ⟨#[]⟩] : List Value) (fun v => v.oneCell') = true from rfl))) ?_
  rw [show (#[.int .i64 (r : Nat), .string ⟨#[]⟩] : Array Value).toList = [.int .i64 (r : Nat), .string ⟨#[]⟩] from rfl]
  clear th1 th2
  generalize (((w4.alloc (.cells #[.slice none 0 0, .slice none 0 0, .slice none 0 0, .int .u64 0] 27)).alloc (.cells #[.int .i64 0, .string ⟨#[]⟩] 50)).setCells w4.heap.size 0 [.slice a4 (c2).ns.length c4, .slice b4 (c2).ts.length d4, .slice e4 (c2).bs.length f4, .int .u64 ((c2).fe : Nat)]).setCells (w4.heap.size + 1) 0 [.int .i64 (r : Nat), .string ⟨#[]⟩] = z4 at *
  refine wpList_nil ?_
  have HX4 := Lib.hid (HX4'.out.below hbz)
  have HB4 : Hid (Below w.heap.size w z4) := HB4'.out.trans (hbz.mono HB4'.out.size)
  have HK4 := Lib.hid (HK4'.out.on hbz)
  have HKC := Lib.hid (HKP.out.keep hbz).books
  have HXC := Lib.hid hx1
  have HXT := Lib.hid hx2
  clear hbz hx1 hx2 HX4' HB4' HK4' HKP
  go_upto_region 8 with fail
  refine wp_region_list ?_
  refine wpList_plain rfl fun K hK => ?_
  go_simp
  refine hK _ _ ?_
  clear hK K
  refine wpList_load_mid rfl 27 (.tmp 7) rfl (w4.heap.size) (0) rfl [.slice a4 (c2).ns.length c4, .slice b4 (c2).ts.length d4, .slice e4 (c2).bs.length f4, .int .u64 ((c2).fe : Nat)] _ (HXC.out.range 0) Tryz.underlying27 rfl rfl ?_
  refine wpList_plain rfl fun K hK => ?_
  go_wp2_with fail
  refine (done_any c2 _ _ _ z4 HKC.out HC2.out).mono ?_
  rintro e w5 ⟨c3, un, ut, ub, rfl, hdn, hfi, hb⟩
  have hbk := hdn.books (HKC.out) hb
  obtain ⟨⟨a5, d5, rfl⟩, ⟨g5, h5, rfl⟩, ⟨p5, q5, rfl⟩⟩ := And.intro hbk.hn.slice (And.intro hbk.ht.slice hbk.hb.slice)
  refine hK _ _ ?_
  clear hK K
  have HX5' := Lib.hid (HX4.out.below hb)
  have HB5' : Hid (Below w.heap.size w w5) := HB4.out.trans (hb.mono HB4.out.size)
  have HK5' := Lib.hid (HK4.out.on hb)
  have HT5' := Lib.hid (HXT.out.below hb)
  have HL5' := Lib.hid hbk
  have HC3 : Hid (chkB c3 = true) := hfi.1
  have HZ3 : Hid ((planV c3).length = 0) := hfi.2.1
  have HRL : Hid (r = 0 → c1.bs.length ≤ c3.bs.length) := fun h => by have h1 := HFR.out h; have h2 := hfi.2.2.2 h1.2; omega
  clear hb hdn hfi hbk HX4 HB4 HK4 HXT HXC HKC HFR HC2
  refine wpList_plain rfl fun K hK => ?_
  go_simp
  refine hK _ _ ?_
  clear hK K
  refine wpList_plain rfl fun K hK => ?_
  go_simp
  refine hK _ _ ?_
  clear hK K
  refine wpList_plain rfl fun K hK => ?_
  go_simp
  refine hK _ _ ?_
  clear hK K
  refine wpList_plain rfl fun K hK => ?_
  go_simp
  refine hK _ _ ?_
  clear hK K
  obtain ⟨th1, hbz, hx1⟩ := one_made w5 [.slice none 0 0, .slice none 0 0, .slice none 0 0, .int .u64 0] [.slice a5 c3.ns.length d5, .slice g5 c3.ts.length h5, .slice p5 c3.bs.length q5, .int .u64 (c3.fe : Nat)] 27 rfl
  refine wpList_store_mid rfl 27 (.tmp 9) (.tmp 41) rfl (w5.heap.size) 0 #[.slice a5 c3.ns.length d5, .slice g5 c3.ts.length h5, .slice p5 c3.bs.length q5, .int .u64 (c3.fe : Nat)] rfl rfl th1 rfl (all_oneCell_toArray (List.all_eq_true.1 (show List.all ([.slice a5 c3.ns.length d5, .slice g5 c3.ts.length h5, .slice p5 c3.bs.length q5, .int .u64 (c3.fe : Nat)] : List Value) (fun v => v.oneCell') = true from rfl))) ?_
  rw [show (#[.slice a5 c3.ns.length d5, .slice g5 c3.ts.length h5, .slice p5 c3.bs.length q5, .int .u64 (c3.fe : Nat)] : Array Value).toList = [.slice a5 c3.ns.length d5, .slice g5 c3.ts.length h5, .slice p5 c3.bs.length q5, .int .u64 (c3.fe : Nat)] from rfl]
  clear th1
  generalize (w5.alloc (.cells #[.slice none 0 0, .slice none 0 0, .slice none 0 0, .int .u64 0] 27)).setCells w5.heap.size 0 [.slice a5 c3.ns.length d5, .slice g5 c3.ts.length h5, .slice p5 c3.bs.length q5, .int .u64 (c3.fe : Nat)] = z5 at *
  have HX5 := Lib.hid (HX5'.out.below hbz)
  have HB5 : Hid (Below w.heap.size w z5) := HB5'.out.trans (hbz.mono HB5'.out.size)
  have HK5 := Lib.hid (HK5'.out.on hbz)
  have HT5 := Lib.hid (HT5'.out.below hbz)
  have HL5 := Lib.hid (HL5'.out.on hbz)
  have HX9 := Lib.hid hx1
  clear hbz hx1 HX5' HB5' HK5' HT5' HL5'
  refine wpList_plain rfl fun K hK => ?_
  go_simp
  refine hK _ _ ?_
  clear hK K
  refine wpList_nil ?_
  obtain ⟨z6, hz6⟩ : ∃ z6, z6 = z5.alloc (.cells #[.slice a1 c1.ns.length d1, .slice g1 c1.ts.length h1, .slice p1 c1.bs.length q1, .int .u64 (c1.fe : Nat), .slice a5 c3.ns.length d5, .slice g5 c3.ts.length h5, .slice p5 c3.bs.length q5, .int .u64 (c3.fe : Nat)] 27) := ⟨_, rfl⟩
  have HR6 : Hid (Hd.Bxn z6 z5.heap.size [.slice a1 c1.ns.length d1, .slice g1 c1.ts.length h1, .slice p1 c1.bs.length q1, .int .u64 (c1.fe : Nat), .slice a5 c3.ns.length d5, .slice g5 c3.ts.length h5, .slice p5 c3.bs.length q5, .int .u64 (c3.fe : Nat)]) := by rw [hz6]; exact Hd.Bxn.made z5 _ _
  have h56 : Below z5.heap.size z5 z6 := by rw [hz6]; exact al z5 _
  have HZ6 := Lib.hid hz6
  go_upto_region 9 with fail
  refine wp_region_list ?_
  refine wpList_load_mid rfl 27 (.tmp 2) rfl (w.heap.size) (0) rfl [.slice a1 c1.ns.length d1, .slice g1 c1.ts.length h1, .slice p1 c1.bs.length q1, .int .u64 (c1.fe : Nat)] _ (HX5.out.range 0) Tryz.underlying27 rfl rfl ?_
  refine wpList_load_mid rfl 27 (.tmp 9) rfl (w5.heap.size) (0) rfl [.slice a5 c3.ns.length d5, .slice g5 c3.ts.length h5, .slice p5 c3.bs.length q5, .int .u64 (c3.fe : Nat)] _ (HX9.out.range 0) Tryz.underlying27 rfl rfl ?_
  refine wpList_plain rfl fun K hK => ?_
  go_simp
  refine hK _ _ ?_
  clear hK K
  refine wpList_plain rfl fun K hK => ?_
  go_simp
  refine hK _ _ ?_
  clear hK K
  refine wpList_plain rfl fun K hK => ?_
  go_simp
  refine hK _ _ ?_
  clear hK K
  refine wpList_nil ?_
  have HX6 := Lib.hid (HX5.out.below h56)
  have HB6 : Hid (Below w.heap.size w z6) := HB5.out.trans (h56.mono HB5.out.size)
  have HK6 := Lib.hid (HK5.out.on h56)
  have HT6 := Lib.hid (HT5.out.below h56)
  have HL6 := Lib.hid (HL5.out.on h56)
  have HY6 := Lib.hid (HX9.out.below h56)
  clear h56 hz6 HX5 HB5 HK5 HT5 HL5 HX9
  have HROW : Hid (∀ i, i < 2 → ∃ (x : Bk) (a6 g6 p6 : Option Addr) (d6 h6 q6 : Nat), z6.rangeAt z5.heap.size (i * 4) [.slice a6 x.ns.length d6, .slice g6 x.ts.length h6, .slice p6 x.bs.length q6, .int .u64 (x.fe : Nat)] ∧ Books z6 z6.heap.size (.slice a6 x.ns.length d6) (.slice g6 x.ts.length h6) (.slice p6 x.bs.length q6) x ∧ chkB x = true ∧ (planV x).length = 0) := fun i hi => by
    obtain rfl | rfl : i = 0 ∨ i = 1 := by omega
    · exact ⟨c1, a1, g1, p1, d1, h1, q1, rng_mid HR6.out 0 [.slice a1 c1.ns.length d1, .slice g1 c1.ts.length h1, .slice p1 c1.bs.length q1, .int .u64 (c1.fe : Nat)] rfl, HK6.out, HC1.out, HZ1.out⟩
    · exact ⟨c3, a5, g5, p5, d5, h5, q5, rng_mid HR6.out 4 [.slice a5 c3.ns.length d5, .slice g5 c3.ts.length h5, .slice p5 c3.bs.length q5, .int .u64 (c3.fe : Nat)] rfl, HL6.out, HC3.out, HZ3.out⟩
  clear HR6 HK6 HL6 HC1 HZ1 HC3 HZ3
  go_wp2
  rw [← HZ6.out]
  clear HZ6
  go_loopg [47] 2 (fun gg i' wx => ∃ i : Nat, i + gg = 2 ∧ i' = .int .i64 i ∧ Aside (Below z6.heap.size z6 wx))
  case atStart => exact ⟨0, by omega, rfl, Below.refl _ _⟩
  case round =>
    obtain ⟨i, hig, rfl, HA⟩ := hrel
    obtain ⟨s1, rfl⟩ : ∃ q, q = wr := ⟨wr, rfl⟩
    have HU1 : Hid (Below z6.heap.size z6 s1) := HA.out
    clear HA
    cases gk with
    | zero =>
      obtain rfl : i = 2 := by omega
      have HE : Hid (Below w.heap.size w s1) := HB6.out.trans (HU1.out.mono HB6.out.size)
      have n0 : s1.cell? ⟨w4.heap.size + 1, 0, none⟩ = some (.int .i64 (r : Nat)) := (HT6.out.below HU1.out).cell 0
      have n1 : s1.cell? ⟨w5.heap.size, 2, none⟩ = some (.slice p5 c3.bs.length q5) := (HY6.out.below HU1.out).cell 2
      have n2 : s1.cell? ⟨w.heap.size, 2, none⟩ = some (.slice p1 c1.bs.length q1) := (HX6.out.below HU1.out).cell 2
      clear hig HROW HX6 HB6 HT6 HY6 HU1
      by_cases hr : r = 0
      · subst hr
        have t5c : c1.bs.length ≤ c3.bs.length := HRL.out rfl
        have t5 : (c1.bs.length : Int) ≤ (c3.bs.length : Int) := by omega
        have t5b : decide ((c1.bs.length : Int) ≤ (c3.bs.length : Int)) = true := decide_eq_true t5
        clear HRL
        go_wp2
        go_ret
        exact ⟨rfl, HE.out⟩
      · have t6 : ((r : Int) != 0) = true := by simp; omega
        have t6b : ¬ (r : Int) = 0 := by omega
        clear HRL
        go_wp2
        go_ret
        exact ⟨rfl, HE.out⟩
    | succ gg =>
      have t1 : (i : Int) < 2 := by omega
      have t1b : decide ((i : Int) < 2) = true := decide_eq_true t1
      have t3 : IntKind.i64.wrap ((i : Int) + 1) = (i : Int) + 1 := by rw [IntKind.wrap_i64]; omega
      have t4 : (0 : Int) ≤ (i : Int) := by omega
      obtain ⟨x, a6, g6, p6, d6, h6, q6, hrw, hbx, hcx, hzx⟩ := HROW.out i (by omega)
      have hrow : s1.rangeAt z5.heap.size (i * 4) [.slice a6 x.ns.length d6, .slice g6 x.ts.length h6, .slice p6 x.bs.length q6, .int .u64 (x.fe : Nat)] := fun k' u hk => (HU1.out.cell (World.block_lt_of_cell? z6 _ (hrw k' u hk))).trans (hrw k' u hk)
      have HKX := Lib.hid hbx
      have HCX := Lib.hid hcx
      have HWQ : Hid (∀ z, Books z z.heap.size (.slice a6 x.ns.length d6) (.slice g6 x.ts.length h6) (.slice p6 x.bs.length q6) x → Calls Tryz.prog 12 #[.agg #[.slice a6 x.ns.length d6, .slice g6 x.ts.length h6, .slice p6 x.bs.length q6, .int .u64 (x.fe : Nat)]] z fun e w' => ∃ (a : Option Addr) (cp : Nat) (m : List TdM), e = .returned (.tuple #[.slice a m.length cp, .int .i64 0]) ∧ Own w' z.heap.size 42 (.slice a m.length cp) m ∧ m.map (·.td) = wtV x ∧ Below z.heap.size z w') := fun z hz => wait_at hcx _ _ _ z hz
      have HFQ : Hid (∀ t, t ∈ wtV x → ∀ z, Books z z.heap.size (.slice a6 x.ns.length d6) (.slice g6 x.ts.length h6) (.slice p6 x.bs.length q6) x → Calls Tryz.prog 16 #[.agg #[.slice a6 x.ns.length d6, .slice g6 x.ts.length h6, .slice p6 x.bs.length q6, .int .u64 (x.fe : Nat)], .string t.n] z fun e w' => ∃ (a : Option Addr) (cp q : Nat), e = .returned (.tuple #[.slice a 0 cp, .int .i64 (q : Nat)]) ∧ Below z.heap.size z w') := fun t ht z hz => free_at hcx hzx ht _ _ _ z hz
      have HIG := Lib.hid hig
      clear hrw hbx hcx hzx hig
      go_upto_region 11 with fail
      refine wp_region_list ?_
      refine wpList_plain rfl fun K hK => ?_
      go_simp
      refine hK _ _ ?_
      clear hK K
      refine wpList_load_mid rfl 27 (.tmp 49) rfl (z5.heap.size) (i * 4) rfl [.slice a6 x.ns.length d6, .slice g6 x.ts.length h6, .slice p6 x.bs.length q6, .int .u64 (x.fe : Nat)] _ (hrow) Tryz.underlying27 rfl rfl ?_
      refine wpList_plain rfl fun K hK => ?_
      go_simp
      refine hK _ _ ?_
      clear hK K
      obtain ⟨th1, hbz, hx1⟩ := one_made s1 [.slice none 0 0, .slice none 0 0, .slice none 0 0, .int .u64 0] [.slice a6 x.ns.length d6, .slice g6 x.ts.length h6, .slice p6 x.bs.length q6, .int .u64 (x.fe : Nat)] 27 rfl
      refine wpList_store_mid rfl 27 (.tmp 12) (.tmp 50) rfl (s1.heap.size) 0 #[.slice a6 x.ns.length d6, .slice g6 x.ts.length h6, .slice p6 x.bs.length q6, .int .u64 (x.fe : Nat)] rfl rfl th1 rfl (all_oneCell_toArray (List.all_eq_true.1 (show List.all ([.slice a6 x.ns.length d6, .slice g6 x.ts.length h6, .slice p6 x.bs.length q6, .int .u64 (x.fe : Nat)] : List Value) (fun v => v.oneCell') = true from rfl))) ?_
      rw [show (#[.slice a6 x.ns.length d6, .slice g6 x.ts.length h6, .slice p6 x.bs.length q6, .int .u64 (x.fe : Nat)] : Array Value).toList = [.slice a6 x.ns.length d6, .slice g6 x.ts.length h6, .slice p6 x.bs.length q6, .int .u64 (x.fe : Nat)] from rfl]
      clear th1 hrow
      generalize (s1.alloc (.cells #[.slice none 0 0, .slice none 0 0, .slice none 0 0, .int .u64 0] 27)).setCells s1.heap.size 0 [.slice a6 x.ns.length d6, .slice g6 x.ts.length h6, .slice p6 x.bs.length q6, .int .u64 (x.fe : Nat)] = s2 at *
      have HU2 : Hid (Below z6.heap.size z6 s2) := HU1.out.trans (hbz.mono HU1.out.size)
      have HP2 := Lib.hid hx1
      clear hbz hx1 HU1
      refine wpList_nil ?_
      have y0 : s2.cell? ⟨s1.heap.size, 0, none⟩ = some (.slice a6 x.ns.length d6) := HP2.out.cell 0
      have y1 : s2.cell? ⟨s1.heap.size, 1, none⟩ = some (.slice g6 x.ts.length h6) := HP2.out.cell 1
      have y2 : s2.cell? ⟨s1.heap.size, 2, none⟩ = some (.slice p6 x.bs.length q6) := HP2.out.cell 2
      have y3 : s2.cell? ⟨s1.heap.size, 3, none⟩ = some (.int .u64 (x.fe : Nat)) := HP2.out.cell 3
      go_wp2_with fail
      refine (HWQ.out s2 (HKX.out.on HU2.out)).mono ?_
      rintro e s3 ⟨am, cm, m, rfl, hom, hmm, hb⟩
      have HU3 : Hid (Below z6.heap.size z6 s3) := HU2.out.trans (hb.mono HU2.out.size)
      have HP3 := Lib.hid (HP2.out.below hb)
      have HOM := Lib.hid hom
      have HMM := Lib.hid hmm
      have HLM : Hid (m.length ≤ 32) := by have h1 := congrArg List.length hmm; rw [List.length_map] at h1; have h2 := wt_len (rb_of_chk HCX.out); have h3 := (rb_of_chk HCX.out).lt; show _ ≤ _; omega
      clear hb hom hmm y0 y1 y2 y3 HU2 HP2 HWQ
      go_wp2
      clear t1 t1b
      go_loopg [58] m.length (fun gj i' wx => ∃ j : Nat, j + gj = m.length ∧ i' = .int .i64 j ∧ Aside (Below s3.heap.size s3 wx))
      case atStart => exact ⟨0, by omega, rfl, Below.refl _ _⟩
      case round =>
        obtain ⟨j, hjg, rfl, HA⟩ := hrel
        obtain ⟨s4, rfl⟩ : ∃ q, q = wr := ⟨wr, rfl⟩
        have HU4 : Hid (Below s3.heap.size s3 s4) := HA.out
        clear HA
        cases gk with
        | zero =>
          obtain rfl : j = m.length := by omega
          have HE : Hid (Below z6.heap.size z6 s4) := HU3.out.trans (HU4.out.mono HU3.out.size)
          clear hjg HU3 HP3 HOM HMM HLM HU4
          go_wp2
          go_roundg gg
          case measure => omega
          case rel => exact ⟨i + 1, by have := HIG.out; omega, by simp, HE.out⟩
        | succ gj =>
          have hlj : j < m.length := by omega
          have u2 : (j : Int) < (m.length : Int) := by omega
          have u3 : IntKind.i64.wrap ((j : Int) + 1) = (j : Int) + 1 := by rw [IntKind.wrap_i64]; have := HLM.out; omega
          have u4 : (0 : Int) ≤ (j : Int) := by omega
          obtain ⟨g, cap, hv, -, hgl, hat, -⟩ := HOM.out.form (by omega)
          simp only [Value.slice.injEq, true_and] at hv
          obtain ⟨rfl, rfl⟩ := hv
          obtain ⟨t0, t1, t2, t3, t4, t5, t6, t7, t8⟩ := at_td (hat j hlj)
          have HTW : Hid (m[j].td ∈ wtV x) := by show _ ∈ _; rw [← HMM.out]; exact List.mem_map_of_mem (List.getElem_mem hlj)
          generalize m[j] = y at *
          have e0' : s4.cell? ⟨g, j * 9, none⟩ = some (.string y.td.n) := (HU4.out.cell (by exact hgl)).trans t0
          have e1' : s4.cell? ⟨g, j * 9 + 1, none⟩ = some (.int .i64 y.td.z0) := (HU4.out.cell (by exact hgl)).trans t1
          have e2' : s4.cell? ⟨g, j * 9 + 2, none⟩ = some (.int .i64 y.td.z1) := (HU4.out.cell (by exact hgl)).trans t2
          have e3' : s4.cell? ⟨g, j * 9 + 3, none⟩ = some (.int .i64 y.td.z2) := (HU4.out.cell (by exact hgl)).trans t3
          have e4' : s4.cell? ⟨g, j * 9 + 4, none⟩ = some (.slice y.a4 y.td.ws.length y.c4) := (HU4.out.cell (by exact hgl)).trans t4
          have e5' : s4.cell? ⟨g, j * 9 + 5, none⟩ = some (.slice y.a5 y.td.bs.length y.c5) := (HU4.out.cell (by exact hgl)).trans t5
          have e6' : s4.cell? ⟨g, j * 9 + 6, none⟩ = some (.string y.td.g) := (HU4.out.cell (by exact hgl)).trans t6
          have e7' : s4.cell? ⟨g, j * 9 + 7, none⟩ = some (.string y.td.a) := (HU4.out.cell (by exact hgl)).trans t7
          have e8' : s4.cell? ⟨g, j * 9 + 8, none⟩ = some (.int .i64 y.td.r) := (HU4.out.cell (by exact hgl)).trans t8
          have HJG := Lib.hid hjg
          clear t0 t1 t2 t3 t4 t5 t6 t7 t8 hat hgl hjg
          generalize y.td.ws.length = n1 at *
          generalize y.td.bs.length = n2 at *
          obtain ⟨s5, hs5⟩ : ∃ s5, s5 = s4.alloc (.cells #[.string y.td.n, .int .i64 y.td.z0, .int .i64 y.td.z1, .int .i64 y.td.z2, .slice y.a4 n1 y.c4, .slice y.a5 n2 y.c5, .string y.td.g, .string y.td.a, .int .i64 y.td.r] 42) := ⟨_, rfl⟩
          have HTY : Hid (Hd.Bxn s5 s4.heap.size [.string y.td.n, .int .i64 y.td.z0, .int .i64 y.td.z1, .int .i64 y.td.z2, .slice y.a4 n1 y.c4, .slice y.a5 n2 y.c5, .string y.td.g, .string y.td.a, .int .i64 y.td.r]) := by rw [hs5]; exact Hd.Bxn.made s4 _ _
          have HU5 : Hid (Below s3.heap.size s3 s5) := by rw [hs5]; exact HU4.out.alloc HU4.out.size _
          have HWY := Lib.hid hs5
          clear hs5
          go_upto_region 16 with fail
          rw [← HWY.out]
          clear e0' e1' e2' e3' e4' e5' e6' e7' e8' HWY
          have HP5 := Lib.hid (HP3.out.below HU5.out)
          have HV5 : Hid (Below z6.heap.size z6 s5) := HU3.out.trans (HU5.out.mono HU3.out.size)
          have n0 : s5.cell? ⟨s4.heap.size, 0, none⟩ = some (.string y.td.n) := HTY.out.cell 0
          have y0 : s5.cell? ⟨s1.heap.size, 0, none⟩ = some (.slice a6 x.ns.length d6) := HP5.out.cell 0
          have y1 : s5.cell? ⟨s1.heap.size, 1, none⟩ = some (.slice g6 x.ts.length h6) := HP5.out.cell 1
          have y2 : s5.cell? ⟨s1.heap.size, 2, none⟩ = some (.slice p6 x.bs.length q6) := HP5.out.cell 2
          have y3 : s5.cell? ⟨s1.heap.size, 3, none⟩ = some (.int .u64 (x.fe : Nat)) := HP5.out.cell 3
          go_wp2_with fail
          refine (HFQ.out y.td HTW.out s5 (HKX.out.on HV5.out)).mono ?_
          rintro e s6 ⟨a9, c9, q9, rfl, hb⟩
          have HU6 : Hid (Below s3.heap.size s3 s6) := HU5.out.trans (hb.mono HU5.out.size)
          clear hb y0 y1 y2 y3 n0 HP5 HTY HV5 HU5 HU4 HTW
          go_wp2
          go_roundg gj
          case measure => omega
          case rel => exact ⟨j + 1, by have := HJG.out; omega, by simp, HU6.out⟩
theorem tquiet_law (b : Bk) (k : ByteArray) (vb0 : Value) (w : World) (hb : BookArg w vb0 b) (hfk : FitS k) : Calls Tryz.prog 11 #[vb0, .string k] w fun e w' => e = .returned (.bool true) ∧ Below w.heap.size w w' := by
  cases hc : chkB b
  · exact tquiet_no b k vb0 w hb hfk hc
  · exact tquiet_ok b k vb0 w hb hfk hc
end Bo
end Go.Proofs.YthbmnkeigmbbdaaGreat
