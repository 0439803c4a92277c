/-
  A BIND THAT CAN BE: gafferlaw08.BookCan.
-/
import Derived.Test.YtaipbaegbpebkaaGreatBoNames
namespace Go.Proofs.YtaipbaegbpebkaaGreat
open Go.RowKit Go.Lib
namespace Bo
open Rw
set_option linter.unusedVariables false
def oBnd (k v : ByteArray) (fe : Nat) : Hd.Cd := lvO Hd.nd0 Hd.td0 5 k v fe
def oLok (k : ByteArray) : Hd.Cd := lvO Hd.nd0 Hd.td0 7 k ⟨#[]⟩ 0
def oFre (k : ByteArray) : Hd.Cd := lvO Hd.nd0 Hd.td0 6 k ⟨#[]⟩ 0
theorem do_bnd {b : Bk} (h : chkB b = true) (k v : ByteArray) (fe : Nat) : doF b (oBnd k v fe) = ((biB b k v fe).1, (biB b k v fe).2, ByteArray.empty) := by
  unfold doF
  rw [if_pos h]
  unfold doV
  rw [if_pos (show Hd.coB (oBnd k v fe) = true from rfl), if_neg (show ¬ (oBnd k v fe).k = 7 from by show ¬ (5 : Nat) = 7; decide)]
  rfl
theorem do_fre {b : Bk} (h : chkB b = true) (k : ByteArray) : doF b (oFre k) = ((frB b k).1, (frB b k).2, ByteArray.empty) := by
  unfold doF
  rw [if_pos h]
  unfold doV
  rw [if_pos (show Hd.coB (oFre k) = true from rfl), if_neg (show ¬ (oFre k).k = 7 from by show ¬ (6 : Nat) = 7; decide)]
  rfl
theorem do_lok {b : Bk} (h : chkB b = true) (k : ByteArray) : doF b (oLok k) = (b, (lkV b k).1, (lkV b k).2) := by
  unfold doF
  rw [if_pos h]
  unfold doV
  rw [if_pos (show Hd.coB (oLok k) = true from rfl), if_pos (show (oLok k).k = 7 from rfl)]
  rfl
/-- A bind that can be, is; and freed can be again. -/
theorem can_plain (b : Bk) (k v : ByteArray) : (∃ c q, q ≠ 0 ∧ canF b k v = q ∧ doF b (oBnd k v b.fe) = (c, q, ByteArray.empty)) ∨
    (∃ c, canF b k v = 0 ∧ doF b (oBnd k v b.fe) = (c, 0, ByteArray.empty) ∧ doF c (oLok k) = (c, 0, v) ∧ doF c (oFre k) = (b, 0, ByteArray.empty) ∧ canF c k v = 7) := by
  by_cases hc : chkB b = true
  · have hr := rb_of_chk hc
    have hf : canF b k v = canE b k v := by unfold canF; rw [if_pos hc]
    have hnl : ¬ b.fe < b.fe := Nat.lt_irrefl _
    by_cases h0 : canE b k v = 0
    · have hb : biB b k v b.fe = (⟨b.ns, b.ts, insR b.bs (lbB b.bs k) ⟨k, v⟩, b.fe⟩, 0) := by
        unfold biB
        rw [if_neg hnl, if_pos h0]
      refine .inr ⟨⟨b.ns, b.ts, insR b.bs (lbB b.bs k) ⟨k, v⟩, b.fe⟩, by rw [hf, h0], by rw [do_bnd hc, hb], ?_⟩
      have hck := chk_of_rb (hr.bind h0)
      obtain ⟨⟨c1, c2⟩, c3, -⟩ := can0.1 h0
      have hle : lbB b.bs k ≤ b.bs.length := by have := lb_le (b.bs.map (·.k)) k; rw [List.length_map] at this; exact this
      have hin : hsB (insR b.bs (lbB b.bs k) ⟨k, v⟩) k = true := (in_has (f := fun o : Rg.Pr => o.k) k).2 (.inl rfl)
      have hlb : lbB (insR b.bs (lbB b.bs k) ⟨k, v⟩) k = lbB b.bs k := by
        unfold lbB
        rw [insR_map]
        exact lb_ins hr.rb c3
      refine ⟨?_, ?_, ?_⟩
      · rw [do_lok hck]
        unfold lkV
        rw [if_pos (show hsT b.ts k = true from c1)]
        unfold onB
        rw [if_pos hin, hlb]
        unfold insR
        rw [List.getElem?_append_right (by rw [List.length_take]; omega), List.length_take, Nat.min_eq_left hle, Nat.sub_self]
        rfl
      · rw [do_fre hck]
        unfold frB
        rw [if_pos (show hsT b.ts k = true from c1), if_pos hin, hlb, er_ins _ _ _ hle]
      · unfold canF canE
        rw [if_pos hck, if_pos ⟨c1, c2⟩, if_pos (show hasK ((insR b.bs (lbB b.bs k) ⟨k, v⟩).map (·.k)) k = true from hin)]
    · refine .inl ⟨b, canE b k v, h0, hf, ?_⟩
      rw [do_bnd hc]
      unfold biB
      rw [if_neg hnl, if_neg h0]
  · refine .inl ⟨bk0, 10, by decide, ?_, ?_⟩
    · unfold canF; rw [if_neg hc]
    · unfold doF; rw [if_neg hc]
set_option maxRecDepth 100000 in
set_option maxHeartbeats 4000000 in
theorem can_law (b : Bk) (k v : ByteArray) (vb0 : Value) (w : World) (hb : BookArg w vb0 b) (hfk : FitS k) (hfv : FitS v) :
    Calls Tryz.prog 7 #[vb0, .string k, .string v] w fun e w' => e = .returned (.bool true) ∧ Below w.heap.size w w' := by
  obtain ⟨vn, vt, vb, rfl, hB⟩ := hb
  obtain ⟨⟨a0, c0, rfl⟩, ⟨b0, d0, rfl⟩, ⟨e0, f0, rfl⟩⟩ := And.intro hB.hn.slice (And.intro hB.ht.slice hB.hb.slice)
  obtain ⟨W0, hW0⟩ : ∃ W0, W0 = w.alloc (.cells #[.slice a0 (b).ns.length c0, .slice b0 (b).ts.length d0, .slice e0 (b).bs.length f0, .int .u64 ((b).fe : Nat)] 27) := ⟨_, rfl⟩
  have hb0 : Below w.heap.size w W0 := by rw [hW0]; exact al w _
  have hx0 : Hd.Bxn W0 w.heap.size [.slice a0 (b).ns.length c0, .slice b0 (b).ts.length d0, .slice e0 (b).bs.length f0, .int .u64 ((b).fe : Nat)] := by rw [hW0]; exact Hd.Bxn.made w _ _
  have HL : Hid (Calls Tryz.prog 13 #[] W0 fun e w' => e = .returned (.bool true) ∧ Below W0.heap.size W0 w') := lives_any W0
  have HBK : Hid (∀ z, Hid (Below w.heap.size w z) → Hid (Books z z.heap.size (.slice a0 (b).ns.length c0) (.slice b0 (b).ts.length d0) (.slice e0 (b).bs.length f0) (b))) := fun z hz => hB.on hz.out
  have HW := Lib.hid hW0
  have HX0 := Lib.hid hx0
  have HB0 := Lib.hid hb0
  have HFK := Lib.hid hfk
  have HFV := Lib.hid hfv
  have hpl := can_plain b k v
  clear hW0 hx0 hb0 hB hfk hfv
  rcases hpl with ⟨c, q, hq0, hcf, h1⟩ | ⟨c, hcf, h1, h2, h3, hcc⟩
  · have HC1 : Hid (∀ z g1 n1 g2 n2 g3 n3, Hid (Books z z.heap.size (.slice g1 (b).ns.length n1) (.slice g2 (b).ts.length n2) (.slice g3 (b).bs.length n3) (b)) → Calls Tryz.prog 21 #[.agg #[.slice g1 (b).ns.length n1, .slice g2 (b).ts.length n2, .slice g3 (b).bs.length n3, .int .u64 ((b).fe : Nat)], .string k, .string v] z fun e w' => e = .returned (.int .i64 (q : Nat)) ∧ Below z.heap.size z w') := fun z g1 n1 g2 n2 g3 n3 hz => (canq_any (b) _ _ _ k v z hz.out).mono fun e w' ⟨he, hb⟩ => ⟨by rw [hcf] at he; exact he, hb⟩
    have HD1 : Hid (∀ z g1 n1 g2 n2 g3 n3, Hid (Below w.heap.size w z) → Hid (Books z z.heap.size (.slice g1 (b).ns.length n1) (.slice g2 (b).ts.length n2) (.slice g3 (b).bs.length n3) (b)) → Calls Tryz.prog 11 #[.agg #[.slice g1 (b).ns.length n1, .slice g2 (b).ts.length n2, .slice g3 (b).bs.length n3, .int .u64 ((b).fe : Nat)], .agg #[.int .u8 5, .string ⟨#[]⟩, .int .i64 0, .int .i64 0, .int .i64 0, .slice none 0 0, .slice none 0 0, .string ⟨#[]⟩, .int .i64 0, .int .i64 0, .int .i64 0, .slice none 0 0, .slice none 0 0, .string ⟨#[]⟩, .string ⟨#[]⟩, .int .i64 0, .string k, .string v, .int .u64 (b.fe : Nat)]] z fun e w' => ∃ vn' vt' vb', e = .returned (.tuple #[.agg #[vn', vt', vb', .int .u64 ((c).fe : Nat)], .agg #[.int .i64 (q : Nat), .string ⟨#[]⟩]]) ∧ Kept z w' (c) vn' vt' vb' ∧ Below z.heap.size z w') := fun z g1 n1 g2 n2 g3 n3 hwz hz => do_use (b) (c) _ _ _ _ _ (oBnd k v b.fe) none none none none 0 0 0 0 z hz.out (deepN0 z _ rfl rfl) fitN0 (deepT0 z _ rfl rfl) fitT0 ⟨HFK.out, HFV.out⟩ h1
    have t5 : ((q : Int) != 0) = true := by simp; omega
    have t6 : ¬ (q : Int) = 0 := by omega
    clear h1 hcf
    go_enter Tryz.func7, Tryz.ntmps7
    go_upto_region 1 with fail
    rw [← HW.out]
    go_wp2_with fail
    refine HL.out.mono ?_
    rintro e w1 ⟨rfl, hb⟩
    have HP1 := Lib.hid (HX0.out.below hb)
    have HB1 : Hid (Below w.heap.size w w1) := HB0.out.trans (hb.mono HB0.out.size)
    clear hb HX0 HL HB0
    have p0 : w1.cell? ⟨w.heap.size, 0, none⟩ = some (.slice a0 (b).ns.length c0) := HP1.out.cell 0
    have p1 : w1.cell? ⟨w.heap.size, 1, none⟩ = some (.slice b0 (b).ts.length d0) := HP1.out.cell 1
    have p2 : w1.cell? ⟨w.heap.size, 2, none⟩ = some (.slice e0 (b).bs.length f0) := HP1.out.cell 2
    have p3 : w1.cell? ⟨w.heap.size, 3, none⟩ = some (.int .u64 ((b).fe : Nat)) := HP1.out.cell 3
    go_wp2_with fail
    refine (HC1.out w1 _ _ _ _ _ _ (HBK.out w1 HB1)).mono ?_
    rintro e w2 ⟨rfl, hb⟩
    have HP := Lib.hid (HP1.out.below hb)
    have HB2 : Hid (Below w.heap.size w w2) := HB1.out.trans (hb.mono HB1.out.size)
    clear hb p0 p1 p2 p3 HP1 HB1
    go_upto_region 4 with fail
    refine wp_region_list ?_
    refine wpList_load_mid rfl 27 (.tmp 3) rfl (w.heap.size) (0) rfl [.slice a0 (b).ns.length c0, .slice b0 (b).ts.length d0, .slice e0 (b).bs.length f0, .int .u64 ((b).fe : Nat)] _ (HP.out.range 0) Tryz.underlying27 rfl rfl ?_
    refine wpList_plain rfl fun K hK => ?_
    go_simp
    refine hK _ _ ?_
    clear hK K
    refine wpList_plain rfl fun K hK => ?_
    go_simp
    refine hK _ _ ?_
    clear hK K
    refine wpList_plain rfl fun K hK => ?_
    go_simp
    refine hK _ _ ?_
    clear hK K
    have k3 : w2.cell? ⟨w.heap.size, 3, none⟩ = some (.int .u64 ((b).fe : Nat)) := HP.out.cell 3
    refine wpList_plain rfl fun K hK => ?_
    go_simp
    refine hK _ _ ?_
    clear hK K
    clear k3
    refine wpList_plain rfl fun K hK => ?_
    go_simp
    refine hK _ _ ?_
    clear hK K
    refine wpList_plain rfl fun K hK => ?_
    go_wp2_with fail
    refine (HD1.out w2 _ _ _ _ _ _ HB2 (HBK.out _ HB2)).mono ?_
    rintro e x1m ⟨v1, v2, v3, rfl, hkp, hb⟩
    obtain ⟨⟨a1, c1, rfl⟩, ⟨b1, d1, rfl⟩, ⟨e1, f1, rfl⟩⟩ := hkp.slices
    refine hK _ _ ?_
    clear hK K
    have HPm := Lib.hid (HP.out.below hb)
    have HBx1m : Hid (Below w.heap.size w x1m) := HB2.out.trans (hb.mono HB2.out.size)
    have HUx1m : Hid (Below w2.heap.size w2 x1m) := hb
    have HKx1 := Lib.hid hkp
    clear hb hkp
    refine wpList_plain rfl fun K hK => ?_
    go_simp
    refine hK _ _ ?_
    clear hK K
    refine wpList_plain rfl fun K hK => ?_
    go_simp
    refine hK _ _ ?_
    clear hK K
    refine wpList_plain rfl fun K hK => ?_
    go_simp
    refine hK _ _ ?_
    clear hK K
    refine wpList_plain rfl fun K hK => ?_
    go_simp
    refine hK _ _ ?_
    clear hK K
    refine wpList_plain rfl fun K hK => ?_
    go_simp
    refine hK _ _ ?_
    clear hK K
    obtain ⟨th1, th2, hbz, hx1, hx2⟩ := two_made x1m [.slice none 0 0, .slice none 0 0, .slice none 0 0, .int .u64 0] [.int .i64 0, .string ⟨#[]⟩] [.slice a1 (c).ns.length c1, .slice b1 (c).ts.length d1, .slice e1 (c).bs.length f1, .int .u64 ((c).fe : Nat)] [.int .i64 (q : Nat), .string ⟨#[]⟩] 27 40 rfl rfl
    refine wpList_store_mid rfl 27 (.tmp 8) (.tmp 28) rfl (x1m.heap.size) 0 #[.slice a1 (c).ns.length c1, .slice b1 (c).ts.length d1, .slice e1 (c).bs.length f1, .int .u64 ((c).fe : Nat)] rfl rfl th1 rfl (all_oneCell_toArray (List.all_eq_true.1 (show List.all ([.slice a1 (c).ns.length c1, .slice b1 (c).ts.length d1, .slice e1 (c).bs.length f1, .int .u64 ((c).fe : Nat)] : List Value) (fun v => v.oneCell') = true from rfl))) ?_
    rw [show (#[.slice a1 (c).ns.length c1, .slice b1 (c).ts.length d1, .slice e1 (c).bs.length f1, .int .u64 ((c).fe : Nat)] : Array Value).toList = [.slice a1 (c).ns.length c1, .slice b1 (c).ts.length d1, .slice e1 (c).bs.length f1, .int .u64 ((c).fe : Nat)] from rfl]
    refine wpList_store_mid rfl 40 (.tmp 9) (.tmp 29) rfl (x1m.heap.size + 1) 0 #[.int .i64 (q : Nat), .string ⟨#[]⟩] rfl rfl th2 rfl (all_oneCell_toArray (List.all_eq_true.1 (show List.all ([.int .i64 (q : Nat), .string ⟨#[]⟩] : List Value) (fun v => v.oneCell') = true from rfl))) ?_
    rw [show (#[.int .i64 (q : Nat), .string ⟨#[]⟩] : Array Value).toList = [.int .i64 (q : Nat), .string ⟨#[]⟩] from rfl]
    clear th1 th2
    generalize (((x1m.alloc (.cells #[.slice none 0 0, .slice none 0 0, .slice none 0 0, .int .u64 0] 27)).alloc (.cells #[.int .i64 0, .string ⟨#[]⟩] 40)).setCells x1m.heap.size 0 [.slice a1 (c).ns.length c1, .slice b1 (c).ts.length d1, .slice e1 (c).bs.length f1, .int .u64 ((c).fe : Nat)]).setCells (x1m.heap.size + 1) 0 [.int .i64 (q : Nat), .string ⟨#[]⟩] = x1 at *
    refine wpList_nil ?_
    have HP2 := Lib.hid (HPm.out.below hbz)
    clear HP HPm
    have HP := HP2
    clear HP2
    have HBx1 : Hid (Below w.heap.size w x1) := HBx1m.out.trans (hbz.mono HBx1m.out.size)
    have HUx1 : Hid (Below w2.heap.size w2 x1) := HUx1m.out.trans (hbz.mono HUx1m.out.size)
    have HKNx1 := Lib.hid (HKx1.out.keep hbz)
    have HXx1 := Lib.hid hx1
    have HTx1 := Lib.hid hx2
    clear hbz hx1 hx2 HKx1 HBx1m HUx1m
    have t0 : x1.cell? ⟨x1m.heap.size + 1, 0, none⟩ = some (.int .i64 (q : Nat)) := HTx1.out.cell 0
    go_wp2
    go_ret
    exact ⟨rfl, HBx1.out⟩
  · have HC1 : Hid (∀ z g1 n1 g2 n2 g3 n3, Hid (Books z z.heap.size (.slice g1 (b).ns.length n1) (.slice g2 (b).ts.length n2) (.slice g3 (b).bs.length n3) (b)) → Calls Tryz.prog 21 #[.agg #[.slice g1 (b).ns.length n1, .slice g2 (b).ts.length n2, .slice g3 (b).bs.length n3, .int .u64 ((b).fe : Nat)], .string k, .string v] z fun e w' => e = .returned (.int .i64 0) ∧ Below z.heap.size z w') := fun z g1 n1 g2 n2 g3 n3 hz => (canq_any (b) _ _ _ k v z hz.out).mono fun e w' ⟨he, hb⟩ => ⟨by rw [hcf] at he; exact he, hb⟩
    have HC2 : Hid (∀ z g1 n1 g2 n2 g3 n3, Hid (Books z z.heap.size (.slice g1 (c).ns.length n1) (.slice g2 (c).ts.length n2) (.slice g3 (c).bs.length n3) (c)) → Calls Tryz.prog 21 #[.agg #[.slice g1 (c).ns.length n1, .slice g2 (c).ts.length n2, .slice g3 (c).bs.length n3, .int .u64 ((c).fe : Nat)], .string k, .string v] z fun e w' => e = .returned (.int .i64 7) ∧ Below z.heap.size z w') := fun z g1 n1 g2 n2 g3 n3 hz => (canq_any (c) _ _ _ k v z hz.out).mono fun e w' ⟨he, hb⟩ => ⟨by rw [hcc] at he; exact he, hb⟩
    have HD1 : Hid (∀ z g1 n1 g2 n2 g3 n3, Hid (Below w.heap.size w z) → Hid (Books z z.heap.size (.slice g1 (b).ns.length n1) (.slice g2 (b).ts.length n2) (.slice g3 (b).bs.length n3) (b)) → Calls Tryz.prog 11 #[.agg #[.slice g1 (b).ns.length n1, .slice g2 (b).ts.length n2, .slice g3 (b).bs.length n3, .int .u64 ((b).fe : Nat)], .agg #[.int .u8 5, .string ⟨#[]⟩, .int .i64 0, .int .i64 0, .int .i64 0, .slice none 0 0, .slice none 0 0, .string ⟨#[]⟩, .int .i64 0, .int .i64 0, .int .i64 0, .slice none 0 0, .slice none 0 0, .string ⟨#[]⟩, .string ⟨#[]⟩, .int .i64 0, .string k, .string v, .int .u64 (b.fe : Nat)]] z fun e w' => ∃ vn' vt' vb', e = .returned (.tuple #[.agg #[vn', vt', vb', .int .u64 ((c).fe : Nat)], .agg #[.int .i64 0, .string ⟨#[]⟩]]) ∧ Kept z w' (c) vn' vt' vb' ∧ Below z.heap.size z w') := fun z g1 n1 g2 n2 g3 n3 hwz hz => do_use (b) (c) _ _ _ _ _ (oBnd k v b.fe) none none none none 0 0 0 0 z hz.out (deepN0 z _ rfl rfl) fitN0 (deepT0 z _ rfl rfl) fitT0 ⟨HFK.out, HFV.out⟩ h1
    have HD2 : Hid (∀ z g1 n1 g2 n2 g3 n3, Hid (Below w.heap.size w z) → Hid (Books z z.heap.size (.slice g1 (c).ns.length n1) (.slice g2 (c).ts.length n2) (.slice g3 (c).bs.length n3) (c)) → Calls Tryz.prog 11 #[.agg #[.slice g1 (c).ns.length n1, .slice g2 (c).ts.length n2, .slice g3 (c).bs.length n3, .int .u64 ((c).fe : Nat)], .agg #[.int .u8 7, .string ⟨#[]⟩, .int .i64 0, .int .i64 0, .int .i64 0, .slice none 0 0, .slice none 0 0, .string ⟨#[]⟩, .int .i64 0, .int .i64 0, .int .i64 0, .slice none 0 0, .slice none 0 0, .string ⟨#[]⟩, .string ⟨#[]⟩, .int .i64 0, .string k, .string ⟨#[]⟩, .int .u64 0]] z fun e w' => ∃ vn' vt' vb', e = .returned (.tuple #[.agg #[vn', vt', vb', .int .u64 ((c).fe : Nat)], .agg #[.int .i64 0, .string v]]) ∧ Kept z w' (c) vn' vt' vb' ∧ Below z.heap.size z w') := fun z g1 n1 g2 n2 g3 n3 hwz hz => do_use (c) (c) _ _ _ _ _ (oLok k) none none none none 0 0 0 0 z hz.out (deepN0 z _ rfl rfl) fitN0 (deepT0 z _ rfl rfl) fitT0 ⟨HFK.out, fitS0⟩ h2
    have HD3 : Hid (∀ z g1 n1 g2 n2 g3 n3, Hid (Below w.heap.size w z) → Hid (Books z z.heap.size (.slice g1 (c).ns.length n1) (.slice g2 (c).ts.length n2) (.slice g3 (c).bs.length n3) (c)) → Calls Tryz.prog 11 #[.agg #[.slice g1 (c).ns.length n1, .slice g2 (c).ts.length n2, .slice g3 (c).bs.length n3, .int .u64 ((c).fe : Nat)], .agg #[.int .u8 6, .string ⟨#[]⟩, .int .i64 0, .int .i64 0, .int .i64 0, .slice none 0 0, .slice none 0 0, .string ⟨#[]⟩, .int .i64 0, .int .i64 0, .int .i64 0, .slice none 0 0, .slice none 0 0, .string ⟨#[]⟩, .string ⟨#[]⟩, .int .i64 0, .string k, .string ⟨#[]⟩, .int .u64 0]] z fun e w' => ∃ vn' vt' vb', e = .returned (.tuple #[.agg #[vn', vt', vb', .int .u64 ((b).fe : Nat)], .agg #[.int .i64 0, .string ⟨#[]⟩]]) ∧ Kept z w' (b) vn' vt' vb' ∧ Below z.heap.size z w') := fun z g1 n1 g2 n2 g3 n3 hwz hz => do_use (c) (b) _ _ _ _ _ (oFre k) none none none none 0 0 0 0 z hz.out (deepN0 z _ rfl rfl) fitN0 (deepT0 z _ rfl rfl) fitT0 ⟨HFK.out, fitS0⟩ h3
    clear h1 h2 h3 hcf hcc
    go_enter Tryz.func7, Tryz.ntmps7
    go_upto_region 1 with fail
    rw [← HW.out]
    go_wp2_with fail
    refine HL.out.mono ?_
    rintro e w1 ⟨rfl, hb⟩
    have HP1 := Lib.hid (HX0.out.below hb)
    have HB1 : Hid (Below w.heap.size w w1) := HB0.out.trans (hb.mono HB0.out.size)
    clear hb HX0 HL HB0
    have p0 : w1.cell? ⟨w.heap.size, 0, none⟩ = some (.slice a0 (b).ns.length c0) := HP1.out.cell 0
    have p1 : w1.cell? ⟨w.heap.size, 1, none⟩ = some (.slice b0 (b).ts.length d0) := HP1.out.cell 1
    have p2 : w1.cell? ⟨w.heap.size, 2, none⟩ = some (.slice e0 (b).bs.length f0) := HP1.out.cell 2
    have p3 : w1.cell? ⟨w.heap.size, 3, none⟩ = some (.int .u64 ((b).fe : Nat)) := HP1.out.cell 3
    go_wp2_with fail
    refine (HC1.out w1 _ _ _ _ _ _ (HBK.out w1 HB1)).mono ?_
    rintro e w2 ⟨rfl, hb⟩
    have HP := Lib.hid (HP1.out.below hb)
    have HB2 : Hid (Below w.heap.size w w2) := HB1.out.trans (hb.mono HB1.out.size)
    clear hb p0 p1 p2 p3 HP1 HB1
    go_upto_region 4 with fail
    refine wp_region_list ?_
    refine wpList_load_mid rfl 27 (.tmp 3) rfl (w.heap.size) (0) rfl [.slice a0 (b).ns.length c0, .slice b0 (b).ts.length d0, .slice e0 (b).bs.length f0, .int .u64 ((b).fe : Nat)] _ (HP.out.range 0) Tryz.underlying27 rfl rfl ?_
    refine wpList_plain rfl fun K hK => ?_
    go_simp
    refine hK _ _ ?_
    clear hK K
    refine wpList_plain rfl fun K hK => ?_
    go_simp
    refine hK _ _ ?_
    clear hK K
    refine wpList_plain rfl fun K hK => ?_
    go_simp
    refine hK _ _ ?_
    clear hK K
    have k3 : w2.cell? ⟨w.heap.size, 3, none⟩ = some (.int .u64 ((b).fe : Nat)) := HP.out.cell 3
    refine wpList_plain rfl fun K hK => ?_
    go_simp
    refine hK _ _ ?_
    clear hK K
    clear k3
    refine wpList_plain rfl fun K hK => ?_
    go_simp
    refine hK _ _ ?_
    clear hK K
    refine wpList_plain rfl fun K hK => ?_
    go_wp2_with fail
    refine (HD1.out w2 _ _ _ _ _ _ HB2 (HBK.out _ HB2)).mono ?_
    rintro e x1m ⟨v1, v2, v3, rfl, hkp, hb⟩
    obtain ⟨⟨a1, c1, rfl⟩, ⟨b1, d1, rfl⟩, ⟨e1, f1, rfl⟩⟩ := hkp.slices
    refine hK _ _ ?_
    clear hK K
    have HPm := Lib.hid (HP.out.below hb)
    have HBx1m : Hid (Below w.heap.size w x1m) := HB2.out.trans (hb.mono HB2.out.size)
    have HUx1m : Hid (Below w2.heap.size w2 x1m) := hb
    have HKx1 := Lib.hid hkp
    clear hb hkp
    refine wpList_plain rfl fun K hK => ?_
    go_simp
    refine hK _ _ ?_
    clear hK K
    refine wpList_plain rfl fun K hK => ?_
    go_simp
    refine hK _ _ ?_
    clear hK K
    refine wpList_plain rfl fun K hK => ?_
    go_simp
    refine hK _ _ ?_
    clear hK K
    refine wpList_plain rfl fun K hK => ?_
    go_simp
    refine hK _ _ ?_
    clear hK K
    refine wpList_plain rfl fun K hK => ?_
    go_simp
    refine hK _ _ ?_
    clear hK K
    obtain ⟨th1, th2, hbz, hx1, hx2⟩ := two_made x1m [.slice none 0 0, .slice none 0 0, .slice none 0 0, .int .u64 0] [.int .i64 0, .string ⟨#[]⟩] [.slice a1 (c).ns.length c1, .slice b1 (c).ts.length d1, .slice e1 (c).bs.length f1, .int .u64 ((c).fe : Nat)] [.int .i64 0, .string ⟨#[]⟩] 27 40 rfl rfl
    refine wpList_store_mid rfl 27 (.tmp 8) (.tmp 28) rfl (x1m.heap.size) 0 #[.slice a1 (c).ns.length c1, .slice b1 (c).ts.length d1, .slice e1 (c).bs.length f1, .int .u64 ((c).fe : Nat)] rfl rfl th1 rfl (all_oneCell_toArray (List.all_eq_true.1 (show List.all ([.slice a1 (c).ns.length c1, .slice b1 (c).ts.length d1, .slice e1 (c).bs.length f1, .int .u64 ((c).fe : Nat)] : List Value) (fun v => v.oneCell') = true from rfl))) ?_
    rw [show (#[.slice a1 (c).ns.length c1, .slice b1 (c).ts.length d1, .slice e1 (c).bs.length f1, .int .u64 ((c).fe : Nat)] : Array Value).toList = [.slice a1 (c).ns.length c1, .slice b1 (c).ts.length d1, .slice e1 (c).bs.length f1, .int .u64 ((c).fe : Nat)] from rfl]
    refine wpList_store_mid rfl 40 (.tmp 9) (.tmp 29) rfl (x1m.heap.size + 1) 0 #[.int .i64 0, .string ⟨#[]⟩] rfl rfl th2 rfl (all_oneCell_toArray (List.all_eq_true.1 (show List.all ([.int .i64 0, .string ⟨#[]⟩] : List Value) (fun v => v.oneCell') = true from rfl))) ?_
    rw [show (#[.int .i64 0, .string ⟨#[]⟩] : Array Value).toList = [.int .i64 0, .string ⟨#[]⟩] from rfl]
    clear th1 th2
    generalize (((x1m.alloc (.cells #[.slice none 0 0, .slice none 0 0, .slice none 0 0, .int .u64 0] 27)).alloc (.cells #[.int .i64 0, .string ⟨#[]⟩] 40)).setCells x1m.heap.size 0 [.slice a1 (c).ns.length c1, .slice b1 (c).ts.length d1, .slice e1 (c).bs.length f1, .int .u64 ((c).fe : Nat)]).setCells (x1m.heap.size + 1) 0 [.int .i64 0, .string ⟨#[]⟩] = x1 at *
    refine wpList_nil ?_
    have HP2 := Lib.hid (HPm.out.below hbz)
    clear HP HPm
    have HP := HP2
    clear HP2
    have HBx1 : Hid (Below w.heap.size w x1) := HBx1m.out.trans (hbz.mono HBx1m.out.size)
    have HUx1 : Hid (Below w2.heap.size w2 x1) := HUx1m.out.trans (hbz.mono HUx1m.out.size)
    have HKNx1 := Lib.hid (HKx1.out.keep hbz)
    have HXx1 := Lib.hid hx1
    have HTx1 := Lib.hid hx2
    clear hbz hx1 hx2 HKx1 HBx1m HUx1m
    go_upto_region 7 with fail
    refine wp_region_list ?_
    refine wpList_load_mid rfl 27 (.tmp 8) rfl (x1m.heap.size) (0) rfl [.slice a1 (c).ns.length c1, .slice b1 (c).ts.length d1, .slice e1 (c).bs.length f1, .int .u64 ((c).fe : Nat)] _ (HXx1.out.range 0) Tryz.underlying27 rfl rfl ?_
    refine wpList_plain rfl fun K hK => ?_
    go_simp
    refine hK _ _ ?_
    clear hK K
    refine wpList_plain rfl fun K hK => ?_
    go_simp
    refine hK _ _ ?_
    clear hK K
    refine wpList_plain rfl fun K hK => ?_
    go_wp2_with fail
    refine (HD2.out x1 _ _ _ _ _ _ HBx1 HKNx1.out.books).mono ?_
    rintro e x2m ⟨v1, v2, v3, rfl, hkp, hb⟩
    obtain ⟨⟨a2, c2, rfl⟩, ⟨b2, d2, rfl⟩, ⟨e2, f2, rfl⟩⟩ := hkp.slices
    refine hK _ _ ?_
    clear hK K
    have HPm := Lib.hid (HP.out.below hb)
    have HXx1m := Lib.hid (HXx1.out.below hb)
    have HTx1m := Lib.hid (HTx1.out.below hb)
    have HBx2m : Hid (Below w.heap.size w x2m) := HBx1.out.trans (hb.mono HBx1.out.size)
    have HUx2m : Hid (Below x1.heap.size x1 x2m) := hb
    have HKx2 := Lib.hid hkp
    clear hb hkp
    refine wpList_plain rfl fun K hK => ?_
    go_simp
    refine hK _ _ ?_
    clear hK K
    refine wpList_plain rfl fun K hK => ?_
    go_simp
    refine hK _ _ ?_
    clear hK K
    refine wpList_plain rfl fun K hK => ?_
    go_simp
    refine hK _ _ ?_
    clear hK K
    refine wpList_plain rfl fun K hK => ?_
    go_simp
    refine hK _ _ ?_
    clear hK K
    refine wpList_plain rfl fun K hK => ?_
    go_simp
    refine hK _ _ ?_
    clear hK K
    obtain ⟨th1, th2, hbz, hx1, hx2⟩ := two_made x2m [.slice none 0 0, .slice none 0 0, .slice none 0 0, .int .u64 0] [.int .i64 0, .string ⟨#[]⟩] [.slice a2 (c).ns.length c2, .slice b2 (c).ts.length d2, .slice e2 (c).bs.length f2, .int .u64 ((c).fe : Nat)] [.int .i64 0, .string v] 27 40 rfl rfl
    refine wpList_store_mid rfl 27 (.tmp 10) (.tmp 41) rfl (x2m.heap.size) 0 #[.slice a2 (c).ns.length c2, .slice b2 (c).ts.length d2, .slice e2 (c).bs.length f2, .int .u64 ((c).fe : Nat)] rfl rfl th1 rfl (all_oneCell_toArray (List.all_eq_true.1 (show List.all ([.slice a2 (c).ns.length c2, .slice b2 (c).ts.length d2, .slice e2 (c).bs.length f2, .int .u64 ((c).fe : Nat)] : List Value) (fun v => v.oneCell') = true from rfl))) ?_
    rw [show (#[.slice a2 (c).ns.length c2, .slice b2 (c).ts.length d2, .slice e2 (c).bs.length f2, .int .u64 ((c).fe : Nat)] : Array Value).toList = [.slice a2 (c).ns.length c2, .slice b2 (c).ts.length d2, .slice e2 (c).bs.length f2, .int .u64 ((c).fe : Nat)] from rfl]
    refine wpList_store_mid rfl 40 (.tmp 11) (.tmp 42) rfl (x2m.heap.size + 1) 0 #[.int .i64 0, .string v] rfl rfl th2 rfl (all_oneCell_toArray (List.all_eq_true.1 (show List.all ([.int .i64 0, .string v] : List Value) (fun v => v.oneCell') = true from rfl))) ?_
    rw [show (#[.int .i64 0, .string v] : Array Value).toList = [.int .i64 0, .string v] from rfl]
    clear th1 th2
    generalize (((x2m.alloc (.cells #[.slice none 0 0, .slice none 0 0, .slice none 0 0, .int .u64 0] 27)).alloc (.cells #[.int .i64 0, .string ⟨#[]⟩] 40)).setCells x2m.heap.size 0 [.slice a2 (c).ns.length c2, .slice b2 (c).ts.length d2, .slice e2 (c).bs.length f2, .int .u64 ((c).fe : Nat)]).setCells (x2m.heap.size + 1) 0 [.int .i64 0, .string v] = x2 at *
    refine wpList_nil ?_
    have HP2 := Lib.hid (HPm.out.below hbz)
    clear HP HPm
    have HP := HP2
    clear HP2
    have HXx12 := Lib.hid (HXx1m.out.below hbz)
    clear HXx1 HXx1m
    have HXx1 := HXx12
    clear HXx12
    have HTx12 := Lib.hid (HTx1m.out.below hbz)
    clear HTx1 HTx1m
    have HTx1 := HTx12
    clear HTx12
    have HBx2 : Hid (Below w.heap.size w x2) := HBx2m.out.trans (hbz.mono HBx2m.out.size)
    have HUx2 : Hid (Below x1.heap.size x1 x2) := HUx2m.out.trans (hbz.mono HUx2m.out.size)
    have HKNx2 := Lib.hid (HKx2.out.keep hbz)
    have HXx2 := Lib.hid hx1
    have HTx2 := Lib.hid hx2
    clear hbz hx1 hx2 HKx2 HBx2m HUx2m
    have HKM := Lib.hid (HKNx1.out.books.on HUx2.out)
    clear HD2 HKNx1 HKNx2 HXx2 HUx1 HUx2
    go_upto_region 8 with fail
    refine wp_region_list ?_
    refine wpList_load_mid rfl 27 (.tmp 8) rfl (x1m.heap.size) (0) rfl [.slice a1 (c).ns.length c1, .slice b1 (c).ts.length d1, .slice e1 (c).bs.length f1, .int .u64 ((c).fe : Nat)] _ (HXx1.out.range 0) Tryz.underlying27 rfl rfl ?_
    refine wpList_plain rfl fun K hK => ?_
    go_simp
    refine hK _ _ ?_
    clear hK K
    refine wpList_plain rfl fun K hK => ?_
    go_simp
    refine hK _ _ ?_
    clear hK K
    refine wpList_plain rfl fun K hK => ?_
    go_wp2_with fail
    refine (HD3.out x2 _ _ _ _ _ _ HBx2 HKM).mono ?_
    rintro e x3m ⟨v1, v2, v3, rfl, hkp, hb⟩
    obtain ⟨⟨a3, c3, rfl⟩, ⟨b3, d3, rfl⟩, ⟨e3, f3, rfl⟩⟩ := hkp.slices
    refine hK _ _ ?_
    clear hK K
    have HPm := Lib.hid (HP.out.below hb)
    have HXx1m := Lib.hid (HXx1.out.below hb)
    have HTx1m := Lib.hid (HTx1.out.below hb)
    have HTx2m := Lib.hid (HTx2.out.below hb)
    have HBx3m : Hid (Below w.heap.size w x3m) := HBx2.out.trans (hb.mono HBx2.out.size)
    have HUx3m : Hid (Below x2.heap.size x2 x3m) := hb
    have HKx3 := Lib.hid hkp
    clear hb hkp
    refine wpList_plain rfl fun K hK => ?_
    go_simp
    refine hK _ _ ?_
    clear hK K
    refine wpList_plain rfl fun K hK => ?_
    go_simp
    refine hK _ _ ?_
    clear hK K
    refine wpList_plain rfl fun K hK => ?_
    go_simp
    refine hK _ _ ?_
    clear hK K
    refine wpList_plain rfl fun K hK => ?_
    go_simp
    refine hK _ _ ?_
    clear hK K
    refine wpList_plain rfl fun K hK => ?_
    go_simp
    refine hK _ _ ?_
    clear hK K
    obtain ⟨th1, th2, hbz, hx1, hx2⟩ := two_made x3m [.slice none 0 0, .slice none 0 0, .slice none 0 0, .int .u64 0] [.int .i64 0, .string ⟨#[]⟩] [.slice a3 (b).ns.length c3, .slice b3 (b).ts.length d3, .slice e3 (b).bs.length f3, .int .u64 ((b).fe : Nat)] [.int .i64 0, .string ⟨#[]⟩] 27 40 rfl rfl
    refine wpList_store_mid rfl 27 (.tmp 12) (.tmp 48) rfl (x3m.heap.size) 0 #[.slice a3 (b).ns.length c3, .slice b3 (b).ts.length d3, .slice e3 (b).bs.length f3, .int .u64 ((b).fe : Nat)] rfl rfl th1 rfl (all_oneCell_toArray (List.all_eq_true.1 (show List.all ([.slice a3 (b).ns.length c3, .slice b3 (b).ts.length d3, .slice e3 (b).bs.length f3, .int .u64 ((b).fe : Nat)] : List Value) (fun v => v.oneCell') = true from rfl))) ?_
    rw [show (#[.slice a3 (b).ns.length c3, .slice b3 (b).ts.length d3, .slice e3 (b).bs.length f3, .int .u64 ((b).fe : Nat)] : Array Value).toList = [.slice a3 (b).ns.length c3, .slice b3 (b).ts.length d3, .slice e3 (b).bs.length f3, .int .u64 ((b).fe : Nat)] from rfl]
    refine wpList_store_mid rfl 40 (.tmp 13) (.tmp 49) rfl (x3m.heap.size + 1) 0 #[.int .i64 0, .string ⟨#[]⟩] rfl rfl th2 rfl (all_oneCell_toArray (List.all_eq_true.1 (show List.all ([.int .i64 0, .string ⟨#[]⟩] : List Value) (fun v => v.oneCell') = true from rfl))) ?_
    rw [show (#[.int .i64 0, .string ⟨#[]⟩] : Array Value).toList = [.int .i64 0, .string ⟨#[]⟩] from rfl]
    clear th1 th2
    generalize (((x3m.alloc (.cells #[.slice none 0 0, .slice none 0 0, .slice none 0 0, .int .u64 0] 27)).alloc (.cells #[.int .i64 0, .string ⟨#[]⟩] 40)).setCells x3m.heap.size 0 [.slice a3 (b).ns.length c3, .slice b3 (b).ts.length d3, .slice e3 (b).bs.length f3, .int .u64 ((b).fe : Nat)]).setCells (x3m.heap.size + 1) 0 [.int .i64 0, .string ⟨#[]⟩] = x3 at *
    refine wpList_nil ?_
    have HP2 := Lib.hid (HPm.out.below hbz)
    clear HP HPm
    have HP := HP2
    clear HP2
    have HXx12 := Lib.hid (HXx1m.out.below hbz)
    clear HXx1 HXx1m
    have HXx1 := HXx12
    clear HXx12
    have HTx12 := Lib.hid (HTx1m.out.below hbz)
    clear HTx1 HTx1m
    have HTx1 := HTx12
    clear HTx12
    have HTx22 := Lib.hid (HTx2m.out.below hbz)
    clear HTx2 HTx2m
    have HTx2 := HTx22
    clear HTx22
    have HBx3 : Hid (Below w.heap.size w x3) := HBx3m.out.trans (hbz.mono HBx3m.out.size)
    have HUx3 : Hid (Below x2.heap.size x2 x3) := HUx3m.out.trans (hbz.mono HUx3m.out.size)
    have HKNx3 := Lib.hid (HKx3.out.keep hbz)
    have HXx3 := Lib.hid hx1
    have HTx3 := Lib.hid hx2
    clear hbz hx1 hx2 HKx3 HBx3m HUx3m
    have HKM3 := Lib.hid (HKM.out.on HUx3.out)
    have u0 : x3.cell? ⟨x1m.heap.size + 1, 0, none⟩ = some (.int .i64 0) := HTx1.out.cell 0
    have u1 : x3.cell? ⟨x2m.heap.size + 1, 1, none⟩ = some (.string v) := HTx2.out.cell 1
    have p0 : x3.cell? ⟨x1m.heap.size, 0, none⟩ = some (.slice a1 (c).ns.length c1) := HXx1.out.cell 0
    have p1 : x3.cell? ⟨x1m.heap.size, 1, none⟩ = some (.slice b1 (c).ts.length d1) := HXx1.out.cell 1
    have p2 : x3.cell? ⟨x1m.heap.size, 2, none⟩ = some (.slice e1 (c).bs.length f1) := HXx1.out.cell 2
    have p3 : x3.cell? ⟨x1m.heap.size, 3, none⟩ = some (.int .u64 ((c).fe : Nat)) := HXx1.out.cell 3
    clear HTx1 HTx2 HXx1 HKM
    go_wp2_with fail
    refine (HC2.out x3 _ _ _ _ _ _ HKM3).mono ?_
    rintro e w4 ⟨rfl, hb⟩
    have HP4 := Lib.hid (HP.out.below hb)
    have HD4 := Lib.hid (HXx3.out.below hb)
    have HB4 : Hid (Below w.heap.size w w4) := HBx3.out.trans (hb.mono HBx3.out.size)
    have HKD := Lib.hid (HKNx3.out.books.on hb)
    have u3 : w4.cell? ⟨x3m.heap.size + 1, 0, none⟩ = some (.int .i64 0) := (HTx3.out.below hb).cell 0
    clear hb u0 u1 p0 p1 p2 p3 HP HXx3 HTx3 HKNx3 HKM3
    have s0 : w4.cell? ⟨x3m.heap.size, 0, none⟩ = some (.slice a3 (b).ns.length c3) := HD4.out.cell 0
    have s1 : w4.cell? ⟨x3m.heap.size, 1, none⟩ = some (.slice b3 (b).ts.length d3) := HD4.out.cell 1
    have s2 : w4.cell? ⟨x3m.heap.size, 2, none⟩ = some (.slice e3 (b).bs.length f3) := HD4.out.cell 2
    have s3 : w4.cell? ⟨x3m.heap.size, 3, none⟩ = some (.int .u64 ((b).fe : Nat)) := HD4.out.cell 3
    have p0 : w4.cell? ⟨w.heap.size, 0, none⟩ = some (.slice a0 (b).ns.length c0) := HP4.out.cell 0
    have p1 : w4.cell? ⟨w.heap.size, 1, none⟩ = some (.slice b0 (b).ts.length d0) := HP4.out.cell 1
    have p2 : w4.cell? ⟨w.heap.size, 2, none⟩ = some (.slice e0 (b).bs.length f0) := HP4.out.cell 2
    have p3 : w4.cell? ⟨w.heap.size, 3, none⟩ = some (.int .u64 ((b).fe : Nat)) := HP4.out.cell 3
    have HSM : Hid (Calls Tryz.prog 14 #[.agg #[.slice a3 (b).ns.length c3, .slice b3 (b).ts.length d3, .slice e3 (b).bs.length f3, .int .u64 ((b).fe : Nat)], .agg #[.slice a0 (b).ns.length c0, .slice b0 (b).ts.length d0, .slice e0 (b).bs.length f0, .int .u64 ((b).fe : Nat)]] w4 fun e w' => e = .returned (.bool true) ∧ Below w4.heap.size w4 w') := same_true b _ _ _ _ _ _ w4 HKD.out (HBK.out w4 HB4).out
    go_wp2_with fail
    refine HSM.out.mono ?_
    rintro e w5 ⟨rfl, hb⟩
    have HB5 : Hid (Below w.heap.size w w5) := HB4.out.trans (hb.mono HB4.out.size)
    have HKD5 := Lib.hid (HKD.out.on hb)
    have HD5 := Lib.hid (HD4.out.below hb)
    clear hb u3 s0 s1 s2 s3 p0 p1 p2 p3 HD4 HP4 HSM
    have s0 : w5.cell? ⟨x3m.heap.size, 0, none⟩ = some (.slice a3 (b).ns.length c3) := HD5.out.cell 0
    have s1 : w5.cell? ⟨x3m.heap.size, 1, none⟩ = some (.slice b3 (b).ts.length d3) := HD5.out.cell 1
    have s2 : w5.cell? ⟨x3m.heap.size, 2, none⟩ = some (.slice e3 (b).bs.length f3) := HD5.out.cell 2
    have s3 : w5.cell? ⟨x3m.heap.size, 3, none⟩ = some (.int .u64 ((b).fe : Nat)) := HD5.out.cell 3
    go_wp2_with fail
    refine (HC1.out w5 _ _ _ _ _ _ HKD5).mono ?_
    rintro e w6 ⟨rfl, hb⟩
    have HE : Hid (Below w.heap.size w w6) := HB5.out.trans (hb.mono HB5.out.size)
    clear hb s0 s1 s2 s3
    go_wp2
    go_ret
    exact ⟨rfl, HE.out⟩
end Bo
end Go.Proofs.YtaipbaegbpebkaaGreat
