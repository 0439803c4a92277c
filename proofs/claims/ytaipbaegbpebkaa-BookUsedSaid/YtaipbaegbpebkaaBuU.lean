/-
  Merged: BoUsedP, BoUsedL, BoUsedM, BoUsedN.
-/
import Derived.Test.YtaipbaegbpebkaaBoUsedQ
import Derived.Test.YtaipbaegbpebkaaBgZ
import Derived.Test.YtaipbaegbpebkaaBoArg
import Derived.Deep.LoopGhost
/-
  WHAT A BIND ADDS TO WHAT IS USED (gafferlaw08.BookUsed), as plain data.
-/
namespace Go.Proofs.Ytaipbaegbpebkaa
open Go.RowKit Go.Lib
namespace Bo
open Rw
set_option linter.unusedVariables false
def oBu (k v : ByteArray) (fe : Nat) : Hd.Cd := lvO Hd.nd0 Hd.td0 5 k v fe
theorem do_bu {b : Bk} (h : chkB b = true) (k v : ByteArray) (fe : Nat) : doF b (oBu k v fe) = ((biB b k v fe).1, (biB b k v fe).2, ByteArray.empty) := by
  unfold doF
  rw [if_pos h]
  unfold doV
  rw [if_pos (show Hd.coB (oBu k v fe) = true from rfl), if_neg (show ¬ (oBu k v fe).k = 7 from by show ¬ (5 : Nat) = 7; decide)]
  rfl
/-- What the tasks of a name need, as the law adds it up. -/
def adI (f : Hd.Td → Int) (ts : List Hd.Td) (k : ByteArray) : Int := sumI f (ts.filter (fun t => decide (t.n = k)))
theorem adI_yes (f : Hd.Td → Int) (ts : List Hd.Td) (k : ByteArray) (j : Nat) (h : j < ts.length) (hk : ts[j].n = k) : adI f (ts.take (j + 1)) k = adI f (ts.take j) k + f ts[j] := by
  unfold adI
  rw [List.take_succ_eq_append_getElem h, List.filter_append, sumI_app]
  simp [hk, sumI]
theorem adI_no (f : Hd.Td → Int) (ts : List Hd.Td) (k : ByteArray) (j : Nat) (h : j < ts.length) (hk : ¬ ts[j].n = k) : adI f (ts.take (j + 1)) k = adI f (ts.take j) k := by
  unfold adI
  rw [List.take_succ_eq_append_getElem h, List.filter_append, sumI_app]
  simp [hk, sumI]
theorem adI_none (f : Hd.Td → Int) : ∀ (ts : List Hd.Td) (k : ByteArray), (∀ t ∈ ts, t.n ≠ k) → adI f ts k = 0
  | [], _, _ => rfl
  | t :: r, k, h => by
    unfold adI
    rw [List.filter_cons_of_neg (by simpa using h t (List.mem_cons_self ..))]
    exact adI_none f r k (fun u hu => h u (List.mem_cons_of_mem _ hu))
theorem adI_one (f : Hd.Td → Int) : ∀ (ts : List Hd.Td), Ris (ts.map (·.n)) → ∀ x ∈ ts, adI f ts x.n = f x
  | [], _, x, hx => by cases hx
  | t :: r, hr, x, hx => by
    rw [List.map_cons] at hr
    obtain ⟨h1, h2⟩ := List.pairwise_cons.1 hr
    rcases List.mem_cons.1 hx with rfl | hm
    · unfold adI
      rw [List.filter_cons_of_pos (by simp)]
      have h0 := adI_none f r x.n (fun u hu he => by
        have := h1 u.n (List.mem_map_of_mem hu)
        rw [he, ls_irr] at this
        cases this)
      unfold adI at h0
      simp only [sumI]
      omega
    · have hne : t.n ≠ x.n := fun he => by
        have := h1 x.n (List.mem_map_of_mem hm)
        rw [he, ls_irr] at this
        cases this
      unfold adI
      rw [List.filter_cons_of_neg (by simpa using hne)]
      exact adI_one f r h2 x hm
/-- Refused, or the bind adds just the task's needs. -/
theorem used_plain (b : Bk) (k v : ByteArray) : (∃ c q, doF b (oBu k v b.fe) = (c, q, ByteArray.empty) ∧ (usF b v ≠ 0 ∨ q ≠ 0)) ∨
    (∃ c, doF b (oBu k v b.fe) = (c, 0, ByteArray.empty) ∧ usF b v = 0 ∧ usF c v = 0 ∧ us0 c v = us0 b v + adI (·.z0) b.ts k ∧ us1 c v = us1 b v + adI (·.z1) b.ts k ∧ us2 c v = us2 b v + adI (·.z2) b.ts k ∧ RB b) := by
  by_cases hc : chkB b = true
  · have hr := rb_of_chk hc
    have hnl : ¬ b.fe < b.fe := Nat.lt_irrefl _
    by_cases h0 : canE b k v = 0
    · have hb : biB b k v b.fe = (⟨b.ns, b.ts, insR b.bs (lbB b.bs k) ⟨k, v⟩, b.fe⟩, 0) := by
        unfold biB
        rw [if_neg hnl, if_pos h0]
      have hck := chk_of_rb (hr.bind h0)
      obtain ⟨⟨c1, c2⟩, c3, -⟩ := can0.1 h0
      have hp := thr_perm b.ts (insR_perm b.bs (lbB b.bs k) ⟨k, v⟩) v
      obtain ⟨y, hy, rfl⟩ := has_mem c1
      have hs : ∀ f : Hd.Td → Int, sumI f (thr b.ts (insR b.bs (lbB b.bs y.n) ⟨y.n, v⟩) v) = sumI f (thr b.ts b.bs v) + adI f b.ts y.n := fun f => by
        rw [sumI_perm f hp, thr_cons, if_pos rfl, adI_one f b.ts hr.rt y hy]
        show f (tOf b.ts y.n) + _ = _
        rw [tOf_at hr.rt hy]
        omega
      refine .inr ⟨⟨b.ns, b.ts, insR b.bs (lbB b.bs y.n) ⟨y.n, v⟩, b.fe⟩, by rw [do_bu hc, hb], ?_, ?_, hs (·.z0), hs (·.z1), hs (·.z2), hr⟩
      · unfold usF
        rw [if_pos hc, if_pos (show hsN b.ns v = true from c2)]
      · unfold usF
        rw [if_pos hck, if_pos (show hsN b.ns v = true from c2)]
    · refine .inl ⟨b, canE b k v, ?_, .inr h0⟩
      rw [do_bu hc]
      unfold biB
      rw [if_neg hnl, if_neg h0]
  · refine .inl ⟨bk0, 10, ?_, .inr (by decide)⟩
    unfold doF
    rw [if_neg hc]
end Bo
end Go.Proofs.Ytaipbaegbpebkaa

/-
  WHAT IS USED: gafferlaw08.BookUsed, where the bind is refused.
-/
namespace Go.Proofs.Ytaipbaegbpebkaa
open Go.RowKit Go.Lib
namespace Bo
open Rw
set_option linter.unusedVariables false
theorem fitS00 : FitS ⟨#[]⟩ := by unfold FitS; decide +kernel
set_option maxRecDepth 100000 in
set_option maxHeartbeats 4000000 in
theorem used_law_no (b c : Bk) (q : Nat) (k v : ByteArray) (vb0 : Value) (w : World) (hb : BookArg w vb0 b) (hfk : FitS k) (hfv : FitS v) (h1 : doF b (oBu k v b.fe) = (c, q, ByteArray.empty)) (hq : usF b v ≠ 0 ∨ q ≠ 0) :
    Calls Try.prog 3 #[vb0, .string k, .string v] w fun e w' => e = .returned (.bool true) ∧ Below w.heap.size w w' := by
  obtain ⟨vn, vt, vb, rfl, hB⟩ := hb
  obtain ⟨⟨a0, c0, rfl⟩, ⟨b0, d0, rfl⟩, ⟨e0, f0, rfl⟩⟩ := And.intro hB.hn.slice (And.intro hB.ht.slice hB.hb.slice)
  obtain ⟨W0, hW0⟩ : ∃ W0, W0 = w.alloc (.cells #[.slice a0 (b).ns.length c0, .slice b0 (b).ts.length d0, .slice e0 (b).bs.length f0, .int .u64 ((b).fe : Nat)] 27) := ⟨_, rfl⟩
  have hb0 : Below w.heap.size w W0 := by rw [hW0]; exact al w _
  have hx0 : Hd.Bxn W0 w.heap.size [.slice a0 (b).ns.length c0, .slice b0 (b).ts.length d0, .slice e0 (b).bs.length f0, .int .u64 ((b).fe : Nat)] := by rw [hW0]; exact Hd.Bxn.made w _ _
  have HL : Hid (Calls Try.prog 4 #[] W0 fun e w' => e = .returned (.bool true) ∧ Below W0.heap.size W0 w') := lives_any W0
  have HBK : Hid (∀ z, Hid (Below w.heap.size w z) → Hid (Books z z.heap.size (.slice a0 (b).ns.length c0) (.slice b0 (b).ts.length d0) (.slice e0 (b).bs.length f0) (b))) := fun z hz => hB.on hz.out
  have HW := Lib.hid hW0
  have HX0 := Lib.hid hx0
  have HB0 := Lib.hid hb0
  have HFK := Lib.hid hfk
  have HFV := Lib.hid hfv
  clear hW0 hx0 hb0 hB hfk hfv
  obtain ⟨s0, hs0⟩ : ∃ s0, s0 = usV b v (us0 b v) := ⟨_, rfl⟩
  obtain ⟨s1, hs1⟩ : ∃ s1, s1 = usV b v (us1 b v) := ⟨_, rfl⟩
  obtain ⟨s2, hs2⟩ : ∃ s2, s2 = usV b v (us2 b v) := ⟨_, rfl⟩
  obtain ⟨r, hr1⟩ : ∃ r, usF b v = r := ⟨_, rfl⟩
  rw [hr1] at hq
  by_cases hr0 : r = 0
  · subst hr0
    have hq0 : q ≠ 0 := by omega
    have t5 : ((q : Int) != 0) = true := by simp; omega
    have t6 : ¬ (q : Int) = 0 := by omega
    have HU1 : Hid (∀ z g1 n1 g2 n2 g3 n3, Hid (Books z z.heap.size (.slice g1 (b).ns.length n1) (.slice g2 (b).ts.length n2) (.slice g3 (b).bs.length n3) (b)) → Calls Try.prog 5 #[.agg #[.slice g1 (b).ns.length n1, .slice g2 (b).ts.length n2, .slice g3 (b).bs.length n3, .int .u64 ((b).fe : Nat)], .string v] z fun e w' => e = .returned (.tuple #[.agg #[.int .i64 s0, .int .i64 s1, .int .i64 s2], .int .i64 0]) ∧ Below z.heap.size z w') := fun z g1 n1 g2 n2 g3 n3 hz => (usedq_any (b) _ _ _ v z hz.out).mono fun e w' ⟨he, hb⟩ => ⟨by rw [← hs0, ← hs1, ← hs2, hr1] at he; exact he, hb⟩
    have HD1 : Hid (∀ z g1 n1 g2 n2 g3 n3, Hid (Below w.heap.size w z) → Hid (Books z z.heap.size (.slice g1 (b).ns.length n1) (.slice g2 (b).ts.length n2) (.slice g3 (b).bs.length n3) (b)) → Calls Try.prog 6 #[.agg #[.slice g1 (b).ns.length n1, .slice g2 (b).ts.length n2, .slice g3 (b).bs.length n3, .int .u64 ((b).fe : Nat)], .agg #[.int .u8 5, .string ⟨#[]⟩, .int .i64 0, .int .i64 0, .int .i64 0, .slice none 0 0, .slice none 0 0, .string ⟨#[]⟩, .int .i64 0, .int .i64 0, .int .i64 0, .slice none 0 0, .slice none 0 0, .string ⟨#[]⟩, .string ⟨#[]⟩, .int .i64 0, .string k, .string v, .int .u64 (b.fe : Nat)]] z fun e w' => ∃ vn' vt' vb', e = .returned (.tuple #[.agg #[vn', vt', vb', .int .u64 ((c).fe : Nat)], .agg #[.int .i64 (q : Nat), .string ⟨#[]⟩]]) ∧ Kept z w' (c) vn' vt' vb' ∧ Below z.heap.size z w') := fun z g1 n1 g2 n2 g3 n3 hwz hz => do_use (b) (c) _ _ _ _ _ (oBu k v b.fe) none none none none 0 0 0 0 z hz.out (deepN0 z _ rfl rfl) fitN0 (deepT0 z _ rfl rfl) fitT0 ⟨HFK.out, HFV.out⟩ h1
    clear h1 hs0 hs1 hs2
    go_enter Try.func3, Try.ntmps3
    go_upto_region 1 with fail
    rw [← HW.out]
    go_wp2_with fail
    refine HL.out.mono ?_
    rintro e w1 ⟨rfl, hb⟩
    have HP := Lib.hid (HX0.out.below hb)
    have HB1 : Hid (Below w.heap.size w w1) := HB0.out.trans (hb.mono HB0.out.size)
    clear hb HX0 HL HB0
    go_upto_region 3 with fail
    refine wp_region_list ?_
    refine wpList_load_mid rfl 27 (.tmp 3) rfl (w.heap.size) (0) rfl [.slice a0 (b).ns.length c0, .slice b0 (b).ts.length d0, .slice e0 (b).bs.length f0, .int .u64 ((b).fe : Nat)] _ (HP.out.range 0) Try.underlying27 rfl rfl ?_
    refine wpList_plain rfl fun K hK => ?_
    go_simp
    refine hK _ _ ?_
    clear hK K
    refine wpList_plain rfl fun K hK => ?_
    go_wp2_with fail
    refine (HU1.out w1 _ _ _ _ _ _ (HBK.out w1 HB1)).mono ?_
    rintro e x0m ⟨rfl, hb⟩
    refine hK _ _ ?_
    clear hK K
    have HPm := Lib.hid (HP.out.below hb)
    have HBx0m : Hid (Below w.heap.size w x0m) := HB1.out.trans (hb.mono HB1.out.size)
    have HUx0m : Hid (Below w1.heap.size w1 x0m) := hb
    clear hb
    refine wpList_plain rfl fun K hK => ?_
    go_simp
    refine hK _ _ ?_
    clear hK K
    refine wpList_plain rfl fun K hK => ?_
    go_simp
    refine hK _ _ ?_
    clear hK K
    refine wpList_plain rfl fun K hK => ?_
    go_simp
    refine hK _ _ ?_
    clear hK K
    refine wpList_plain rfl fun K hK => ?_
    go_simp
    refine hK _ _ ?_
    clear hK K
    obtain ⟨th1, hbz, hx1⟩ := one_made x0m [.int .i64 0, .int .i64 0, .int .i64 0] [.int .i64 s0, .int .i64 s1, .int .i64 s2] 29 rfl
    refine wpList_store_mid rfl 29 (.tmp 7) (.tmp 22) rfl (x0m.heap.size) 0 #[.int .i64 s0, .int .i64 s1, .int .i64 s2] rfl rfl th1 rfl (all_oneCell_toArray (List.all_eq_true.1 (show List.all ([.int .i64 s0, .int .i64 s1, .int .i64 s2] : List Value) (fun v => v.oneCell') = true from rfl))) ?_
    rw [show (#[.int .i64 s0, .int .i64 s1, .int .i64 s2] : Array Value).toList = [.int .i64 s0, .int .i64 s1, .int .i64 s2] from rfl]
    clear th1
    generalize (x0m.alloc (.cells #[.int .i64 0, .int .i64 0, .int .i64 0] 29)).setCells x0m.heap.size 0 [.int .i64 s0, .int .i64 s1, .int .i64 s2] = x0 at *
    have HP2 := Lib.hid (HPm.out.below hbz)
    clear HP HPm
    have HP := HP2
    clear HP2
    have HBx0 : Hid (Below w.heap.size w x0) := HBx0m.out.trans (hbz.mono HBx0m.out.size)
    have HUx0 : Hid (Below w1.heap.size w1 x0) := HUx0m.out.trans (hbz.mono HUx0m.out.size)
    have HAx0 := Lib.hid hx1
    clear hbz hx1 HBx0m HUx0m
    refine wpList_plain rfl fun K hK => ?_
    go_simp
    refine hK _ _ ?_
    clear hK K
    refine wpList_nil ?_
    go_upto_region 4 with fail
    refine wp_region_list ?_
    refine wpList_load_mid rfl 27 (.tmp 3) rfl (w.heap.size) (0) rfl [.slice a0 (b).ns.length c0, .slice b0 (b).ts.length d0, .slice e0 (b).bs.length f0, .int .u64 ((b).fe : Nat)] _ (HP.out.range 0) Try.underlying27 rfl rfl ?_
    refine wpList_plain rfl fun K hK => ?_
    go_simp
    refine hK _ _ ?_
    clear hK K
    refine wpList_plain rfl fun K hK => ?_
    go_simp
    refine hK _ _ ?_
    clear hK K
    refine wpList_plain rfl fun K hK => ?_
    go_simp
    refine hK _ _ ?_
    clear hK K
    have k3 : x0.cell? ⟨w.heap.size, 3, none⟩ = some (.int .u64 ((b).fe : Nat)) := HP.out.cell 3
    refine wpList_plain rfl fun K hK => ?_
    go_simp
    refine hK _ _ ?_
    clear hK K
    clear k3
    refine wpList_plain rfl fun K hK => ?_
    go_simp
    refine hK _ _ ?_
    clear hK K
    refine wpList_plain rfl fun K hK => ?_
    go_wp2_with fail
    refine (HD1.out x0 _ _ _ _ _ _ HBx0 (HBK.out _ HBx0)).mono ?_
    rintro e x1m ⟨v1, v2, v3, rfl, hkp, hb⟩
    obtain ⟨⟨a1, c1, rfl⟩, ⟨b1, d1, rfl⟩, ⟨e1, f1, rfl⟩⟩ := hkp.slices
    refine hK _ _ ?_
    clear hK K
    have HPm := Lib.hid (HP.out.below hb)
    have HAx0m := Lib.hid (HAx0.out.below hb)
    have HBx1m : Hid (Below w.heap.size w x1m) := HBx0.out.trans (hb.mono HBx0.out.size)
    have HUx1m : Hid (Below x0.heap.size x0 x1m) := hb
    have HKx1 := Lib.hid hkp
    clear hb hkp
    refine wpList_plain rfl fun K hK => ?_
    go_simp
    refine hK _ _ ?_
    clear hK K
    refine wpList_plain rfl fun K hK => ?_
    go_simp
    refine hK _ _ ?_
    clear hK K
    refine wpList_plain rfl fun K hK => ?_
    go_simp
    refine hK _ _ ?_
    clear hK K
    refine wpList_plain rfl fun K hK => ?_
    go_simp
    refine hK _ _ ?_
    clear hK K
    refine wpList_plain rfl fun K hK => ?_
    go_simp
    refine hK _ _ ?_
    clear hK K
    obtain ⟨th1, th2, hbz, hx1, hx2⟩ := two_made x1m [.slice none 0 0, .slice none 0 0, .slice none 0 0, .int .u64 0] [.int .i64 0, .string ⟨#[]⟩] [.slice a1 (c).ns.length c1, .slice b1 (c).ts.length d1, .slice e1 (c).bs.length f1, .int .u64 ((c).fe : Nat)] [.int .i64 (q : Nat), .string ⟨#[]⟩] 27 34 rfl rfl
    refine wpList_store_mid rfl 27 (.tmp 9) (.tmp 32) rfl (x1m.heap.size) 0 #[.slice a1 (c).ns.length c1, .slice b1 (c).ts.length d1, .slice e1 (c).bs.length f1, .int .u64 ((c).fe : Nat)] rfl rfl th1 rfl (all_oneCell_toArray (List.all_eq_true.1 (show List.all ([.slice a1 (c).ns.length c1, .slice b1 (c).ts.length d1, .slice e1 (c).bs.length f1, .int .u64 ((c).fe : Nat)] : List Value) (fun v => v.oneCell') = true from rfl))) ?_
    rw [show (#[.slice a1 (c).ns.length c1, .slice b1 (c).ts.length d1, .slice e1 (c).bs.length f1, .int .u64 ((c).fe : Nat)] : Array Value).toList = [.slice a1 (c).ns.length c1, .slice b1 (c).ts.length d1, .slice e1 (c).bs.length f1, .int .u64 ((c).fe : Nat)] from rfl]
    refine wpList_store_mid rfl 34 (.tmp 10) (.tmp 33) rfl (x1m.heap.size + 1) 0 #[.int .i64 (q : Nat), .string ⟨#[]⟩] rfl rfl th2 rfl (all_oneCell_toArray (List.all_eq_true.1 (show List.all ([.int .i64 (q : Nat), .string ⟨#[]⟩] : List Value) (fun v => v.oneCell') = true from rfl))) ?_
    rw [show (#[.int .i64 (q : Nat), .string ⟨#[]⟩] : Array Value).toList = [.int .i64 (q : Nat), .string ⟨#[]⟩] from rfl]
    clear th1 th2
    generalize (((x1m.alloc (.cells #[.slice none 0 0, .slice none 0 0, .slice none 0 0, .int .u64 0] 27)).alloc (.cells #[.int .i64 0, .string ⟨#[]⟩] 34)).setCells x1m.heap.size 0 [.slice a1 (c).ns.length c1, .slice b1 (c).ts.length d1, .slice e1 (c).bs.length f1, .int .u64 ((c).fe : Nat)]).setCells (x1m.heap.size + 1) 0 [.int .i64 (q : Nat), .string ⟨#[]⟩] = x1 at *
    refine wpList_nil ?_
    have HP2 := Lib.hid (HPm.out.below hbz)
    clear HP HPm
    have HP := HP2
    clear HP2
    have HAx02 := Lib.hid (HAx0m.out.below hbz)
    clear HAx0 HAx0m
    have HAx0 := HAx02
    clear HAx02
    have HBx1 : Hid (Below w.heap.size w x1) := HBx1m.out.trans (hbz.mono HBx1m.out.size)
    have HUx1 : Hid (Below x0.heap.size x0 x1) := HUx1m.out.trans (hbz.mono HUx1m.out.size)
    have HKNx1 := Lib.hid (HKx1.out.keep hbz)
    have HXx1 := Lib.hid hx1
    have HTx1 := Lib.hid hx2
    clear hbz hx1 hx2 HKx1 HBx1m HUx1m
    have t0 : x1.cell? ⟨x1m.heap.size + 1, 0, none⟩ = some (.int .i64 (q : Nat)) := HTx1.out.cell 0
    go_wp2
    go_ret
    exact ⟨rfl, HBx1.out⟩
  · have t5 : ((r : Int) != 0) = true := by simp; omega
    have t6 : ¬ (r : Int) = 0 := by omega
    have HU1 : Hid (∀ z g1 n1 g2 n2 g3 n3, Hid (Books z z.heap.size (.slice g1 (b).ns.length n1) (.slice g2 (b).ts.length n2) (.slice g3 (b).bs.length n3) (b)) → Calls Try.prog 5 #[.agg #[.slice g1 (b).ns.length n1, .slice g2 (b).ts.length n2, .slice g3 (b).bs.length n3, .int .u64 ((b).fe : Nat)], .string v] z fun e w' => e = .returned (.tuple #[.agg #[.int .i64 s0, .int .i64 s1, .int .i64 s2], .int .i64 (r : Nat)]) ∧ Below z.heap.size z w') := fun z g1 n1 g2 n2 g3 n3 hz => (usedq_any (b) _ _ _ v z hz.out).mono fun e w' ⟨he, hb⟩ => ⟨by rw [← hs0, ← hs1, ← hs2, hr1] at he; exact he, hb⟩
    have HD1 : Hid (∀ z g1 n1 g2 n2 g3 n3, Hid (Below w.heap.size w z) → Hid (Books z z.heap.size (.slice g1 (b).ns.length n1) (.slice g2 (b).ts.length n2) (.slice g3 (b).bs.length n3) (b)) → Calls Try.prog 6 #[.agg #[.slice g1 (b).ns.length n1, .slice g2 (b).ts.length n2, .slice g3 (b).bs.length n3, .int .u64 ((b).fe : Nat)], .agg #[.int .u8 5, .string ⟨#[]⟩, .int .i64 0, .int .i64 0, .int .i64 0, .slice none 0 0, .slice none 0 0, .string ⟨#[]⟩, .int .i64 0, .int .i64 0, .int .i64 0, .slice none 0 0, .slice none 0 0, .string ⟨#[]⟩, .string ⟨#[]⟩, .int .i64 0, .string k, .string v, .int .u64 (b.fe : Nat)]] z fun e w' => ∃ vn' vt' vb', e = .returned (.tuple #[.agg #[vn', vt', vb', .int .u64 ((c).fe : Nat)], .agg #[.int .i64 (q : Nat), .string ⟨#[]⟩]]) ∧ Kept z w' (c) vn' vt' vb' ∧ Below z.heap.size z w') := fun z g1 n1 g2 n2 g3 n3 hwz hz => do_use (b) (c) _ _ _ _ _ (oBu k v b.fe) none none none none 0 0 0 0 z hz.out (deepN0 z _ rfl rfl) fitN0 (deepT0 z _ rfl rfl) fitT0 ⟨HFK.out, HFV.out⟩ h1
    clear h1 hs0 hs1 hs2
    go_enter Try.func3, Try.ntmps3
    go_upto_region 1 with fail
    rw [← HW.out]
    go_wp2_with fail
    refine HL.out.mono ?_
    rintro e w1 ⟨rfl, hb⟩
    have HP := Lib.hid (HX0.out.below hb)
    have HB1 : Hid (Below w.heap.size w w1) := HB0.out.trans (hb.mono HB0.out.size)
    clear hb HX0 HL HB0
    go_upto_region 3 with fail
    refine wp_region_list ?_
    refine wpList_load_mid rfl 27 (.tmp 3) rfl (w.heap.size) (0) rfl [.slice a0 (b).ns.length c0, .slice b0 (b).ts.length d0, .slice e0 (b).bs.length f0, .int .u64 ((b).fe : Nat)] _ (HP.out.range 0) Try.underlying27 rfl rfl ?_
    refine wpList_plain rfl fun K hK => ?_
    go_simp
    refine hK _ _ ?_
    clear hK K
    refine wpList_plain rfl fun K hK => ?_
    go_wp2_with fail
    refine (HU1.out w1 _ _ _ _ _ _ (HBK.out w1 HB1)).mono ?_
    rintro e x0m ⟨rfl, hb⟩
    refine hK _ _ ?_
    clear hK K
    have HPm := Lib.hid (HP.out.below hb)
    have HBx0m : Hid (Below w.heap.size w x0m) := HB1.out.trans (hb.mono HB1.out.size)
    have HUx0m : Hid (Below w1.heap.size w1 x0m) := hb
    clear hb
    refine wpList_plain rfl fun K hK => ?_
    go_simp
    refine hK _ _ ?_
    clear hK K
    refine wpList_plain rfl fun K hK => ?_
    go_simp
    refine hK _ _ ?_
    clear hK K
    refine wpList_plain rfl fun K hK => ?_
    go_simp
    refine hK _ _ ?_
    clear hK K
    refine wpList_plain rfl fun K hK => ?_
    go_simp
    refine hK _ _ ?_
    clear hK K
    obtain ⟨th1, hbz, hx1⟩ := one_made x0m [.int .i64 0, .int .i64 0, .int .i64 0] [.int .i64 s0, .int .i64 s1, .int .i64 s2] 29 rfl
    refine wpList_store_mid rfl 29 (.tmp 7) (.tmp 22) rfl (x0m.heap.size) 0 #[.int .i64 s0, .int .i64 s1, .int .i64 s2] rfl rfl th1 rfl (all_oneCell_toArray (List.all_eq_true.1 (show List.all ([.int .i64 s0, .int .i64 s1, .int .i64 s2] : List Value) (fun v => v.oneCell') = true from rfl))) ?_
    rw [show (#[.int .i64 s0, .int .i64 s1, .int .i64 s2] : Array Value).toList = [.int .i64 s0, .int .i64 s1, .int .i64 s2] from rfl]
    clear th1
    generalize (x0m.alloc (.cells #[.int .i64 0, .int .i64 0, .int .i64 0] 29)).setCells x0m.heap.size 0 [.int .i64 s0, .int .i64 s1, .int .i64 s2] = x0 at *
    have HP2 := Lib.hid (HPm.out.below hbz)
    clear HP HPm
    have HP := HP2
    clear HP2
    have HBx0 : Hid (Below w.heap.size w x0) := HBx0m.out.trans (hbz.mono HBx0m.out.size)
    have HUx0 : Hid (Below w1.heap.size w1 x0) := HUx0m.out.trans (hbz.mono HUx0m.out.size)
    have HAx0 := Lib.hid hx1
    clear hbz hx1 HBx0m HUx0m
    refine wpList_plain rfl fun K hK => ?_
    go_simp
    refine hK _ _ ?_
    clear hK K
    refine wpList_nil ?_
    go_upto_region 4 with fail
    refine wp_region_list ?_
    refine wpList_load_mid rfl 27 (.tmp 3) rfl (w.heap.size) (0) rfl [.slice a0 (b).ns.length c0, .slice b0 (b).ts.length d0, .slice e0 (b).bs.length f0, .int .u64 ((b).fe : Nat)] _ (HP.out.range 0) Try.underlying27 rfl rfl ?_
    refine wpList_plain rfl fun K hK => ?_
    go_simp
    refine hK _ _ ?_
    clear hK K
    refine wpList_plain rfl fun K hK => ?_
    go_simp
    refine hK _ _ ?_
    clear hK K
    refine wpList_plain rfl fun K hK => ?_
    go_simp
    refine hK _ _ ?_
    clear hK K
    have k3 : x0.cell? ⟨w.heap.size, 3, none⟩ = some (.int .u64 ((b).fe : Nat)) := HP.out.cell 3
    refine wpList_plain rfl fun K hK => ?_
    go_simp
    refine hK _ _ ?_
    clear hK K
    clear k3
    refine wpList_plain rfl fun K hK => ?_
    go_simp
    refine hK _ _ ?_
    clear hK K
    refine wpList_plain rfl fun K hK => ?_
    go_wp2_with fail
    refine (HD1.out x0 _ _ _ _ _ _ HBx0 (HBK.out _ HBx0)).mono ?_
    rintro e x1m ⟨v1, v2, v3, rfl, hkp, hb⟩
    obtain ⟨⟨a1, c1, rfl⟩, ⟨b1, d1, rfl⟩, ⟨e1, f1, rfl⟩⟩ := hkp.slices
    refine hK _ _ ?_
    clear hK K
    have HPm := Lib.hid (HP.out.below hb)
    have HAx0m := Lib.hid (HAx0.out.below hb)
    have HBx1m : Hid (Below w.heap.size w x1m) := HBx0.out.trans (hb.mono HBx0.out.size)
    have HUx1m : Hid (Below x0.heap.size x0 x1m) := hb
    have HKx1 := Lib.hid hkp
    clear hb hkp
    refine wpList_plain rfl fun K hK => ?_
    go_simp
    refine hK _ _ ?_
    clear hK K
    refine wpList_plain rfl fun K hK => ?_
    go_simp
    refine hK _ _ ?_
    clear hK K
    refine wpList_plain rfl fun K hK => ?_
    go_simp
    refine hK _ _ ?_
    clear hK K
    refine wpList_plain rfl fun K hK => ?_
    go_simp
    refine hK _ _ ?_
    clear hK K
    refine wpList_plain rfl fun K hK => ?_
    go_simp
    refine hK _ _ ?_
    clear hK K
    obtain ⟨th1, th2, hbz, hx1, hx2⟩ := two_made x1m [.slice none 0 0, .slice none 0 0, .slice none 0 0, .int .u64 0] [.int .i64 0, .string ⟨#[]⟩] [.slice a1 (c).ns.length c1, .slice b1 (c).ts.length d1, .slice e1 (c).bs.length f1, .int .u64 ((c).fe : Nat)] [.int .i64 (q : Nat), .string ⟨#[]⟩] 27 34 rfl rfl
    refine wpList_store_mid rfl 27 (.tmp 9) (.tmp 32) rfl (x1m.heap.size) 0 #[.slice a1 (c).ns.length c1, .slice b1 (c).ts.length d1, .slice e1 (c).bs.length f1, .int .u64 ((c).fe : Nat)] rfl rfl th1 rfl (all_oneCell_toArray (List.all_eq_true.1 (show List.all ([.slice a1 (c).ns.length c1, .slice b1 (c).ts.length d1, .slice e1 (c).bs.length f1, .int .u64 ((c).fe : Nat)] : List Value) (fun v => v.oneCell') = true from rfl))) ?_
    rw [show (#[.slice a1 (c).ns.length c1, .slice b1 (c).ts.length d1, .slice e1 (c).bs.length f1, .int .u64 ((c).fe : Nat)] : Array Value).toList = [.slice a1 (c).ns.length c1, .slice b1 (c).ts.length d1, .slice e1 (c).bs.length f1, .int .u64 ((c).fe : Nat)] from rfl]
    refine wpList_store_mid rfl 34 (.tmp 10) (.tmp 33) rfl (x1m.heap.size + 1) 0 #[.int .i64 (q : Nat), .string ⟨#[]⟩] rfl rfl th2 rfl (all_oneCell_toArray (List.all_eq_true.1 (show List.all ([.int .i64 (q : Nat), .string ⟨#[]⟩] : List Value) (fun v => v.oneCell') = true from rfl))) ?_
    rw [show (#[.int .i64 (q : Nat), .string ⟨#[]⟩] : Array Value).toList = [.int .i64 (q : Nat), .string ⟨#[]⟩] from rfl]
    clear th1 th2
    generalize (((x1m.alloc (.cells #[.slice none 0 0, .slice none 0 0, .slice none 0 0, .int .u64 0] 27)).alloc (.cells #[.int .i64 0, .string ⟨#[]⟩] 34)).setCells x1m.heap.size 0 [.slice a1 (c).ns.length c1, .slice b1 (c).ts.length d1, .slice e1 (c).bs.length f1, .int .u64 ((c).fe : Nat)]).setCells (x1m.heap.size + 1) 0 [.int .i64 (q : Nat), .string ⟨#[]⟩] = x1 at *
    refine wpList_nil ?_
    have HP2 := Lib.hid (HPm.out.below hbz)
    clear HP HPm
    have HP := HP2
    clear HP2
    have HAx02 := Lib.hid (HAx0m.out.below hbz)
    clear HAx0 HAx0m
    have HAx0 := HAx02
    clear HAx02
    have HBx1 : Hid (Below w.heap.size w x1) := HBx1m.out.trans (hbz.mono HBx1m.out.size)
    have HUx1 : Hid (Below x0.heap.size x0 x1) := HUx1m.out.trans (hbz.mono HUx1m.out.size)
    have HKNx1 := Lib.hid (HKx1.out.keep hbz)
    have HXx1 := Lib.hid hx1
    have HTx1 := Lib.hid hx2
    clear hbz hx1 hx2 HKx1 HBx1m HUx1m
    have t0 : x1.cell? ⟨x1m.heap.size + 1, 0, none⟩ = some (.int .i64 (q : Nat)) := HTx1.out.cell 0
    go_wp2
    go_ret
    exact ⟨rfl, HBx1.out⟩
end Bo
end Go.Proofs.Ytaipbaegbpebkaa

/-
  WHAT IS USED: gafferlaw08.BookUsed, where the bind is done (what the walk wants).
-/
namespace Go.Proofs.Ytaipbaegbpebkaa
open Go.RowKit Go.Lib
namespace Bo
open Rw
set_option linter.unusedVariables false
theorem adI_in (f : Hd.Td → Int) {ts : List Hd.Td} (hl : ts.length ≤ 32) (h : ∀ t ∈ ts, 0 ≤ f t ∧ f t ≤ 1099511627776) (k : ByteArray) (j : Nat) : 0 ≤ adI f (ts.take j) k ∧ adI f (ts.take j) k ≤ 35184372088832 := by
  have hs : ((ts.take j).filter (fun t => decide (t.n = k))).Sublist ts := List.filter_sublist.trans (List.take_sublist _ _)
  have h1 := sumI_pos f (fun t ht => (h t (hs.subset ht)).1)
  have h2 := sumI_top f 1099511627776 (fun t ht => (h t (hs.subset ht)).2)
  have h3 := hs.length_le
  unfold adI
  omega
def l3 (p0 p1 p2 z0 z1 z2 : Int) : Nat → List Value
  | 0 => [.int .i64 p0, .int .i64 p1, .int .i64 p2]
  | 1 => [.int .i64 (p0 + z0), .int .i64 p1, .int .i64 p2]
  | 2 => [.int .i64 (p0 + z0), .int .i64 (p1 + z1), .int .i64 p2]
  | _ => [.int .i64 (p0 + z0), .int .i64 (p1 + z1), .int .i64 (p2 + z2)]
theorem used_facts (b c : Bk) (k v : ByteArray) (e0' : us0 c v = us0 b v + adI (·.z0) b.ts k) (e1' : us1 c v = us1 b v + adI (·.z1) b.ts k) (e2' : us2 c v = us2 b v + adI (·.z2) b.ts k) (hr : RB b) : ∃ p0 p1 p2 : Nat → Int, Hid (p0 0 = us0 b v ∧ p1 0 = us1 b v ∧ p2 0 = us2 b v) ∧ Hid (p0 b.ts.length = us0 c v ∧ p1 b.ts.length = us1 c v ∧ p2 b.ts.length = us2 c v) ∧
    Hid (∀ j (h : j < b.ts.length), b.ts[j].n = k → p0 (j + 1) = p0 j + b.ts[j].z0 ∧ p1 (j + 1) = p1 j + b.ts[j].z1 ∧ p2 (j + 1) = p2 j + b.ts[j].z2) ∧ Hid (∀ j (h : j < b.ts.length), ¬ b.ts[j].n = k → p0 (j + 1) = p0 j ∧ p1 (j + 1) = p1 j ∧ p2 (j + 1) = p2 j) ∧
    Hid (∀ j, (0 ≤ p0 j ∧ p0 j ≤ 70368744177664) ∧ (0 ≤ p1 j ∧ p1 j ≤ 70368744177664) ∧ (0 ≤ p2 j ∧ p2 j ≤ 70368744177664)) ∧ Hid (∀ t ∈ b.ts, okT t = true) := by
  obtain ⟨p0, hp0⟩ : ∃ p0 : Nat → Int, p0 = fun j => us0 b v + adI (·.z0) (b.ts.take j) k := ⟨_, rfl⟩
  obtain ⟨p1, hp1⟩ : ∃ p1 : Nat → Int, p1 = fun j => us1 b v + adI (·.z1) (b.ts.take j) k := ⟨_, rfl⟩
  obtain ⟨p2, hp2⟩ : ∃ p2 : Nat → Int, p2 = fun j => us2 b v + adI (·.z2) (b.ts.take j) k := ⟨_, rfl⟩
  have HS0 : Hid (p0 0 = us0 b v ∧ p1 0 = us1 b v ∧ p2 0 = us2 b v) := Lib.hid (by rw [hp0, hp1, hp2]; simp [adI, sumI])
  have HSE : Hid (p0 b.ts.length = us0 c v ∧ p1 b.ts.length = us1 c v ∧ p2 b.ts.length = us2 c v) := Lib.hid (by rw [hp0, hp1, hp2, e0', e1', e2']; simp only [List.take_length]; exact ⟨trivial, trivial, trivial⟩)
  have HSY : Hid (∀ j (h : j < b.ts.length), b.ts[j].n = k → p0 (j + 1) = p0 j + b.ts[j].z0 ∧ p1 (j + 1) = p1 j + b.ts[j].z1 ∧ p2 (j + 1) = p2 j + b.ts[j].z2) := Lib.hid (by intro j h hk; rw [hp0, hp1, hp2]; simp only [adI_yes _ _ _ _ h hk]; omega)
  have HSN : Hid (∀ j (h : j < b.ts.length), ¬ b.ts[j].n = k → p0 (j + 1) = p0 j ∧ p1 (j + 1) = p1 j ∧ p2 (j + 1) = p2 j) := Lib.hid (by intro j h hk; rw [hp0, hp1, hp2]; simp only [adI_no _ _ _ _ h hk]; exact ⟨trivial, trivial, trivial⟩)
  have HBD : Hid (∀ j, (0 ≤ p0 j ∧ p0 j ≤ 70368744177664) ∧ (0 ≤ p1 j ∧ p1 j ≤ 70368744177664) ∧ (0 ≤ p2 j ∧ p2 j ≤ 70368744177664)) := Lib.hid (by
    intro j
    have ha := hr.lists.used v
    have g0 := adI_in (·.z0) hr.lt (fun t ht => (amtT (hr.kt t ht)).1) k j
    have g1 := adI_in (·.z1) hr.lt (fun t ht => (amtT (hr.kt t ht)).2.1) k j
    have g2 := adI_in (·.z2) hr.lt (fun t ht => (amtT (hr.kt t ht)).2.2) k j
    rw [hp0, hp1, hp2]
    dsimp only
    omega)
  have HKT : Hid (∀ t ∈ b.ts, okT t = true) := hr.kt
  exact ⟨p0, p1, p2, HS0, HSE, HSY, HSN, HBD, HKT⟩
end Bo
end Go.Proofs.Ytaipbaegbpebkaa

/-
  WHAT IS USED: gafferlaw08.BookUsed, where the bind is done; the law.
-/
namespace Go.Proofs.Ytaipbaegbpebkaa
open Go.RowKit Go.Lib
namespace Bo
open Rw
set_option linter.unusedVariables false
theorem Tds.row2 {w : World} {B : Nat} {a : Option Addr} {c : Nat} {l : List Hd.Td} (h : Tds w B (.slice a l.length c) l) : 0 < l.length → ∃ b off, a = some ⟨b, off, none⟩ ∧ b < B ∧ ∀ i (hi : i < l.length), ∃ x : TdM, x.td = l[i] ∧ At w b (off + i * 9) x := by
  obtain ⟨m, rfl, ⟨a', c', he, -, -, -, hc⟩, h2, -⟩ := h
  intro hp
  obtain ⟨b, off, ha, -, hlt, hcc⟩ := hc (by simpa using hp)
  refine ⟨b, off, ?_, hlt, fun i hi => ?_⟩
  · simp only [Value.slice.injEq] at he
    rw [he.1, ha]
  · have hi2 : i < m.length := by simpa using hi
    exact ⟨m[i], by simp, hcc i hi2⟩
theorem rng_at2 {w : World} {b o : Nat} {x : TdM} (h : At w b o x) : w.rangeAt b o (tdE x) := fun j u hj => h j u hj
theorem eq_arr2 (a b c : Int) (w : World) : (binOp .eql 29 (.agg #[.int .i64 a, .int .i64 b, .int .i64 c]) (.agg #[.int .i64 a, .int .i64 b, .int .i64 c])).run Try.prog w = .ok (.bool true) w := by
  rw [Rg.eql_arr]
  simp [Rg.eqA]
set_option maxRecDepth 100000 in
set_option maxHeartbeats 4000000 in
theorem used_law_yes (b c : Bk) (k v : ByteArray) (vb0 : Value) (w : World) (hb : BookArg w vb0 b) (hfk : FitS k) (hfv : FitS v) (h1 : doF b (oBu k v b.fe) = (c, 0, ByteArray.empty)) (hu0 : usF b v = 0) (huc : usF c v = 0)
    (e0' : us0 c v = us0 b v + adI (·.z0) b.ts k) (e1' : us1 c v = us1 b v + adI (·.z1) b.ts k) (e2' : us2 c v = us2 b v + adI (·.z2) b.ts k) (hr : RB b) :
    Calls Try.prog 3 #[vb0, .string k, .string v] w fun e w' => e = .returned (.bool true) ∧ Below w.heap.size w w' := by
  obtain ⟨vn, vt, vb, rfl, hB⟩ := hb
  obtain ⟨⟨a0, c0, rfl⟩, ⟨b0, d0, rfl⟩, ⟨e0, f0, rfl⟩⟩ := And.intro hB.hn.slice (And.intro hB.ht.slice hB.hb.slice)
  obtain ⟨W0, hW0⟩ : ∃ W0, W0 = w.alloc (.cells #[.slice a0 (b).ns.length c0, .slice b0 (b).ts.length d0, .slice e0 (b).bs.length f0, .int .u64 ((b).fe : Nat)] 27) := ⟨_, rfl⟩
  have hb0 : Below w.heap.size w W0 := by rw [hW0]; exact al w _
  have hx0 : Hd.Bxn W0 w.heap.size [.slice a0 (b).ns.length c0, .slice b0 (b).ts.length d0, .slice e0 (b).bs.length f0, .int .u64 ((b).fe : Nat)] := by rw [hW0]; exact Hd.Bxn.made w _ _
  have HL : Hid (Calls Try.prog 4 #[] W0 fun e w' => e = .returned (.bool true) ∧ Below W0.heap.size W0 w') := lives_any W0
  have HBK : Hid (∀ z, Hid (Below w.heap.size w z) → Hid (Books z z.heap.size (.slice a0 (b).ns.length c0) (.slice b0 (b).ts.length d0) (.slice e0 (b).bs.length f0) (b))) := fun z hz => hB.on hz.out
  have HRW : Hid (0 < b.ts.length → ∃ g o, b0 = some ⟨g, o, none⟩ ∧ g < w.heap.size ∧ ∀ i (hi : i < b.ts.length), ∃ x : TdM, x.td = b.ts[i] ∧ At w g (o + i * 9) x) := hB.ht.row2
  have HW := Lib.hid hW0
  have HX0 := Lib.hid hx0
  have HB0 := Lib.hid hb0
  have HFK := Lib.hid hfk
  have HFV := Lib.hid hfv
  clear hW0 hx0 hb0 hB hfk hfv
  obtain ⟨p0, p1, p2, HS0, HSE, HSY, HSN, HBD, HKT⟩ := used_facts b c k v e0' e1' e2' hr
  have HU1 : Hid (∀ z g1 n1 g2 n2 g3 n3, Hid (Books z z.heap.size (.slice g1 (b).ns.length n1) (.slice g2 (b).ts.length n2) (.slice g3 (b).bs.length n3) (b)) → Calls Try.prog 5 #[.agg #[.slice g1 (b).ns.length n1, .slice g2 (b).ts.length n2, .slice g3 (b).bs.length n3, .int .u64 ((b).fe : Nat)], .string v] z fun e w' => e = .returned (.tuple #[.agg #[.int .i64 (p0 0), .int .i64 (p1 0), .int .i64 (p2 0)], .int .i64 0]) ∧ Below z.heap.size z w') := fun z g1 n1 g2 n2 g3 n3 hz => (usedq_any (b) _ _ _ v z hz.out).mono fun e w' ⟨he, hb⟩ => ⟨by rw [show usV b v (us0 b v) = p0 0 from by unfold usV; rw [if_pos hu0]; exact HS0.out.1.symm, show usV b v (us1 b v) = p1 0 from by unfold usV; rw [if_pos hu0]; exact HS0.out.2.1.symm, show usV b v (us2 b v) = p2 0 from by unfold usV; rw [if_pos hu0]; exact HS0.out.2.2.symm, hu0] at he; exact he, hb⟩
  have HU2 : Hid (∀ z g1 n1 g2 n2 g3 n3, Hid (Books z z.heap.size (.slice g1 (c).ns.length n1) (.slice g2 (c).ts.length n2) (.slice g3 (c).bs.length n3) (c)) → Calls Try.prog 5 #[.agg #[.slice g1 (c).ns.length n1, .slice g2 (c).ts.length n2, .slice g3 (c).bs.length n3, .int .u64 ((c).fe : Nat)], .string v] z fun e w' => e = .returned (.tuple #[.agg #[.int .i64 (p0 b.ts.length), .int .i64 (p1 b.ts.length), .int .i64 (p2 b.ts.length)], .int .i64 0]) ∧ Below z.heap.size z w') := fun z g1 n1 g2 n2 g3 n3 hz => (usedq_any (c) _ _ _ v z hz.out).mono fun e w' ⟨he, hb⟩ => ⟨by rw [show usV c v (us0 c v) = p0 b.ts.length from by unfold usV; rw [if_pos huc]; exact HSE.out.1.symm, show usV c v (us1 c v) = p1 b.ts.length from by unfold usV; rw [if_pos huc]; exact HSE.out.2.1.symm, show usV c v (us2 c v) = p2 b.ts.length from by unfold usV; rw [if_pos huc]; exact HSE.out.2.2.symm, huc] at he; exact he, hb⟩
  have HD1 : Hid (∀ z g1 n1 g2 n2 g3 n3, Hid (Below w.heap.size w z) → Hid (Books z z.heap.size (.slice g1 (b).ns.length n1) (.slice g2 (b).ts.length n2) (.slice g3 (b).bs.length n3) (b)) → Calls Try.prog 6 #[.agg #[.slice g1 (b).ns.length n1, .slice g2 (b).ts.length n2, .slice g3 (b).bs.length n3, .int .u64 ((b).fe : Nat)], .agg #[.int .u8 5, .string ⟨#[]⟩, .int .i64 0, .int .i64 0, .int .i64 0, .slice none 0 0, .slice none 0 0, .string ⟨#[]⟩, .int .i64 0, .int .i64 0, .int .i64 0, .slice none 0 0, .slice none 0 0, .string ⟨#[]⟩, .string ⟨#[]⟩, .int .i64 0, .string k, .string v, .int .u64 (b.fe : Nat)]] z fun e w' => ∃ vn' vt' vb', e = .returned (.tuple #[.agg #[vn', vt', vb', .int .u64 ((c).fe : Nat)], .agg #[.int .i64 0, .string ⟨#[]⟩]]) ∧ Kept z w' (c) vn' vt' vb' ∧ Below z.heap.size z w') := fun z g1 n1 g2 n2 g3 n3 hwz hz => do_use (b) (c) _ _ _ _ _ (oBu k v b.fe) none none none none 0 0 0 0 z hz.out (deepN0 z _ rfl rfl) fitN0 (deepT0 z _ rfl rfl) fitT0 ⟨HFK.out, HFV.out⟩ h1
  have HLT : Hid (b.ts.length ≤ 32) := hr.lt
  clear h1 hu0 huc e0' e1' e2' hr HS0 HSE
  go_enter Try.func3, Try.ntmps3
  go_upto_region 1 with fail
  rw [← HW.out]
  go_wp2_with fail
  refine HL.out.mono ?_
  rintro e w1 ⟨rfl, hb⟩
  have HP := Lib.hid (HX0.out.below hb)
  have HB1 : Hid (Below w.heap.size w w1) := HB0.out.trans (hb.mono HB0.out.size)
  clear hb HX0 HL HB0
  go_upto_region 3 with fail
  refine wp_region_list ?_
  refine wpList_load_mid rfl 27 (.tmp 3) rfl (w.heap.size) (0) rfl [.slice a0 (b).ns.length c0, .slice b0 (b).ts.length d0, .slice e0 (b).bs.length f0, .int .u64 ((b).fe : Nat)] _ (HP.out.range 0) Try.underlying27 rfl rfl ?_
  refine wpList_plain rfl fun K hK => ?_
  go_simp
  refine hK _ _ ?_
  clear hK K
  refine wpList_plain rfl fun K hK => ?_
  go_wp2_with fail
  refine (HU1.out w1 _ _ _ _ _ _ (HBK.out w1 HB1)).mono ?_
  rintro e x0m ⟨rfl, hb⟩
  refine hK _ _ ?_
  clear hK K
  have HPm := Lib.hid (HP.out.below hb)
  have HBx0m : Hid (Below w.heap.size w x0m) := HB1.out.trans (hb.mono HB1.out.size)
  have HUx0m : Hid (Below w1.heap.size w1 x0m) := hb
  clear hb
  refine wpList_plain rfl fun K hK => ?_
  go_simp
  refine hK _ _ ?_
  clear hK K
  refine wpList_plain rfl fun K hK => ?_
  go_simp
  refine hK _ _ ?_
  clear hK K
  refine wpList_plain rfl fun K hK => ?_
  go_simp
  refine hK _ _ ?_
  clear hK K
  refine wpList_plain rfl fun K hK => ?_
  go_simp
  refine hK _ _ ?_
  clear hK K
  have HLO1 : Hid (w.heap.size ≤ x0m.heap.size) := HBx0m.out.size
  obtain ⟨th1, hbz, hx1⟩ := one_made x0m [.int .i64 0, .int .i64 0, .int .i64 0] [.int .i64 (p0 0), .int .i64 (p1 0), .int .i64 (p2 0)] 29 rfl
  refine wpList_store_mid rfl 29 (.tmp 7) (.tmp 22) rfl (x0m.heap.size) 0 #[.int .i64 (p0 0), .int .i64 (p1 0), .int .i64 (p2 0)] rfl rfl th1 rfl (all_oneCell_toArray (List.all_eq_true.1 (show List.all ([.int .i64 (p0 0), .int .i64 (p1 0), .int .i64 (p2 0)] : List Value) (fun v => v.oneCell') = true from rfl))) ?_
  rw [show (#[.int .i64 (p0 0), .int .i64 (p1 0), .int .i64 (p2 0)] : Array Value).toList = [.int .i64 (p0 0), .int .i64 (p1 0), .int .i64 (p2 0)] from rfl]
  clear th1
  generalize (x0m.alloc (.cells #[.int .i64 0, .int .i64 0, .int .i64 0] 29)).setCells x0m.heap.size 0 [.int .i64 (p0 0), .int .i64 (p1 0), .int .i64 (p2 0)] = x0 at *
  have HP2 := Lib.hid (HPm.out.below hbz)
  clear HP HPm
  have HP := HP2
  clear HP2
  have HBx0 : Hid (Below w.heap.size w x0) := HBx0m.out.trans (hbz.mono HBx0m.out.size)
  have HUx0 : Hid (Below w1.heap.size w1 x0) := HUx0m.out.trans (hbz.mono HUx0m.out.size)
  have HAx0 := Lib.hid hx1
  clear hbz hx1 HBx0m HUx0m
  refine wpList_plain rfl fun K hK => ?_
  go_simp
  refine hK _ _ ?_
  clear hK K
  refine wpList_nil ?_
  have HL0 : Hid (x0m.heap.size < x0.heap.size) := HAx0.out.lt
  have HLO : Hid (w.heap.size ≤ x0m.heap.size) := HLO1.out
  go_upto_region 4 with fail
  refine wp_region_list ?_
  refine wpList_load_mid rfl 27 (.tmp 3) rfl (w.heap.size) (0) rfl [.slice a0 (b).ns.length c0, .slice b0 (b).ts.length d0, .slice e0 (b).bs.length f0, .int .u64 ((b).fe : Nat)] _ (HP.out.range 0) Try.underlying27 rfl rfl ?_
  refine wpList_plain rfl fun K hK => ?_
  go_simp
  refine hK _ _ ?_
  clear hK K
  refine wpList_plain rfl fun K hK => ?_
  go_simp
  refine hK _ _ ?_
  clear hK K
  refine wpList_plain rfl fun K hK => ?_
  go_simp
  refine hK _ _ ?_
  clear hK K
  have k3 : x0.cell? ⟨w.heap.size, 3, none⟩ = some (.int .u64 ((b).fe : Nat)) := HP.out.cell 3
  refine wpList_plain rfl fun K hK => ?_
  go_simp
  refine hK _ _ ?_
  clear hK K
  clear k3
  refine wpList_plain rfl fun K hK => ?_
  go_simp
  refine hK _ _ ?_
  clear hK K
  refine wpList_plain rfl fun K hK => ?_
  go_wp2_with fail
  refine (HD1.out x0 _ _ _ _ _ _ HBx0 (HBK.out _ HBx0)).mono ?_
  rintro e x1m ⟨v1, v2, v3, rfl, hkp, hb⟩
  obtain ⟨⟨a1, c1, rfl⟩, ⟨b1, d1, rfl⟩, ⟨e1, f1, rfl⟩⟩ := hkp.slices
  refine hK _ _ ?_
  clear hK K
  have HPm := Lib.hid (HP.out.below hb)
  have HAx0m := Lib.hid (HAx0.out.below hb)
  have HBx1m : Hid (Below w.heap.size w x1m) := HBx0.out.trans (hb.mono HBx0.out.size)
  have HUx1m : Hid (Below x0.heap.size x0 x1m) := hb
  have HKx1 := Lib.hid hkp
  clear hb hkp
  refine wpList_plain rfl fun K hK => ?_
  go_simp
  refine hK _ _ ?_
  clear hK K
  refine wpList_plain rfl fun K hK => ?_
  go_simp
  refine hK _ _ ?_
  clear hK K
  refine wpList_plain rfl fun K hK => ?_
  go_simp
  refine hK _ _ ?_
  clear hK K
  refine wpList_plain rfl fun K hK => ?_
  go_simp
  refine hK _ _ ?_
  clear hK K
  refine wpList_plain rfl fun K hK => ?_
  go_simp
  refine hK _ _ ?_
  clear hK K
  obtain ⟨th1, th2, hbz, hx1, hx2⟩ := two_made x1m [.slice none 0 0, .slice none 0 0, .slice none 0 0, .int .u64 0] [.int .i64 0, .string ⟨#[]⟩] [.slice a1 (c).ns.length c1, .slice b1 (c).ts.length d1, .slice e1 (c).bs.length f1, .int .u64 ((c).fe : Nat)] [.int .i64 0, .string ⟨#[]⟩] 27 34 rfl rfl
  refine wpList_store_mid rfl 27 (.tmp 9) (.tmp 32) rfl (x1m.heap.size) 0 #[.slice a1 (c).ns.length c1, .slice b1 (c).ts.length d1, .slice e1 (c).bs.length f1, .int .u64 ((c).fe : Nat)] rfl rfl th1 rfl (all_oneCell_toArray (List.all_eq_true.1 (show List.all ([.slice a1 (c).ns.length c1, .slice b1 (c).ts.length d1, .slice e1 (c).bs.length f1, .int .u64 ((c).fe : Nat)] : List Value) (fun v => v.oneCell') = true from rfl))) ?_
  rw [show (#[.slice a1 (c).ns.length c1, .slice b1 (c).ts.length d1, .slice e1 (c).bs.length f1, .int .u64 ((c).fe : Nat)] : Array Value).toList = [.slice a1 (c).ns.length c1, .slice b1 (c).ts.length d1, .slice e1 (c).bs.length f1, .int .u64 ((c).fe : Nat)] from rfl]
  refine wpList_store_mid rfl 34 (.tmp 10) (.tmp 33) rfl (x1m.heap.size + 1) 0 #[.int .i64 0, .string ⟨#[]⟩] rfl rfl th2 rfl (all_oneCell_toArray (List.all_eq_true.1 (show List.all ([.int .i64 0, .string ⟨#[]⟩] : List Value) (fun v => v.oneCell') = true from rfl))) ?_
  rw [show (#[.int .i64 0, .string ⟨#[]⟩] : Array Value).toList = [.int .i64 0, .string ⟨#[]⟩] from rfl]
  clear th1 th2
  generalize (((x1m.alloc (.cells #[.slice none 0 0, .slice none 0 0, .slice none 0 0, .int .u64 0] 27)).alloc (.cells #[.int .i64 0, .string ⟨#[]⟩] 34)).setCells x1m.heap.size 0 [.slice a1 (c).ns.length c1, .slice b1 (c).ts.length d1, .slice e1 (c).bs.length f1, .int .u64 ((c).fe : Nat)]).setCells (x1m.heap.size + 1) 0 [.int .i64 0, .string ⟨#[]⟩] = x1 at *
  refine wpList_nil ?_
  have HP2 := Lib.hid (HPm.out.below hbz)
  clear HP HPm
  have HP := HP2
  clear HP2
  have HAx02 := Lib.hid (HAx0m.out.below hbz)
  clear HAx0 HAx0m
  have HAx0 := HAx02
  clear HAx02
  have HBx1 : Hid (Below w.heap.size w x1) := HBx1m.out.trans (hbz.mono HBx1m.out.size)
  have HUx1 : Hid (Below x0.heap.size x0 x1) := HUx1m.out.trans (hbz.mono HUx1m.out.size)
  have HKNx1 := Lib.hid (HKx1.out.keep hbz)
  have HXx1 := Lib.hid hx1
  have HTx1 := Lib.hid hx2
  clear hbz hx1 hx2 HKx1 HBx1m HUx1m
  have t0 : x1.cell? ⟨x1m.heap.size + 1, 0, none⟩ = some (.int .i64 0) := HTx1.out.cell 0
  go_upto_region 7 with fail
  clear t0
  refine wp_region_list ?_
  refine wpList_load_mid rfl 27 (.tmp 9) rfl (x1m.heap.size) (0) rfl [.slice a1 (c).ns.length c1, .slice b1 (c).ts.length d1, .slice e1 (c).bs.length f1, .int .u64 ((c).fe : Nat)] _ (HXx1.out.range 0) Try.underlying27 rfl rfl ?_
  refine wpList_plain rfl fun K hK => ?_
  go_simp
  refine hK _ _ ?_
  clear hK K
  refine wpList_plain rfl fun K hK => ?_
  go_wp2_with fail
  refine (HU2.out x1 _ _ _ _ _ _ (Lib.hid HKNx1.out.books)).mono ?_
  rintro e x2m ⟨rfl, hb⟩
  refine hK _ _ ?_
  clear hK K
  have HPm := Lib.hid (HP.out.below hb)
  have HAx0m := Lib.hid (HAx0.out.below hb)
  have HBx2m : Hid (Below w.heap.size w x2m) := HBx1.out.trans (hb.mono HBx1.out.size)
  have HUx2m : Hid (Below x1.heap.size x1 x2m) := hb
  clear hb
  refine wpList_plain rfl fun K hK => ?_
  go_simp
  refine hK _ _ ?_
  clear hK K
  refine wpList_plain rfl fun K hK => ?_
  go_simp
  refine hK _ _ ?_
  clear hK K
  refine wpList_plain rfl fun K hK => ?_
  go_simp
  refine hK _ _ ?_
  clear hK K
  refine wpList_plain rfl fun K hK => ?_
  go_simp
  refine hK _ _ ?_
  clear hK K
  have HNQ : Hid (x0m.heap.size ≠ x2m.heap.size) := by have h := HAx0m.out.lt; show _ ≠ _; omega
  obtain ⟨th1, hbz, hx1⟩ := one_made x2m [.int .i64 0, .int .i64 0, .int .i64 0] [.int .i64 (p0 b.ts.length), .int .i64 (p1 b.ts.length), .int .i64 (p2 b.ts.length)] 29 rfl
  refine wpList_store_mid rfl 29 (.tmp 11) (.tmp 45) rfl (x2m.heap.size) 0 #[.int .i64 (p0 b.ts.length), .int .i64 (p1 b.ts.length), .int .i64 (p2 b.ts.length)] rfl rfl th1 rfl (all_oneCell_toArray (List.all_eq_true.1 (show List.all ([.int .i64 (p0 b.ts.length), .int .i64 (p1 b.ts.length), .int .i64 (p2 b.ts.length)] : List Value) (fun v => v.oneCell') = true from rfl))) ?_
  rw [show (#[.int .i64 (p0 b.ts.length), .int .i64 (p1 b.ts.length), .int .i64 (p2 b.ts.length)] : Array Value).toList = [.int .i64 (p0 b.ts.length), .int .i64 (p1 b.ts.length), .int .i64 (p2 b.ts.length)] from rfl]
  clear th1
  generalize (x2m.alloc (.cells #[.int .i64 0, .int .i64 0, .int .i64 0] 29)).setCells x2m.heap.size 0 [.int .i64 (p0 b.ts.length), .int .i64 (p1 b.ts.length), .int .i64 (p2 b.ts.length)] = x2 at *
  have HP2 := Lib.hid (HPm.out.below hbz)
  clear HP HPm
  have HP := HP2
  clear HP2
  have HAx02 := Lib.hid (HAx0m.out.below hbz)
  clear HAx0 HAx0m
  have HAx0 := HAx02
  clear HAx02
  have HBx2 : Hid (Below w.heap.size w x2) := HBx2m.out.trans (hbz.mono HBx2m.out.size)
  have HUx2 : Hid (Below x1.heap.size x1 x2) := HUx2m.out.trans (hbz.mono HUx2m.out.size)
  have HAx2 := Lib.hid hx1
  clear hbz hx1 HBx2m HUx2m
  refine wpList_plain rfl fun K hK => ?_
  go_simp
  refine hK _ _ ?_
  clear hK K
  refine wpList_nil ?_
  have HPP : Hid (x0m.heap.size ≠ x2m.heap.size ∧ w.heap.size ≤ x0m.heap.size) := ⟨HNQ.out, HLO.out⟩
  have k1 : x2.cell? ⟨w.heap.size, 1, none⟩ = some (.slice b0 (b).ts.length d0) := HP.out.cell 1
  clear HU1 HU2 HD1 HXx1 HTx1 HKNx1 HUx0 HUx1 HUx2 HP HBK
  go_wp2
  clear k1
  go_loopg [50] b.ts.length (fun gg i wx => ∃ j : Nat, j + gg = b.ts.length ∧ i = .int .i64 j ∧ Aside (Hd.Bxn wx x0m.heap.size [.int .i64 (p0 j), .int .i64 (p1 j), .int .i64 (p2 j)] ∧ Hd.Bxn wx x2m.heap.size [.int .i64 (p0 b.ts.length), .int .i64 (p1 b.ts.length), .int .i64 (p2 b.ts.length)] ∧ Below w.heap.size w wx))
  case atStart => exact ⟨0, by omega, rfl, ⟨HAx0.out, HAx2.out, HBx2.out⟩⟩
  case round =>
    obtain ⟨j, hjg, rfl, HA⟩ := hrel
    clear HAx0 HAx2 HBx2
    cases gk with
    | zero =>
      obtain rfl : j = b.ts.length := by omega
      clear hjg
      have s0 : wr.cell? ⟨x0m.heap.size, 0, none⟩ = some (.int .i64 (p0 b.ts.length)) := HA.out.1.cell 0
      have s1 : wr.cell? ⟨x0m.heap.size, 1, none⟩ = some (.int .i64 (p1 b.ts.length)) := HA.out.1.cell 1
      have s2 : wr.cell? ⟨x0m.heap.size, 2, none⟩ = some (.int .i64 (p2 b.ts.length)) := HA.out.1.cell 2
      have q0 : wr.cell? ⟨x2m.heap.size, 0, none⟩ = some (.int .i64 (p0 b.ts.length)) := HA.out.2.1.cell 0
      have q1 : wr.cell? ⟨x2m.heap.size, 1, none⟩ = some (.int .i64 (p1 b.ts.length)) := HA.out.2.1.cell 1
      have q2 : wr.cell? ⟨x2m.heap.size, 2, none⟩ = some (.int .i64 (p2 b.ts.length)) := HA.out.2.1.cell 2
      have HE : Hid (Below w.heap.size w wr) := HA.out.2.2
      have gq := Rg.guard_arr
      have hq := eq_arr2 (p0 b.ts.length) (p1 b.ts.length) (p2 b.ts.length)
      clear HA
      go_wp2
      go_ret
      exact ⟨rfl, HE.out⟩
    | succ gg =>
      have hlk : j < b.ts.length := by omega
      have t2 : (j : Int) < (b.ts.length : Int) := by omega
      have t3 : IntKind.i64.wrap ((j : Int) + 1) = (j : Int) + 1 := by rw [IntKind.wrap_i64]; have := HLT.out; omega
      have t4 : (0 : Int) ≤ (j : Int) := by omega
      have HS : Hid (Hd.Bxn wr x0m.heap.size [.int .i64 (p0 j), .int .i64 (p1 j), .int .i64 (p2 j)]) := HA.out.1
      have HR : Hid (Hd.Bxn wr x2m.heap.size [.int .i64 (p0 b.ts.length), .int .i64 (p1 b.ts.length), .int .i64 (p2 b.ts.length)]) := HA.out.2.1
      have HBr : Hid (Below w.heap.size w wr) := HA.out.2.2
      clear HA
      obtain ⟨zB, hzB0⟩ : ∃ z : Nat, wr.heap.size = z := ⟨_, rfl⟩
      have HZB := Lib.hid hzB0
      clear hzB0
      obtain ⟨g, o, hb0e, hgl, hrr⟩ := HRW.out (by omega)
      obtain ⟨x, hx0, hax⟩ := hrr j hlk
      have HXE : Hid (x.td = b.ts[j]) := hx0
      clear hx0
      have hrow : wr.rangeAt g (o + j * 9) [.string x.td.n, .int .i64 x.td.z0, .int .i64 x.td.z1, .int .i64 x.td.z2, .slice x.a4 x.td.ws.length x.c4, .slice x.a5 x.td.bs.length x.c5, .string x.td.g, .string x.td.a, .int .i64 x.td.r] := rng_at2 (hax.keep HBr.out hgl)
      clear hax hrr
      subst hb0e
      go_upto_region 10 with fail
      refine wp_region_list ?_
      refine wpList_plain rfl fun K hK => ?_
      go_simp
      refine hK _ _ ?_
      clear hK K
      refine wpList_load_mid rfl 42 (.tmp 52) rfl (g) (o + j * 9) rfl [.string x.td.n, .int .i64 x.td.z0, .int .i64 x.td.z1, .int .i64 x.td.z2, .slice x.a4 x.td.ws.length x.c4, .slice x.a5 x.td.bs.length x.c5, .string x.td.g, .string x.td.a, .int .i64 x.td.r] _ (hrow) Try.underlying42 rfl rfl ?_
      refine wpList_plain rfl fun K hK => ?_
      go_simp
      refine hK _ _ ?_
      clear hK K
      obtain ⟨th1, hbz, hx1⟩ := one_made wr [.string ⟨#[]⟩, .int .i64 0, .int .i64 0, .int .i64 0, .slice none 0 0, .slice none 0 0, .string ⟨#[]⟩, .string ⟨#[]⟩, .int .i64 0] [.string x.td.n, .int .i64 x.td.z0, .int .i64 x.td.z1, .int .i64 x.td.z2, .slice x.a4 x.td.ws.length x.c4, .slice x.a5 x.td.bs.length x.c5, .string x.td.g, .string x.td.a, .int .i64 x.td.r] 42 rfl
      refine wpList_store_mid rfl 42 (.tmp 14) (.tmp 53) rfl (wr.heap.size) 0 #[.string x.td.n, .int .i64 x.td.z0, .int .i64 x.td.z1, .int .i64 x.td.z2, .slice x.a4 x.td.ws.length x.c4, .slice x.a5 x.td.bs.length x.c5, .string x.td.g, .string x.td.a, .int .i64 x.td.r] rfl rfl th1 rfl (all_oneCell_toArray (List.all_eq_true.1 (show List.all ([.string x.td.n, .int .i64 x.td.z0, .int .i64 x.td.z1, .int .i64 x.td.z2, .slice x.a4 x.td.ws.length x.c4, .slice x.a5 x.td.bs.length x.c5, .string x.td.g, .string x.td.a, .int .i64 x.td.r] : List Value) (fun v => v.oneCell') = true from rfl))) ?_
      rw [show (#[.string x.td.n, .int .i64 x.td.z0, .int .i64 x.td.z1, .int .i64 x.td.z2, .slice x.a4 x.td.ws.length x.c4, .slice x.a5 x.td.bs.length x.c5, .string x.td.g, .string x.td.a, .int .i64 x.td.r] : Array Value).toList = [.string x.td.n, .int .i64 x.td.z0, .int .i64 x.td.z1, .int .i64 x.td.z2, .slice x.a4 x.td.ws.length x.c4, .slice x.a5 x.td.bs.length x.c5, .string x.td.g, .string x.td.a, .int .i64 x.td.r] from rfl]
      clear th1 hrow
      generalize (wr.alloc (.cells #[.string ⟨#[]⟩, .int .i64 0, .int .i64 0, .int .i64 0, .slice none 0 0, .slice none 0 0, .string ⟨#[]⟩, .string ⟨#[]⟩, .int .i64 0] 42)).setCells wr.heap.size 0 [.string x.td.n, .int .i64 x.td.z0, .int .i64 x.td.z1, .int .i64 x.td.z2, .slice x.a4 x.td.ws.length x.c4, .slice x.a5 x.td.bs.length x.c5, .string x.td.g, .string x.td.a, .int .i64 x.td.r] = y at *
      have HSy := Lib.hid (HS.out.below hbz)
      have HRy := Lib.hid (HR.out.below hbz)
      have HTy := Lib.hid hx1
      have HBy : Hid (Below w.heap.size w y) := HBr.out.trans (hbz.mono HBr.out.size)
      have HNE : Hid (x0m.heap.size < wr.heap.size ∧ x2m.heap.size < wr.heap.size) := ⟨HS.out.lt, HR.out.lt⟩
      clear hbz hx1 HS HR HBr
      refine wpList_nil ?_
      have hzB := HZB.out
      rw [hzB] at HTy HNE ⊢
      clear hzB HZB
      have hx := HXE.out
      have n0 : y.cell? ⟨zB, 0, none⟩ = some (.string x.td.n) := HTy.out.cell 0
      by_cases hk : x.td.n = k
      · have tk : (x.td.n.toList == k.toList) = true := by rw [hk]; simp
        have hkb : b.ts[j].n = k := by rw [← hx]; exact hk
        obtain ⟨e0, e1, e2⟩ := HSY.out j hlk hkb
        rw [← hx] at e0 e1 e2
        have hd := HBD.out j
        have hkt := amtT (HKT.out x.td (by rw [hx]; exact List.getElem_mem hlk))
        have HM : Hid (x.td ∈ b.ts) := by rw [hx]; exact List.getElem_mem hlk
        have v0 : IntKind.i64.wrap (p0 j + x.td.z0) = p0 j + x.td.z0 := by rw [IntKind.wrap_i64]; omega
        have v1 : IntKind.i64.wrap (p1 j + x.td.z1) = p1 j + x.td.z1 := by rw [IntKind.wrap_i64]; omega
        have v2 : IntKind.i64.wrap (p2 j + x.td.z2) = p2 j + x.td.z2 := by rw [IntKind.wrap_i64]; omega
        have HES : Hid (p0 (j + 1) = p0 j + x.td.z0 ∧ p1 (j + 1) = p1 j + x.td.z1 ∧ p2 (j + 1) = p2 j + x.td.z2) := ⟨e0, e1, e2⟩
        have HJ : Hid (j < b.ts.length) := hlk
        clear e0 e1 e2 hd hkt hk hkb hx HXE
        go_wp2
        clear n0 tk
        go_loopg [58] 3 (fun g2 i wx => ∃ m : Nat, m + g2 = 3 ∧ i = .int .i64 m ∧ Aside (Hd.Bxn wx x0m.heap.size (l3 (p0 j) (p1 j) (p2 j) x.td.z0 x.td.z1 x.td.z2 m) ∧ Hd.Bxn wx x2m.heap.size [.int .i64 (p0 b.ts.length), .int .i64 (p1 b.ts.length), .int .i64 (p2 b.ts.length)] ∧ Below w.heap.size w wx ∧ Hd.Bxn wx zB [.string x.td.n, .int .i64 x.td.z0, .int .i64 x.td.z1, .int .i64 x.td.z2, .slice x.a4 x.td.ws.length x.c4, .slice x.a5 x.td.bs.length x.c5, .string x.td.g, .string x.td.a, .int .i64 x.td.r]))
        case atStart => exact ⟨0, by omega, rfl, ⟨HSy.out, HRy.out, HBy.out, HTy.out⟩⟩
        case round =>
          obtain ⟨m, hmg, rfl, HA⟩ := hrel
          clear HSy HRy HBy HTy
          cases gk with
          | zero =>
            obtain rfl : m = 3 := by omega
            have HZ1 := Lib.hid HA.out.1
            have HZ2 := Lib.hid HA.out.2.1
            have HZ3 := Lib.hid HA.out.2.2.1
            clear HA hmg
            go_wp2
            go_roundg gg
            case measure => omega
            case rel => exact ⟨j + 1, by omega, by simp, ⟨by rw [HES.out.1, HES.out.2.1, HES.out.2.2]; exact HZ1.out, HZ2.out, HZ3.out⟩⟩
          | succ g2 =>
            rcases (by omega : m = 0 ∨ m = 1 ∨ m = 2) with rfl | rfl | rfl
            · have c1 : wr.cell? ⟨x0m.heap.size, 0, none⟩ = some (.int .i64 (p0 j)) := HA.out.1.cell 0
              have f1 : wr.frozen? ⟨x0m.heap.size, 0, none⟩ = false := HA.out.1.fz 0
              have c2 : wr.cell? ⟨zB, 1, none⟩ = some (.int .i64 (x.td.z0)) := HA.out.2.2.2.cell 1
              have HN : Hid (Hd.Bxn (wr.setCell ⟨x0m.heap.size, 0, none⟩ (.int .i64 (p0 j + x.td.z0))) x0m.heap.size [.int .i64 (p0 j + x.td.z0), .int .i64 (p1 j), .int .i64 (p2 j)] ∧ Hd.Bxn (wr.setCell ⟨x0m.heap.size, 0, none⟩ (.int .i64 (p0 j + x.td.z0))) x2m.heap.size [.int .i64 (p0 b.ts.length), .int .i64 (p1 b.ts.length), .int .i64 (p2 b.ts.length)] ∧ Below w.heap.size w (wr.setCell ⟨x0m.heap.size, 0, none⟩ (.int .i64 (p0 j + x.td.z0))) ∧ Hd.Bxn (wr.setCell ⟨x0m.heap.size, 0, none⟩ (.int .i64 (p0 j + x.td.z0))) zB [.string x.td.n, .int .i64 x.td.z0, .int .i64 x.td.z1, .int .i64 x.td.z2, .slice x.a4 x.td.ws.length x.c4, .slice x.a5 x.td.bs.length x.c5, .string x.td.g, .string x.td.a, .int .i64 x.td.r]) :=
                ⟨HA.out.1.set 0 _, HA.out.2.1.apart HPP.out.1 0 _, HA.out.2.2.1.setCell HPP.out.2 _, HA.out.2.2.2.apart (by have := HNE.out.1; omega) 0 _⟩
              clear HA
              go_upto_region 15 with fail
              go_region
              all_goals
                go_wp2
                go_roundg g2
                case measure => omega
                case rel => exact ⟨1, by omega, rfl, ⟨HN.out.1.below (Below.refl _ _).drew, HN.out.2.1.below (Below.refl _ _).drew, HN.out.2.2.1.drew, HN.out.2.2.2.below (Below.refl _ _).drew⟩⟩
            · have c1 : wr.cell? ⟨x0m.heap.size, 1, none⟩ = some (.int .i64 (p1 j)) := HA.out.1.cell 1
              have f1 : wr.frozen? ⟨x0m.heap.size, 1, none⟩ = false := HA.out.1.fz 1
              have c2 : wr.cell? ⟨zB, 2, none⟩ = some (.int .i64 (x.td.z1)) := HA.out.2.2.2.cell 2
              have HN : Hid (Hd.Bxn (wr.setCell ⟨x0m.heap.size, 1, none⟩ (.int .i64 (p1 j + x.td.z1))) x0m.heap.size [.int .i64 (p0 j + x.td.z0), .int .i64 (p1 j + x.td.z1), .int .i64 (p2 j)] ∧ Hd.Bxn (wr.setCell ⟨x0m.heap.size, 1, none⟩ (.int .i64 (p1 j + x.td.z1))) x2m.heap.size [.int .i64 (p0 b.ts.length), .int .i64 (p1 b.ts.length), .int .i64 (p2 b.ts.length)] ∧ Below w.heap.size w (wr.setCell ⟨x0m.heap.size, 1, none⟩ (.int .i64 (p1 j + x.td.z1))) ∧ Hd.Bxn (wr.setCell ⟨x0m.heap.size, 1, none⟩ (.int .i64 (p1 j + x.td.z1))) zB [.string x.td.n, .int .i64 x.td.z0, .int .i64 x.td.z1, .int .i64 x.td.z2, .slice x.a4 x.td.ws.length x.c4, .slice x.a5 x.td.bs.length x.c5, .string x.td.g, .string x.td.a, .int .i64 x.td.r]) :=
                ⟨HA.out.1.set 1 _, HA.out.2.1.apart HPP.out.1 1 _, HA.out.2.2.1.setCell HPP.out.2 _, HA.out.2.2.2.apart (by have := HNE.out.1; omega) 1 _⟩
              clear HA
              go_upto_region 15 with fail
              go_region
              all_goals
                go_wp2
                go_roundg g2
                case measure => omega
                case rel => exact ⟨2, by omega, rfl, ⟨HN.out.1.below (Below.refl _ _).drew, HN.out.2.1.below (Below.refl _ _).drew, HN.out.2.2.1.drew, HN.out.2.2.2.below (Below.refl _ _).drew⟩⟩
            · have c1 : wr.cell? ⟨x0m.heap.size, 2, none⟩ = some (.int .i64 (p2 j)) := HA.out.1.cell 2
              have f1 : wr.frozen? ⟨x0m.heap.size, 2, none⟩ = false := HA.out.1.fz 2
              have c2 : wr.cell? ⟨zB, 3, none⟩ = some (.int .i64 (x.td.z2)) := HA.out.2.2.2.cell 3
              have HN : Hid (Hd.Bxn (wr.setCell ⟨x0m.heap.size, 2, none⟩ (.int .i64 (p2 j + x.td.z2))) x0m.heap.size [.int .i64 (p0 j + x.td.z0), .int .i64 (p1 j + x.td.z1), .int .i64 (p2 j + x.td.z2)] ∧ Hd.Bxn (wr.setCell ⟨x0m.heap.size, 2, none⟩ (.int .i64 (p2 j + x.td.z2))) x2m.heap.size [.int .i64 (p0 b.ts.length), .int .i64 (p1 b.ts.length), .int .i64 (p2 b.ts.length)] ∧ Below w.heap.size w (wr.setCell ⟨x0m.heap.size, 2, none⟩ (.int .i64 (p2 j + x.td.z2))) ∧ Hd.Bxn (wr.setCell ⟨x0m.heap.size, 2, none⟩ (.int .i64 (p2 j + x.td.z2))) zB [.string x.td.n, .int .i64 x.td.z0, .int .i64 x.td.z1, .int .i64 x.td.z2, .slice x.a4 x.td.ws.length x.c4, .slice x.a5 x.td.bs.length x.c5, .string x.td.g, .string x.td.a, .int .i64 x.td.r]) :=
                ⟨HA.out.1.set 2 _, HA.out.2.1.apart HPP.out.1 2 _, HA.out.2.2.1.setCell HPP.out.2 _, HA.out.2.2.2.apart (by have := HNE.out.1; omega) 2 _⟩
              clear HA
              go_upto_region 15 with fail
              go_region
              all_goals
                go_wp2
                go_roundg g2
                case measure => omega
                case rel => exact ⟨3, by omega, rfl, ⟨HN.out.1.below (Below.refl _ _).drew, HN.out.2.1.below (Below.refl _ _).drew, HN.out.2.2.1.drew, HN.out.2.2.2.below (Below.refl _ _).drew⟩⟩
      · obtain ⟨tk, tk2⟩ := Hd.ba_no hk
        have hkb : ¬ b.ts[j].n = k := by rw [← hx]; exact hk
        obtain ⟨e0, e1, e2⟩ := HSN.out j hlk hkb
        have HES : Hid (p0 (j + 1) = p0 j ∧ p1 (j + 1) = p1 j ∧ p2 (j + 1) = p2 j) := ⟨e0, e1, e2⟩
        have HJ : Hid (j < b.ts.length) := hlk
        clear e0 e1 e2 hkb hx HXE
        go_wp2
        go_roundg gg
        case measure => omega
        case rel => exact ⟨j + 1, by omega, by simp, ⟨by rw [HES.out.1, HES.out.2.1, HES.out.2.2]; exact HSy.out, HRy.out, HBy.out⟩⟩
theorem used_law (b : Bk) (k v : ByteArray) (vb0 : Value) (w : World) (hb : BookArg w vb0 b) (hfk : FitS k) (hfv : FitS v) :
    Calls Try.prog 3 #[vb0, .string k, .string v] w fun e w' => e = .returned (.bool true) ∧ Below w.heap.size w w' := by
  rcases used_plain b k v with ⟨c, q, h1, hq⟩ | ⟨c, h1, hu0, huc, e0, e1, e2, hr⟩
  · exact used_law_no b c q k v vb0 w hb hfk hfv h1 hq
  · exact used_law_yes b c k v vb0 w hb hfk hfv h1 hu0 huc e0 e1 e2 hr
end Bo
end Go.Proofs.Ytaipbaegbpebkaa
