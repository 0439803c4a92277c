/-
  NAMES: gafferlaw08.BookNames.
-/
import Derived.Test.YtaipbaegbpebkaaGreatBgZ
import Derived.Test.YtaipbaegbpebkaaGreatBoSame
import Derived.Test.YtaipbaegbpebkaaGreatBoArg
namespace Go.Proofs.YtaipbaegbpebkaaGreat
open Go.RowKit Go.Lib
namespace Bo
open Rw
set_option linter.unusedVariables false
def oTask (t : Hd.Td) : Hd.Cd := lvO Hd.nd0 t 3 ⟨#[]⟩ ⟨#[]⟩ 0
def oDone (k : ByteArray) : Hd.Cd := lvO Hd.nd0 Hd.td0 4 k ⟨#[]⟩ 0
theorem form_task (t : Hd.Td) : Hd.coB (oTask t) = true := rfl
theorem form_done (k : ByteArray) : Hd.coB (oDone k) = true := rfl
theorem fitS0 : FitS ⟨#[]⟩ := by unfold FitS; decide +kernel
theorem do_task {b : Bk} (h : chkB b = true) (t : Hd.Td) : doF b (oTask t) = ((adT b t).1, (adT b t).2, ByteArray.empty) := by
  unfold doF
  rw [if_pos h]
  unfold doV
  rw [if_pos (form_task t), if_neg (show ¬ (oTask t).k = 7 from by show ¬ (3 : Nat) = 7; decide)]
  rfl
theorem do_done {b : Bk} (h : chkB b = true) (k : ByteArray) : doF b (oDone k) = ((doT b k).1, (doT b k).2, ByteArray.empty) := by
  unfold doF
  rw [if_pos h]
  unfold doV
  rw [if_pos (form_done k), if_neg (show ¬ (oDone k).k = 7 from by show ¬ (4 : Nat) = 7; decide)]
  rfl
theorem er_ins {α : Type} (l : List α) (i : Nat) (x : α) (h : i ≤ l.length) : (insR l i x).eraseIdx i = l := by
  unfold insR
  rw [List.eraseIdx_append_of_length_le (by rw [List.length_take]; omega), List.length_take, Nat.min_eq_left h, Nat.sub_self, List.eraseIdx_cons_zero, List.take_append_drop]
/-- A task is put, put again, and gone. -/
theorem names_plain (b : Bk) (t : Hd.Td) : (∃ c r, r ≠ 0 ∧ doF b (oTask t) = (c, r, ByteArray.empty)) ∨ (∃ c, doF b (oTask t) = (c, 0, ByteArray.empty) ∧ c.ts.length = b.ts.length + 1 ∧ doF c (oTask t) = (c, 7, ByteArray.empty) ∧ doF c (oDone t.n) = (b, 0, ByteArray.empty)) := by
  by_cases hc : chkB b = true
  · have hr := rb_of_chk hc
    by_cases h0 : (adT b t).2 = 0
    · refine .inr ⟨(adT b t).1, by rw [do_task hc, h0], ?_⟩
      have hck := chk_of_rb (hr.adT t)
      have hv := h0
      unfold adT at hv
      split at hv
      · rename_i he
        split at hv
        · cases hv
        · rename_i hh
          split at hv
          · cases hv
          · rename_i hl
            have hh2 : hasK (b.ts.map (·.n)) t.n = false := by simpa [hsT] using hh
            have hle : lbT b.ts t.n ≤ b.ts.length := by have := lb_le (b.ts.map (·.n)) t.n; rw [List.length_map] at this; exact this
            have hb : (adT b t).1 = ⟨b.ns, insR b.ts (lbT b.ts t.n) t, b.bs, b.fe⟩ := by
              unfold adT
              rw [if_pos he, if_neg hh, if_neg hl]
            rw [hb] at hck ⊢
            have hin : hsT (insR b.ts (lbT b.ts t.n) t) t.n = true := (in_has t.n).2 (.inl rfl)
            have hlb : lbT (insR b.ts (lbT b.ts t.n) t) t.n = lbT b.ts t.n := by
              unfold lbT
              rw [insR_map]
              exact lb_ins hr.rt hh2
            refine ⟨insR_len _ _ _ hle, ?_, ?_⟩
            · rw [do_task hck]
              unfold adT
              rw [if_pos he, if_pos hin]
            · rw [do_done hck]
              unfold doT
              rw [if_pos hin, hlb, er_ins _ _ _ hle]
              have hd : drB b.bs t.n = b.bs := by
                unfold drB
                rw [if_neg]
                intro h5
                obtain ⟨o, ho, hk⟩ := has_mem h5
                have := (hr.on o ho).1
                rw [hk, hh2] at this
                cases this
              show ((⟨b.ns, b.ts, drB b.bs t.n, b.fe⟩ : Bk), _, _) = _
              rw [hd]
      · rename_i he
        exact absurd hv he
    · exact .inl ⟨_, _, h0, do_task hc t⟩
  · refine .inl ⟨bk0, 10, by decide, ?_⟩
    unfold doF
    rw [if_neg hc]
set_option maxRecDepth 100000 in
set_option maxHeartbeats 4000000 in
theorem names_law (b : Bk) (x : TdM) (vb0 vx : Value) (w : World) (hb : BookArg w vb0 b) (hx : TaskArg w vx x) :
    Calls Tryz.prog 9 #[vb0, vx] w fun e w' => e = .returned (.bool true) ∧ Below w.heap.size w w' := by
  obtain ⟨vn, vt, vb, rfl, hB⟩ := hb
  obtain ⟨hvx, hdx, hfx⟩ := hx
  obtain rfl : vx = .agg #[.string x.td.n, .int .i64 x.td.z0, .int .i64 x.td.z1, .int .i64 x.td.z2, .slice x.a4 x.td.ws.length x.c4, .slice x.a5 x.td.bs.length x.c5, .string x.td.g, .string x.td.a, .int .i64 x.td.r] := hvx
  obtain ⟨⟨a0, c0, rfl⟩, ⟨b0, d0, rfl⟩, ⟨e0, f0, rfl⟩⟩ := And.intro hB.hn.slice (And.intro hB.ht.slice hB.hb.slice)
  obtain ⟨W0, hW0⟩ : ∃ W0, W0 = (w.alloc (.cells #[.slice a0 (b).ns.length c0, .slice b0 (b).ts.length d0, .slice e0 (b).bs.length f0, .int .u64 ((b).fe : Nat)] 27)).alloc (.cells #[.string x.td.n, .int .i64 x.td.z0, .int .i64 x.td.z1, .int .i64 x.td.z2, .slice x.a4 x.td.ws.length x.c4, .slice x.a5 x.td.bs.length x.c5, .string x.td.g, .string x.td.a, .int .i64 x.td.r] 34) := ⟨_, rfl⟩
  have hf0 : Fr2 w W0 [.slice a0 (b).ns.length c0, .slice b0 (b).ts.length d0, .slice e0 (b).bs.length f0, .int .u64 ((b).fe : Nat)] [.string x.td.n, .int .i64 x.td.z0, .int .i64 x.td.z1, .int .i64 x.td.z2, .slice x.a4 x.td.ws.length x.c4, .slice x.a5 x.td.bs.length x.c5, .string x.td.g, .string x.td.a, .int .i64 x.td.r] := by rw [hW0]; exact Fr2.made w _ _ _ _
  have HL : Hid (Calls Tryz.prog 13 #[] W0 fun e w' => e = .returned (.bool true) ∧ Below W0.heap.size W0 w') := lives_any W0
  have HBK : Hid (∀ z, Hid (Below w.heap.size w z) → Hid (Books z z.heap.size (.slice a0 (b).ns.length c0) (.slice b0 (b).ts.length d0) (.slice e0 (b).bs.length f0) (b))) := fun z hz => hB.on hz.out
  have HDX : Hid (∀ z, Hid (Below w.heap.size w z) → DeepT z z.heap.size x) := fun z hz => hdx.on hz.out
  have HFX := Lib.hid hfx
  have HW := Lib.hid hW0
  have HF0 := Lib.hid hf0
  have hpl := names_plain b x.td
  clear hW0 hf0 hB hdx hfx
  rcases hpl with ⟨c, r, hr0, h1⟩ | ⟨c, h1, hln, h2, h3⟩
  · have HD1 : Hid (∀ z g1 n1 g2 n2 g3 n3, Hid (Below w.heap.size w z) → Hid (Books z z.heap.size (.slice g1 (b).ns.length n1) (.slice g2 (b).ts.length n2) (.slice g3 (b).bs.length n3) (b)) → Calls Tryz.prog 11 #[.agg #[.slice g1 (b).ns.length n1, .slice g2 (b).ts.length n2, .slice g3 (b).bs.length n3, .int .u64 ((b).fe : Nat)], .agg #[.int .u8 3, .string ⟨#[]⟩, .int .i64 0, .int .i64 0, .int .i64 0, .slice none 0 0, .slice none 0 0, .string x.td.n, .int .i64 x.td.z0, .int .i64 x.td.z1, .int .i64 x.td.z2, .slice x.a4 x.td.ws.length x.c4, .slice x.a5 x.td.bs.length x.c5, .string x.td.g, .string x.td.a, .int .i64 x.td.r, .string ⟨#[]⟩, .string ⟨#[]⟩, .int .u64 0]] z fun e w' => ∃ vn' vt' vb', e = .returned (.tuple #[.agg #[vn', vt', vb', .int .u64 ((c).fe : Nat)], .agg #[.int .i64 (r : Nat), .string ⟨#[]⟩]]) ∧ Kept z w' (c) vn' vt' vb' ∧ Below z.heap.size z w') := fun z g1 n1 g2 n2 g3 n3 hwz hz => do_use (b) (c) _ _ _ _ _ (oTask x.td) none none x.a4 x.a5 0 0 x.c4 x.c5 z hz.out (deepN0 z _ rfl rfl) fitN0 (HDX.out z hwz) HFX.out ⟨fitS0, fitS0⟩ h1
    have t5 : ((r : Int) != 0) = true := by simp; omega
    have t6 : ¬ (r : Int) = 0 := by omega
    clear h1
    go_enter Tryz.func9, Tryz.ntmps9
    go_upto_region 1 with fail
    rw [← HW.out]
    go_wp2_with fail
    refine HL.out.mono ?_
    rintro e w1 ⟨rfl, hb⟩
    have HP := Lib.hid (HF0.out.p.below hb)
    have HQ := Lib.hid (HF0.out.r.below hb)
    have HB1 : Hid (Below w.heap.size w w1) := HF0.out.b.trans (hb.mono HF0.out.b.size)
    clear hb HF0 HL
    go_upto_region 3 with fail
    refine wp_region_list ?_
    refine wpList_load_mid rfl 27 (.tmp 2) rfl (w.heap.size) (0) rfl [.slice a0 (b).ns.length c0, .slice b0 (b).ts.length d0, .slice e0 (b).bs.length f0, .int .u64 ((b).fe : Nat)] _ (HP.out.range 0) Tryz.underlying27 rfl rfl ?_
    refine wpList_load_mid rfl 34 (.tmp 3) rfl (w.heap.size + 1) (0) rfl [.string x.td.n, .int .i64 x.td.z0, .int .i64 x.td.z1, .int .i64 x.td.z2, .slice x.a4 x.td.ws.length x.c4, .slice x.a5 x.td.bs.length x.c5, .string x.td.g, .string x.td.a, .int .i64 x.td.r] _ (HQ.out.range 0) Tryz.underlying34 rfl rfl ?_
    refine wpList_plain rfl fun K hK => ?_
    go_simp
    refine hK _ _ ?_
    clear hK K
    refine wpList_plain rfl fun K hK => ?_
    go_wp2_with fail
    refine (HD1.out w1 _ _ _ _ _ _ HB1 (HBK.out _ HB1)).mono ?_
    rintro e x1m ⟨v1, v2, v3, rfl, hkp, hb⟩
    obtain ⟨⟨a1, c1, rfl⟩, ⟨b1, d1, rfl⟩, ⟨e1, f1, rfl⟩⟩ := hkp.slices
    refine hK _ _ ?_
    clear hK K
    have HPm := Lib.hid (HP.out.below hb)
    have HQm := Lib.hid (HQ.out.below hb)
    have HBx1m : Hid (Below w.heap.size w x1m) := HB1.out.trans (hb.mono HB1.out.size)
    have HUx1m : Hid (Below w1.heap.size w1 x1m) := hb
    have HKx1 := Lib.hid hkp
    clear hb hkp
    refine wpList_plain rfl fun K hK => ?_
    go_simp
    refine hK _ _ ?_
    clear hK K
    refine wpList_plain rfl fun K hK => ?_
    go_simp
    refine hK _ _ ?_
    clear hK K
    refine wpList_plain rfl fun K hK => ?_
    go_simp
    refine hK _ _ ?_
    clear hK K
    refine wpList_plain rfl fun K hK => ?_
    go_simp
    refine hK _ _ ?_
    clear hK K
    refine wpList_plain rfl fun K hK => ?_
    go_simp
    refine hK _ _ ?_
    clear hK K
    obtain ⟨th1, th2, hbz, hx1, hx2⟩ := two_made x1m [.slice none 0 0, .slice none 0 0, .slice none 0 0, .int .u64 0] [.int .i64 0, .string ⟨#[]⟩] [.slice a1 (c).ns.length c1, .slice b1 (c).ts.length d1, .slice e1 (c).bs.length f1, .int .u64 ((c).fe : Nat)] [.int .i64 (r : Nat), .string ⟨#[]⟩] 27 40 rfl rfl
    refine wpList_store_mid rfl 27 (.tmp 5) (.tmp 18) rfl (x1m.heap.size) 0 #[.slice a1 (c).ns.length c1, .slice b1 (c).ts.length d1, .slice e1 (c).bs.length f1, .int .u64 ((c).fe : Nat)] rfl rfl th1 rfl (all_oneCell_toArray (List.all_eq_true.1 (show List.all ([.slice a1 (c).ns.length c1, .slice b1 (c).ts.length d1, .slice e1 (c).bs.length f1, .int .u64 ((c).fe : Nat)] : List Value) (fun v => v.oneCell') = true from rfl))) ?_
    rw [show (#[.slice a1 (c).ns.length c1, .slice b1 (c).ts.length d1, .slice e1 (c).bs.length f1, .int .u64 ((c).fe : Nat)] : Array Value).toList = [.slice a1 (c).ns.length c1, .slice b1 (c).ts.length d1, .slice e1 (c).bs.length f1, .int .u64 ((c).fe : Nat)] from rfl]
    refine wpList_store_mid rfl 40 (.tmp 6) (.tmp 19) rfl (x1m.heap.size + 1) 0 #[.int .i64 (r : Nat), .string ⟨#[]⟩] rfl rfl th2 rfl (all_oneCell_toArray (List.all_eq_true.1 (show List.all ([.int .i64 (r : Nat), .string ⟨#[]⟩] : List Value) (fun v => v.oneCell') = true from rfl))) ?_
    rw [show (#[.int .i64 (r : Nat), .string ⟨#[]⟩] : Array Value).toList = [.int .i64 (r : Nat), .string ⟨#[]⟩] from rfl]
    clear th1 th2
    generalize (((x1m.alloc (.cells #[.slice none 0 0, .slice none 0 0, .slice none 0 0, .int .u64 0] 27)).alloc (.cells #[.int .i64 0, .string ⟨#[]⟩] 40)).setCells x1m.heap.size 0 [.slice a1 (c).ns.length c1, .slice b1 (c).ts.length d1, .slice e1 (c).bs.length f1, .int .u64 ((c).fe : Nat)]).setCells (x1m.heap.size + 1) 0 [.int .i64 (r : Nat), .string ⟨#[]⟩] = x1 at *
    refine wpList_nil ?_
    have HP2 := Lib.hid (HPm.out.below hbz)
    clear HP HPm
    have HP := HP2
    clear HP2
    have HQ2 := Lib.hid (HQm.out.below hbz)
    clear HQ HQm
    have HQ := HQ2
    clear HQ2
    have HBx1 : Hid (Below w.heap.size w x1) := HBx1m.out.trans (hbz.mono HBx1m.out.size)
    have HUx1 : Hid (Below w1.heap.size w1 x1) := HUx1m.out.trans (hbz.mono HUx1m.out.size)
    have HKNx1 := Lib.hid (HKx1.out.keep hbz)
    have HXx1 := Lib.hid hx1
    have HTx1 := Lib.hid hx2
    clear hbz hx1 hx2 HKx1 HBx1m HUx1m
    have t0 : x1.cell? ⟨x1m.heap.size + 1, 0, none⟩ = some (.int .i64 (r : Nat)) := HTx1.out.cell 0
    go_wp2
    go_ret
    exact ⟨rfl, HBx1.out⟩
  · have HD1 : Hid (∀ z g1 n1 g2 n2 g3 n3, Hid (Below w.heap.size w z) → Hid (Books z z.heap.size (.slice g1 (b).ns.length n1) (.slice g2 (b).ts.length n2) (.slice g3 (b).bs.length n3) (b)) → Calls Tryz.prog 11 #[.agg #[.slice g1 (b).ns.length n1, .slice g2 (b).ts.length n2, .slice g3 (b).bs.length n3, .int .u64 ((b).fe : Nat)], .agg #[.int .u8 3, .string ⟨#[]⟩, .int .i64 0, .int .i64 0, .int .i64 0, .slice none 0 0, .slice none 0 0, .string x.td.n, .int .i64 x.td.z0, .int .i64 x.td.z1, .int .i64 x.td.z2, .slice x.a4 x.td.ws.length x.c4, .slice x.a5 x.td.bs.length x.c5, .string x.td.g, .string x.td.a, .int .i64 x.td.r, .string ⟨#[]⟩, .string ⟨#[]⟩, .int .u64 0]] z fun e w' => ∃ vn' vt' vb', e = .returned (.tuple #[.agg #[vn', vt', vb', .int .u64 ((c).fe : Nat)], .agg #[.int .i64 0, .string ⟨#[]⟩]]) ∧ Kept z w' (c) vn' vt' vb' ∧ Below z.heap.size z w') := fun z g1 n1 g2 n2 g3 n3 hwz hz => do_use (b) (c) _ _ _ _ _ (oTask x.td) none none x.a4 x.a5 0 0 x.c4 x.c5 z hz.out (deepN0 z _ rfl rfl) fitN0 (HDX.out z hwz) HFX.out ⟨fitS0, fitS0⟩ h1
    have HD2 : Hid (∀ z g1 n1 g2 n2 g3 n3, Hid (Below w.heap.size w z) → Hid (Books z z.heap.size (.slice g1 (c).ns.length n1) (.slice g2 (c).ts.length n2) (.slice g3 (c).bs.length n3) (c)) → Calls Tryz.prog 11 #[.agg #[.slice g1 (c).ns.length n1, .slice g2 (c).ts.length n2, .slice g3 (c).bs.length n3, .int .u64 ((c).fe : Nat)], .agg #[.int .u8 3, .string ⟨#[]⟩, .int .i64 0, .int .i64 0, .int .i64 0, .slice none 0 0, .slice none 0 0, .string x.td.n, .int .i64 x.td.z0, .int .i64 x.td.z1, .int .i64 x.td.z2, .slice x.a4 x.td.ws.length x.c4, .slice x.a5 x.td.bs.length x.c5, .string x.td.g, .string x.td.a, .int .i64 x.td.r, .string ⟨#[]⟩, .string ⟨#[]⟩, .int .u64 0]] z fun e w' => ∃ vn' vt' vb', e = .returned (.tuple #[.agg #[vn', vt', vb', .int .u64 ((c).fe : Nat)], .agg #[.int .i64 7, .string ⟨#[]⟩]]) ∧ Kept z w' (c) vn' vt' vb' ∧ Below z.heap.size z w') := fun z g1 n1 g2 n2 g3 n3 hwz hz => do_use (c) (c) _ _ _ _ _ (oTask x.td) none none x.a4 x.a5 0 0 x.c4 x.c5 z hz.out (deepN0 z _ rfl rfl) fitN0 (HDX.out z hwz) HFX.out ⟨fitS0, fitS0⟩ h2
    have HD3 : Hid (∀ z g1 n1 g2 n2 g3 n3, Hid (Below w.heap.size w z) → Hid (Books z z.heap.size (.slice g1 (c).ns.length n1) (.slice g2 (c).ts.length n2) (.slice g3 (c).bs.length n3) (c)) → Calls Tryz.prog 11 #[.agg #[.slice g1 (c).ns.length n1, .slice g2 (c).ts.length n2, .slice g3 (c).bs.length n3, .int .u64 ((c).fe : Nat)], .agg #[.int .u8 4, .string ⟨#[]⟩, .int .i64 0, .int .i64 0, .int .i64 0, .slice none 0 0, .slice none 0 0, .string ⟨#[]⟩, .int .i64 0, .int .i64 0, .int .i64 0, .slice none 0 0, .slice none 0 0, .string ⟨#[]⟩, .string ⟨#[]⟩, .int .i64 0, .string x.td.n, .string ⟨#[]⟩, .int .u64 0]] z fun e w' => ∃ vn' vt' vb', e = .returned (.tuple #[.agg #[vn', vt', vb', .int .u64 ((b).fe : Nat)], .agg #[.int .i64 0, .string ⟨#[]⟩]]) ∧ Kept z w' (b) vn' vt' vb' ∧ Below z.heap.size z w') := fun z g1 n1 g2 n2 g3 n3 hwz hz => do_use (c) (b) _ _ _ _ _ (oDone x.td.n) none none none none 0 0 0 0 z hz.out (deepN0 z _ rfl rfl) fitN0 (deepT0 z _ rfl rfl) fitT0 ⟨HFX.out.1.1, fitS0⟩ h3
    have HLN := Lib.hid hln
    have hl4 : b.ts.length ≤ 4398046511104 := by obtain ⟨m, hm, -, -, hl⟩ := (HBK.out w (Below.refl _ _)).out.ht; omega
    clear h1 h2 h3 hln
    go_enter Tryz.func9, Tryz.ntmps9
    go_upto_region 1 with fail
    rw [← HW.out]
    go_wp2_with fail
    refine HL.out.mono ?_
    rintro e w1 ⟨rfl, hb⟩
    have HP := Lib.hid (HF0.out.p.below hb)
    have HQ := Lib.hid (HF0.out.r.below hb)
    have HB1 : Hid (Below w.heap.size w w1) := HF0.out.b.trans (hb.mono HF0.out.b.size)
    clear hb HF0 HL
    go_upto_region 3 with fail
    refine wp_region_list ?_
    refine wpList_load_mid rfl 27 (.tmp 2) rfl (w.heap.size) (0) rfl [.slice a0 (b).ns.length c0, .slice b0 (b).ts.length d0, .slice e0 (b).bs.length f0, .int .u64 ((b).fe : Nat)] _ (HP.out.range 0) Tryz.underlying27 rfl rfl ?_
    refine wpList_load_mid rfl 34 (.tmp 3) rfl (w.heap.size + 1) (0) rfl [.string x.td.n, .int .i64 x.td.z0, .int .i64 x.td.z1, .int .i64 x.td.z2, .slice x.a4 x.td.ws.length x.c4, .slice x.a5 x.td.bs.length x.c5, .string x.td.g, .string x.td.a, .int .i64 x.td.r] _ (HQ.out.range 0) Tryz.underlying34 rfl rfl ?_
    refine wpList_plain rfl fun K hK => ?_
    go_simp
    refine hK _ _ ?_
    clear hK K
    refine wpList_plain rfl fun K hK => ?_
    go_wp2_with fail
    refine (HD1.out w1 _ _ _ _ _ _ HB1 (HBK.out _ HB1)).mono ?_
    rintro e x1m ⟨v1, v2, v3, rfl, hkp, hb⟩
    obtain ⟨⟨a1, c1, rfl⟩, ⟨b1, d1, rfl⟩, ⟨e1, f1, rfl⟩⟩ := hkp.slices
    refine hK _ _ ?_
    clear hK K
    have HPm := Lib.hid (HP.out.below hb)
    have HQm := Lib.hid (HQ.out.below hb)
    have HBx1m : Hid (Below w.heap.size w x1m) := HB1.out.trans (hb.mono HB1.out.size)
    have HUx1m : Hid (Below w1.heap.size w1 x1m) := hb
    have HKx1 := Lib.hid hkp
    clear hb hkp
    refine wpList_plain rfl fun K hK => ?_
    go_simp
    refine hK _ _ ?_
    clear hK K
    refine wpList_plain rfl fun K hK => ?_
    go_simp
    refine hK _ _ ?_
    clear hK K
    refine wpList_plain rfl fun K hK => ?_
    go_simp
    refine hK _ _ ?_
    clear hK K
    refine wpList_plain rfl fun K hK => ?_
    go_simp
    refine hK _ _ ?_
    clear hK K
    refine wpList_plain rfl fun K hK => ?_
    go_simp
    refine hK _ _ ?_
    clear hK K
    obtain ⟨th1, th2, hbz, hx1, hx2⟩ := two_made x1m [.slice none 0 0, .slice none 0 0, .slice none 0 0, .int .u64 0] [.int .i64 0, .string ⟨#[]⟩] [.slice a1 (c).ns.length c1, .slice b1 (c).ts.length d1, .slice e1 (c).bs.length f1, .int .u64 ((c).fe : Nat)] [.int .i64 0, .string ⟨#[]⟩] 27 40 rfl rfl
    refine wpList_store_mid rfl 27 (.tmp 5) (.tmp 18) rfl (x1m.heap.size) 0 #[.slice a1 (c).ns.length c1, .slice b1 (c).ts.length d1, .slice e1 (c).bs.length f1, .int .u64 ((c).fe : Nat)] rfl rfl th1 rfl (all_oneCell_toArray (List.all_eq_true.1 (show List.all ([.slice a1 (c).ns.length c1, .slice b1 (c).ts.length d1, .slice e1 (c).bs.length f1, .int .u64 ((c).fe : Nat)] : List Value) (fun v => v.oneCell') = true from rfl))) ?_
    rw [show (#[.slice a1 (c).ns.length c1, .slice b1 (c).ts.length d1, .slice e1 (c).bs.length f1, .int .u64 ((c).fe : Nat)] : Array Value).toList = [.slice a1 (c).ns.length c1, .slice b1 (c).ts.length d1, .slice e1 (c).bs.length f1, .int .u64 ((c).fe : Nat)] from rfl]
    refine wpList_store_mid rfl 40 (.tmp 6) (.tmp 19) rfl (x1m.heap.size + 1) 0 #[.int .i64 0, .string ⟨#[]⟩] rfl rfl th2 rfl (all_oneCell_toArray (List.all_eq_true.1 (show List.all ([.int .i64 0, .string ⟨#[]⟩] : List Value) (fun v => v.oneCell') = true from rfl))) ?_
    rw [show (#[.int .i64 0, .string ⟨#[]⟩] : Array Value).toList = [.int .i64 0, .string ⟨#[]⟩] from rfl]
    clear th1 th2
    generalize (((x1m.alloc (.cells #[.slice none 0 0, .slice none 0 0, .slice none 0 0, .int .u64 0] 27)).alloc (.cells #[.int .i64 0, .string ⟨#[]⟩] 40)).setCells x1m.heap.size 0 [.slice a1 (c).ns.length c1, .slice b1 (c).ts.length d1, .slice e1 (c).bs.length f1, .int .u64 ((c).fe : Nat)]).setCells (x1m.heap.size + 1) 0 [.int .i64 0, .string ⟨#[]⟩] = x1 at *
    refine wpList_nil ?_
    have HP2 := Lib.hid (HPm.out.below hbz)
    clear HP HPm
    have HP := HP2
    clear HP2
    have HQ2 := Lib.hid (HQm.out.below hbz)
    clear HQ HQm
    have HQ := HQ2
    clear HQ2
    have HBx1 : Hid (Below w.heap.size w x1) := HBx1m.out.trans (hbz.mono HBx1m.out.size)
    have HUx1 : Hid (Below w1.heap.size w1 x1) := HUx1m.out.trans (hbz.mono HUx1m.out.size)
    have HKNx1 := Lib.hid (HKx1.out.keep hbz)
    have HXx1 := Lib.hid hx1
    have HTx1 := Lib.hid hx2
    clear hbz hx1 hx2 HKx1 HBx1m HUx1m
    have t0 : x1.cell? ⟨x1m.heap.size + 1, 0, none⟩ = some (.int .i64 0) := HTx1.out.cell 0
    go_upto_region 6 with fail
    clear t0 HTx1
    refine wp_region_list ?_
    refine wpList_load_mid rfl 27 (.tmp 5) rfl (x1m.heap.size) (0) rfl [.slice a1 (c).ns.length c1, .slice b1 (c).ts.length d1, .slice e1 (c).bs.length f1, .int .u64 ((c).fe : Nat)] _ (HXx1.out.range 0) Tryz.underlying27 rfl rfl ?_
    refine wpList_load_mid rfl 34 (.tmp 3) rfl (w.heap.size + 1) (0) rfl [.string x.td.n, .int .i64 x.td.z0, .int .i64 x.td.z1, .int .i64 x.td.z2, .slice x.a4 x.td.ws.length x.c4, .slice x.a5 x.td.bs.length x.c5, .string x.td.g, .string x.td.a, .int .i64 x.td.r] _ (HQ.out.range 0) Tryz.underlying34 rfl rfl ?_
    refine wpList_plain rfl fun K hK => ?_
    go_simp
    refine hK _ _ ?_
    clear hK K
    refine wpList_plain rfl fun K hK => ?_
    go_wp2_with fail
    refine (HD2.out x1 _ _ _ _ _ _ HBx1 HKNx1.out.books).mono ?_
    rintro e x2m ⟨v1, v2, v3, rfl, hkp, hb⟩
    obtain ⟨⟨a2, c2, rfl⟩, ⟨b2, d2, rfl⟩, ⟨e2, f2, rfl⟩⟩ := hkp.slices
    refine hK _ _ ?_
    clear hK K
    have HPm := Lib.hid (HP.out.below hb)
    have HQm := Lib.hid (HQ.out.below hb)
    have HXx1m := Lib.hid (HXx1.out.below hb)
    have HBx2m : Hid (Below w.heap.size w x2m) := HBx1.out.trans (hb.mono HBx1.out.size)
    have HUx2m : Hid (Below x1.heap.size x1 x2m) := hb
    have HKx2 := Lib.hid hkp
    clear hb hkp
    refine wpList_plain rfl fun K hK => ?_
    go_simp
    refine hK _ _ ?_
    clear hK K
    refine wpList_plain rfl fun K hK => ?_
    go_simp
    refine hK _ _ ?_
    clear hK K
    refine wpList_plain rfl fun K hK => ?_
    go_simp
    refine hK _ _ ?_
    clear hK K
    refine wpList_plain rfl fun K hK => ?_
    go_simp
    refine hK _ _ ?_
    clear hK K
    refine wpList_plain rfl fun K hK => ?_
    go_simp
    refine hK _ _ ?_
    clear hK K
    obtain ⟨th1, th2, hbz, hx1, hx2⟩ := two_made x2m [.slice none 0 0, .slice none 0 0, .slice none 0 0, .int .u64 0] [.int .i64 0, .string ⟨#[]⟩] [.slice a2 (c).ns.length c2, .slice b2 (c).ts.length d2, .slice e2 (c).bs.length f2, .int .u64 ((c).fe : Nat)] [.int .i64 7, .string ⟨#[]⟩] 27 40 rfl rfl
    refine wpList_store_mid rfl 27 (.tmp 7) (.tmp 28) rfl (x2m.heap.size) 0 #[.slice a2 (c).ns.length c2, .slice b2 (c).ts.length d2, .slice e2 (c).bs.length f2, .int .u64 ((c).fe : Nat)] rfl rfl th1 rfl (all_oneCell_toArray (List.all_eq_true.1 (show List.all ([.slice a2 (c).ns.length c2, .slice b2 (c).ts.length d2, .slice e2 (c).bs.length f2, .int .u64 ((c).fe : Nat)] : List Value) (fun v => v.oneCell') = true from rfl))) ?_
    rw [show (#[.slice a2 (c).ns.length c2, .slice b2 (c).ts.length d2, .slice e2 (c).bs.length f2, .int .u64 ((c).fe : Nat)] : Array Value).toList = [.slice a2 (c).ns.length c2, .slice b2 (c).ts.length d2, .slice e2 (c).bs.length f2, .int .u64 ((c).fe : Nat)] from rfl]
    refine wpList_store_mid rfl 40 (.tmp 8) (.tmp 29) rfl (x2m.heap.size + 1) 0 #[.int .i64 7, .string ⟨#[]⟩] rfl rfl th2 rfl (all_oneCell_toArray (List.all_eq_true.1 (show List.all ([.int .i64 7, .string ⟨#[]⟩] : List Value) (fun v => v.oneCell') = true from rfl))) ?_
    rw [show (#[.int .i64 7, .string ⟨#[]⟩] : Array Value).toList = [.int .i64 7, .string ⟨#[]⟩] from rfl]
    clear th1 th2
    generalize (((x2m.alloc (.cells #[.slice none 0 0, .slice none 0 0, .slice none 0 0, .int .u64 0] 27)).alloc (.cells #[.int .i64 0, .string ⟨#[]⟩] 40)).setCells x2m.heap.size 0 [.slice a2 (c).ns.length c2, .slice b2 (c).ts.length d2, .slice e2 (c).bs.length f2, .int .u64 ((c).fe : Nat)]).setCells (x2m.heap.size + 1) 0 [.int .i64 7, .string ⟨#[]⟩] = x2 at *
    refine wpList_nil ?_
    have HP2 := Lib.hid (HPm.out.below hbz)
    clear HP HPm
    have HP := HP2
    clear HP2
    have HQ2 := Lib.hid (HQm.out.below hbz)
    clear HQ HQm
    have HQ := HQ2
    clear HQ2
    have HXx12 := Lib.hid (HXx1m.out.below hbz)
    clear HXx1 HXx1m
    have HXx1 := HXx12
    clear HXx12
    have HBx2 : Hid (Below w.heap.size w x2) := HBx2m.out.trans (hbz.mono HBx2m.out.size)
    have HUx2 : Hid (Below x1.heap.size x1 x2) := HUx2m.out.trans (hbz.mono HUx2m.out.size)
    have HKNx2 := Lib.hid (HKx2.out.keep hbz)
    have HXx2 := Lib.hid hx1
    have HTx2 := Lib.hid hx2
    clear hbz hx1 hx2 HKx2 HBx2m HUx2m
    have HKM := Lib.hid (HKNx1.out.books.on HUx2.out)
    clear HD2 HKNx1 HKNx2 HXx2 HUx1 HUx2
    go_upto_region 7 with fail
    refine wp_region_list ?_
    refine wpList_load_mid rfl 27 (.tmp 5) rfl (x1m.heap.size) (0) rfl [.slice a1 (c).ns.length c1, .slice b1 (c).ts.length d1, .slice e1 (c).bs.length f1, .int .u64 ((c).fe : Nat)] _ (HXx1.out.range 0) Tryz.underlying27 rfl rfl ?_
    refine wpList_plain rfl fun K hK => ?_
    go_simp
    refine hK _ _ ?_
    clear hK K
    have k0 : x2.cell? ⟨w.heap.size + 1, 0, none⟩ = some (.string x.td.n) := HQ.out.cell 0
    refine wpList_plain rfl fun K hK => ?_
    go_simp
    refine hK _ _ ?_
    clear hK K
    clear k0
    refine wpList_plain rfl fun K hK => ?_
    go_simp
    refine hK _ _ ?_
    clear hK K
    refine wpList_plain rfl fun K hK => ?_
    go_wp2_with fail
    refine (HD3.out x2 _ _ _ _ _ _ HBx2 HKM).mono ?_
    rintro e x3m ⟨v1, v2, v3, rfl, hkp, hb⟩
    obtain ⟨⟨a3, c3, rfl⟩, ⟨b3, d3, rfl⟩, ⟨e3, f3, rfl⟩⟩ := hkp.slices
    refine hK _ _ ?_
    clear hK K
    have HPm := Lib.hid (HP.out.below hb)
    have HQm := Lib.hid (HQ.out.below hb)
    have HXx1m := Lib.hid (HXx1.out.below hb)
    have HTx2m := Lib.hid (HTx2.out.below hb)
    have HBx3m : Hid (Below w.heap.size w x3m) := HBx2.out.trans (hb.mono HBx2.out.size)
    have HUx3m : Hid (Below x2.heap.size x2 x3m) := hb
    have HKx3 := Lib.hid hkp
    clear hb hkp
    refine wpList_plain rfl fun K hK => ?_
    go_simp
    refine hK _ _ ?_
    clear hK K
    refine wpList_plain rfl fun K hK => ?_
    go_simp
    refine hK _ _ ?_
    clear hK K
    refine wpList_plain rfl fun K hK => ?_
    go_simp
    refine hK _ _ ?_
    clear hK K
    refine wpList_plain rfl fun K hK => ?_
    go_simp
    refine hK _ _ ?_
    clear hK K
    refine wpList_plain rfl fun K hK => ?_
    go_simp
    refine hK _ _ ?_
    clear hK K
    obtain ⟨th1, th2, hbz, hx1, hx2⟩ := two_made x3m [.slice none 0 0, .slice none 0 0, .slice none 0 0, .int .u64 0] [.int .i64 0, .string ⟨#[]⟩] [.slice a3 (b).ns.length c3, .slice b3 (b).ts.length d3, .slice e3 (b).bs.length f3, .int .u64 ((b).fe : Nat)] [.int .i64 0, .string ⟨#[]⟩] 27 40 rfl rfl
    refine wpList_store_mid rfl 27 (.tmp 9) (.tmp 36) rfl (x3m.heap.size) 0 #[.slice a3 (b).ns.length c3, .slice b3 (b).ts.length d3, .slice e3 (b).bs.length f3, .int .u64 ((b).fe : Nat)] rfl rfl th1 rfl (all_oneCell_toArray (List.all_eq_true.1 (show List.all ([.slice a3 (b).ns.length c3, .slice b3 (b).ts.length d3, .slice e3 (b).bs.length f3, .int .u64 ((b).fe : Nat)] : List Value) (fun v => v.oneCell') = true from rfl))) ?_
    rw [show (#[.slice a3 (b).ns.length c3, .slice b3 (b).ts.length d3, .slice e3 (b).bs.length f3, .int .u64 ((b).fe : Nat)] : Array Value).toList = [.slice a3 (b).ns.length c3, .slice b3 (b).ts.length d3, .slice e3 (b).bs.length f3, .int .u64 ((b).fe : Nat)] from rfl]
    refine wpList_store_mid rfl 40 (.tmp 10) (.tmp 37) rfl (x3m.heap.size + 1) 0 #[.int .i64 0, .string ⟨#[]⟩] rfl rfl th2 rfl (all_oneCell_toArray (List.all_eq_true.1 (show List.all ([.int .i64 0, .string ⟨#[]⟩] : List Value) (fun v => v.oneCell') = true from rfl))) ?_
    rw [show (#[.int .i64 0, .string ⟨#[]⟩] : Array Value).toList = [.int .i64 0, .string ⟨#[]⟩] from rfl]
    clear th1 th2
    generalize (((x3m.alloc (.cells #[.slice none 0 0, .slice none 0 0, .slice none 0 0, .int .u64 0] 27)).alloc (.cells #[.int .i64 0, .string ⟨#[]⟩] 40)).setCells x3m.heap.size 0 [.slice a3 (b).ns.length c3, .slice b3 (b).ts.length d3, .slice e3 (b).bs.length f3, .int .u64 ((b).fe : Nat)]).setCells (x3m.heap.size + 1) 0 [.int .i64 0, .string ⟨#[]⟩] = x3 at *
    refine wpList_nil ?_
    have HP2 := Lib.hid (HPm.out.below hbz)
    clear HP HPm
    have HP := HP2
    clear HP2
    have HQ2 := Lib.hid (HQm.out.below hbz)
    clear HQ HQm
    have HQ := HQ2
    clear HQ2
    have HXx12 := Lib.hid (HXx1m.out.below hbz)
    clear HXx1 HXx1m
    have HXx1 := HXx12
    clear HXx12
    have HTx22 := Lib.hid (HTx2m.out.below hbz)
    clear HTx2 HTx2m
    have HTx2 := HTx22
    clear HTx22
    have HBx3 : Hid (Below w.heap.size w x3) := HBx3m.out.trans (hbz.mono HBx3m.out.size)
    have HUx3 : Hid (Below x2.heap.size x2 x3) := HUx3m.out.trans (hbz.mono HUx3m.out.size)
    have HKNx3 := Lib.hid (HKx3.out.keep hbz)
    have HXx3 := Lib.hid hx1
    have HTx3 := Lib.hid hx2
    clear hbz hx1 hx2 HKx3 HBx3m HUx3m
    have HSM : Hid (Calls Tryz.prog 14 #[.agg #[.slice a0 (b).ns.length c0, .slice b0 (b).ts.length d0, .slice e0 (b).bs.length f0, .int .u64 ((b).fe : Nat)], .agg #[.slice a3 (b).ns.length c3, .slice b3 (b).ts.length d3, .slice e3 (b).bs.length f3, .int .u64 ((b).fe : Nat)]] x3 fun e w' => e = .returned (.bool true) ∧ Below x3.heap.size x3 w') := same_true b _ _ _ _ _ _ x3 (HBK.out x3 HBx3).out HKNx3.out.books
    have u0 : x3.cell? ⟨x1m.heap.size, 1, none⟩ = some (.slice b1 (c).ts.length d1) := HXx1.out.cell 1
    have u1 : x3.cell? ⟨w.heap.size, 1, none⟩ = some (.slice b0 (b).ts.length d0) := HP.out.cell 1
    have u2 : x3.cell? ⟨x2m.heap.size + 1, 0, none⟩ = some (.int .i64 7) := HTx2.out.cell 0
    have u3 : x3.cell? ⟨x3m.heap.size + 1, 0, none⟩ = some (.int .i64 0) := HTx3.out.cell 0
    have p0 : x3.cell? ⟨w.heap.size, 0, none⟩ = some (.slice a0 (b).ns.length c0) := HP.out.cell 0
    have p2 : x3.cell? ⟨w.heap.size, 2, none⟩ = some (.slice e0 (b).bs.length f0) := HP.out.cell 2
    have p3 : x3.cell? ⟨w.heap.size, 3, none⟩ = some (.int .u64 ((b).fe : Nat)) := HP.out.cell 3
    have s0 : x3.cell? ⟨x3m.heap.size, 0, none⟩ = some (.slice a3 (b).ns.length c3) := HXx3.out.cell 0
    have s1 : x3.cell? ⟨x3m.heap.size, 1, none⟩ = some (.slice b3 (b).ts.length d3) := HXx3.out.cell 1
    have s2 : x3.cell? ⟨x3m.heap.size, 2, none⟩ = some (.slice e3 (b).bs.length f3) := HXx3.out.cell 2
    have s3 : x3.cell? ⟨x3m.heap.size, 3, none⟩ = some (.int .u64 ((b).fe : Nat)) := HXx3.out.cell 3
    have hle : IntKind.i64.wrap ((b.ts.length : Int) + 1) = (c.ts.length : Int) := by rw [IntKind.wrap_i64]; have := HLN.out; omega
    clear HP HQ HXx1 HTx2 HTx3 HXx3
    go_wp2_with fail
    refine HSM.out.mono ?_
    rintro e w9 ⟨rfl, hb⟩
    have HE : Hid (Below w.heap.size w w9) := HBx3.out.trans (hb.mono HBx3.out.size)
    clear hb
    go_wp2
    go_ret
    exact ⟨rfl, HE.out⟩
end Bo
end Go.Proofs.YtaipbaegbpebkaaGreat
