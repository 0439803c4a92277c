/-
  OrderKinds: the same order of another client is right, too, and has other bytes.
-/
import Derived.Test.YthlchdlgafincaaOrdCut
namespace Go.Proofs.Ythlchdlgafincaa
open Go.RowKit
namespace Hd
open PM Hc Rg
theorem ck_set {C : Cd} (h : ckB C = true) (cl sq : Nat) (hc : cl ≠ 0) : ckB { C with cl := cl, sq := sq } = true := by
  unfold ckB at h ⊢
  simp only [Bool.and_eq_true] at h ⊢
  refine ⟨h.1, h.2.1, ?_⟩
  unfold zF
  rw [decide_eq_false hc]
  rfl
set_option maxRecDepth 100000 in
set_option maxHeartbeats 4000000 in
theorem orderKinds (v : Value) (C : Cd) (cl sq : Nat) (w : World) (hc : CmdArg w v C) (hcl : cl < 2 ^ 64) (hsq : sq < 2 ^ 64) :
    Calls Try.prog 8 #[v, .int .u64 (cl : Nat), .int .u64 (sq : Nat)] w fun e w' => e = .returned (.bool true) ∧ Below w.heap.size w w' := by
  obtain ⟨v2, v3, v4, v5, rfl, hp, hl, hb⟩ := hc
  have HB0 : Hid (Below w.heap.size w (w.alloc (.cells (cdC C v2 v3 v4 v5).toArray 33))) := (Below.refl _ _).alloc (Nat.le_refl _) _
  have HX0 : Hid (Bxn (w.alloc (.cells (cdC C v2 v3 v4 v5).toArray 33)) w.heap.size (cdC C v2 v3 v4 v5)) := Bxn.made w _ _
  have KL := Lib.hid lives_true
  have hno := fun h => enc_no hp hl hb h
  have hye := fun h => enc_yes hp hl hb h
  have hye2 : ∀ h, _ := fun (h : ckB { C with cl := cl, sq := sq } = true) => enc_yes (C := { C with cl := cl, sq := sq }) (v2 := v2) (v3 := v3) (v4 := v4) (v5 := v5) (w := w) ⟨hp.h2, hp.h3, hp.h4, hp.h5⟩ ⟨hl.nn, hl.tn, hl.tg, hl.ta, hl.na, hl.on⟩ ⟨hcl, hsq, hb.k, hb.fe⟩ h
  have hinj := fun h (hc : cl ≠ 0) => cm_inj (a := C) (b := { C with cl := cl, sq := sq }) h (ck_set h cl sq hc) hb ⟨hcl, hsq, hb.k, hb.fe⟩
  obtain ⟨⟨a2, c2, rfl, -⟩, ⟨a3, c3, rfl, -⟩, ⟨a4, c4, rfl, -⟩, ⟨a5, c5, rfl, -⟩⟩ := hp
  clear hl hb hcl hsq
  obtain ⟨CS, hCS⟩ : ∃ CS, CS = (cdC C (.slice a2 C.nd.ls.length c2) (.slice a3 C.nd.ts.length c3) (.slice a4 C.td.ws.length c4) (.slice a5 C.td.bs.length c5)).toArray := ⟨_, rfl⟩
  rw [← hCS] at HB0 HX0 ⊢
  clear hCS
  go_enter Try.func8, Try.ntmps8
  go_upto_region 1 with fail
  generalize w.alloc (.cells CS 33) = W0 at *
  generalize Value.agg CS = A0
  go_wp2_with fail
  refine (KL.out _).mono ?_
  rintro e w1 ⟨rfl, hb⟩
  have HB1 := Lib.hid (HB0.out.trans (hb.mono HB0.out.size))
  have HX1 := Lib.hid (HX0.out.below hb)
  have R1 := Lib.hid (HX1.out.range 0)
  clear hb
  go_upto_region 3 with fail
  refine wp_region_list ?_
  refine wpList_load_mid rfl 33 (.tmp 3) rfl w.heap.size 0 rfl (cdC C (.slice a2 C.nd.ls.length c2) (.slice a3 C.nd.ts.length c3) (.slice a4 C.td.ws.length c4) (.slice a5 C.td.bs.length c5)) _ R1.out Try.underlying33 rfl rfl ?_
  cases hk : ckB C with
  | false =>
    have KE := Lib.hid (hno hk)
    clear hno hye hye2 hk hinj
    go_wp2_with fail
    refine (KE.out _ HB1.out).mono ?_
    rintro e w2 ⟨rfl, hb⟩
    have HB2 := Lib.hid (HB1.out.trans (hb.mono HB1.out.size))
    clear hb
    go_wp2
    go_ret
    exact ⟨rfl, HB2.out⟩
  | true =>
    have KE := Lib.hid (hye hk)
    by_cases hc : cl = 0
    · subst hc
      clear hno hye hye2 hk hinj
      generalize bs (cmY C) = q at *
      go_wp2_with fail
      refine (KE.out _ HB1.out).mono ?_
      rintro e w2 ⟨rfl, hb⟩
      have HB2 := Lib.hid (HB1.out.trans (hb.mono HB1.out.size))
      clear hb
      go_wp2
      go_ret
      exact ⟨rfl, HB2.out⟩
    · have KE2 := Lib.hid (hye2 (ck_set hk cl sq hc))
      have hiff := hinj hk hc
      have m0 : ¬ ((cl : Nat) : Int) = 0 := by omega
      have l0 : (((cl : Nat) : Int) == 0) = false := beq_eq_false_iff_ne.2 m0
      clear hno hye hye2 hk hinj hc
      generalize hq1 : bs (cmY C) = q1 at *
      generalize hq2 : bs (cmY { C with cl := cl, sq := sq }) = q2 at *
      have hq : q1 = q2 ↔ cl = C.cl ∧ sq = C.sq := by
        rw [← hq1, ← hq2]
        refine ⟨fun e => ?_, fun e => ?_⟩
        · have e2 : cmY C = cmY { C with cl := cl, sq := sq } := by have := congrArg (fun s => s.data.toList) e; simpa [bs_data] using this
          have e3 := hiff.1 e2
          have e4 := congrArg Cd.cl e3
          have e5 := congrArg Cd.sq e3
          exact ⟨e4.symm, e5.symm⟩
        · rw [e.1, e.2]
      have HQ := Lib.hid hq
      clear hiff hq1 hq2 hq
      go_wp2_with fail
      refine (KE.out _ HB1.out).mono ?_
      rintro e w2 ⟨rfl, hb⟩
      have HB2 := Lib.hid (HB1.out.trans (hb.mono HB1.out.size))
      have HX2 := Lib.hid (HX1.out.below hb)
      have R2 := Lib.hid (HX2.out.range 0)
      have hl2 := HX2.out.lt
      have hm3 : Bxn (w2.alloc (.cells #[.int .u64 0, .int .u64 0, .int .u8 0, .string ⟨#[]⟩, .int .i64 0, .int .i64 0, .int .i64 0, .slice none 0 0, .slice none 0 0, .string ⟨#[]⟩, .int .i64 0, .int .i64 0, .int .i64 0, .slice none 0 0, .slice none 0 0, .string ⟨#[]⟩, .string ⟨#[]⟩, .int .i64 0, .string ⟨#[]⟩, .string ⟨#[]⟩, .int .u64 0] 33)) w2.heap.size [.int .u64 0, .int .u64 0, .int .u8 0, .string ⟨#[]⟩, .int .i64 0, .int .i64 0, .int .i64 0, .slice none 0 0, .slice none 0 0, .string ⟨#[]⟩, .int .i64 0, .int .i64 0, .int .i64 0, .slice none 0 0, .slice none 0 0, .string ⟨#[]⟩, .string ⟨#[]⟩, .int .i64 0, .string ⟨#[]⟩, .string ⟨#[]⟩, .int .u64 0] := Bxn.made w2 _ _
      have hth := hm3.there 21 rfl
      have ha3 : Below w2.heap.size w2 (w2.alloc (.cells #[.int .u64 0, .int .u64 0, .int .u8 0, .string ⟨#[]⟩, .int .i64 0, .int .i64 0, .int .i64 0, .slice none 0 0, .slice none 0 0, .string ⟨#[]⟩, .int .i64 0, .int .i64 0, .int .i64 0, .slice none 0 0, .slice none 0 0, .string ⟨#[]⟩, .string ⟨#[]⟩, .int .i64 0, .string ⟨#[]⟩, .string ⟨#[]⟩, .int .u64 0] 33)) := (Below.refl _ _).alloc (Nat.le_refl _) _
      have ho3 := only_setCells w2.heap.size (cdC C (.slice a2 C.nd.ls.length c2) (.slice a3 C.nd.ts.length c3) (.slice a4 C.td.ws.length c4) (.slice a5 C.td.bs.length c5)) 0 (w2.alloc (.cells #[.int .u64 0, .int .u64 0, .int .u8 0, .string ⟨#[]⟩, .int .i64 0, .int .i64 0, .int .i64 0, .slice none 0 0, .slice none 0 0, .string ⟨#[]⟩, .int .i64 0, .int .i64 0, .int .i64 0, .slice none 0 0, .slice none 0 0, .string ⟨#[]⟩, .string ⟨#[]⟩, .int .i64 0, .string ⟨#[]⟩, .string ⟨#[]⟩, .int .u64 0] 33))
      have HD3 : Hid (Ds w w.heap.size w2.heap.size (cdC C (.slice a2 C.nd.ls.length c2) (.slice a3 C.nd.ts.length c3) (.slice a4 C.td.ws.length c4) (.slice a5 C.td.bs.length c5)) (cdC C (.slice a2 C.nd.ls.length c2) (.slice a3 C.nd.ts.length c3) (.slice a4 C.td.ws.length c4) (.slice a5 C.td.bs.length c5)) ((w2.alloc (.cells #[.int .u64 0, .int .u64 0, .int .u8 0, .string ⟨#[]⟩, .int .i64 0, .int .i64 0, .int .i64 0, .slice none 0 0, .slice none 0 0, .string ⟨#[]⟩, .int .i64 0, .int .i64 0, .int .i64 0, .slice none 0 0, .slice none 0 0, .string ⟨#[]⟩, .string ⟨#[]⟩, .int .i64 0, .string ⟨#[]⟩, .string ⟨#[]⟩, .int .u64 0] 33)).setCells w2.heap.size 0 (cdC C (.slice a2 C.nd.ls.length c2) (.slice a3 C.nd.ts.length c3) (.slice a4 C.td.ws.length c4) (.slice a5 C.td.bs.length c5)))) := ⟨(HX2.out.below ha3).only ho3 (by omega), hm3.all _ rfl, (HB2.out.trans (ha3.mono HB2.out.size)).grown ho3 (Nat.le_trans HB2.out.size ha3.size) (fun k e => by injection e with e; have := HB2.out.size; omega), Nat.le_refl _, by omega⟩
      have HW2 := Lib.hid HB2.out.size
      clear hb hl2 hm3 ha3 ho3
      go_upto_region 6 with fail
      refine wp_region_list ?_
      refine wpList_load_mid rfl 33 (.tmp 3) rfl w.heap.size 0 rfl (cdC C (.slice a2 C.nd.ls.length c2) (.slice a3 C.nd.ts.length c3) (.slice a4 C.td.ws.length c4) (.slice a5 C.td.bs.length c5)) _ R2.out Try.underlying33 rfl rfl ?_
      refine wpList_plain rfl fun K hK => ?_
      go_simp
      refine hK _ _ ?_
      clear hK K
      refine wpList_store_mid rfl 33 (.tmp 9) (.tmp 25) rfl w2.heap.size 0 (cdC C (.slice a2 C.nd.ls.length c2) (.slice a3 C.nd.ts.length c3) (.slice a4 C.td.ws.length c4) (.slice a5 C.td.bs.length c5)).toArray rfl rfl hth rfl (all_oneCell_toArray (cdC_one C (.slice a2 C.nd.ls.length c2) (.slice a3 C.nd.ts.length c3) (.slice a4 C.td.ws.length c4) (.slice a5 C.td.bs.length c5) rfl rfl rfl rfl)) ?_
      clear hth
      rw [show (cdC C (.slice a2 C.nd.ls.length c2) (.slice a3 C.nd.ts.length c3) (.slice a4 C.td.ws.length c4) (.slice a5 C.td.bs.length c5)).toArray.toList = cdC C (.slice a2 C.nd.ls.length c2) (.slice a3 C.nd.ts.length c3) (.slice a4 C.td.ws.length c4) (.slice a5 C.td.bs.length c5) from rfl]
      generalize (w2.alloc (.cells #[.int .u64 0, .int .u64 0, .int .u8 0, .string ⟨#[]⟩, .int .i64 0, .int .i64 0, .int .i64 0, .slice none 0 0, .slice none 0 0, .string ⟨#[]⟩, .int .i64 0, .int .i64 0, .int .i64 0, .slice none 0 0, .slice none 0 0, .string ⟨#[]⟩, .string ⟨#[]⟩, .int .i64 0, .string ⟨#[]⟩, .string ⟨#[]⟩, .int .u64 0] 33)).setCells w2.heap.size 0 (cdC C (.slice a2 C.nd.ls.length c2) (.slice a3 C.nd.ts.length c3) (.slice a4 C.td.ws.length c4) (.slice a5 C.td.bs.length c5)) = W3 at *
      generalize w2.heap.size = DB at *
      have c0 : W3.cell? ⟨DB, 0, none⟩ = some (.int .u64 (C.cl : Nat)) := HD3.out.cb.cell 0
      have c1 : W3.cell? ⟨DB, 1, none⟩ = some (.int .u64 (C.sq : Nat)) := HD3.out.cb.cell 1
      have f0 := HD3.out.cb.fz 0
      have f1 := HD3.out.cb.fz 1
      have hx4 : Bxn ((W3.setCell ⟨DB, 0, none⟩ (.int .u64 (cl : Nat))).setCell ⟨DB, 1, none⟩ (.int .u64 (sq : Nat))) DB (cdC { C with cl := cl, sq := sq } (.slice a2 C.nd.ls.length c2) (.slice a3 C.nd.ts.length c3) (.slice a4 C.td.ws.length c4) (.slice a5 C.td.bs.length c5)) := (HD3.out.cb.set 0 _).set 1 _
      have HD4 : Hid (Ds w w.heap.size DB (cdC C (.slice a2 C.nd.ls.length c2) (.slice a3 C.nd.ts.length c3) (.slice a4 C.td.ws.length c4) (.slice a5 C.td.bs.length c5)) (cdC { C with cl := cl, sq := sq } (.slice a2 C.nd.ls.length c2) (.slice a3 C.nd.ts.length c3) (.slice a4 C.td.ws.length c4) (.slice a5 C.td.bs.length c5)) ((W3.setCell ⟨DB, 0, none⟩ (.int .u64 (cl : Nat))).setCell ⟨DB, 1, none⟩ (.int .u64 (sq : Nat)))) := ⟨(HD3.out.rb.apart HD3.out.rc.symm 0 _).apart HD3.out.rc.symm 1 _, hx4, (HD3.out.be.setCell HW2.out _).setCell HW2.out _, Nat.le_refl _, HD3.out.rc⟩
      have R4 := Lib.hid (HD4.out.cb.range 0)
      clear hx4
      go_upto_region 8 with fail
      clear c0 c1 f0 f1
      generalize (W3.setCell ⟨DB, 0, none⟩ (.int .u64 (cl : Nat))).setCell ⟨DB, 1, none⟩ (.int .u64 (sq : Nat)) = W4 at *
      refine wp_region_list ?_
      refine wpList_load_mid rfl 33 (.tmp 9) rfl DB 0 rfl (cdC { C with cl := cl, sq := sq } (.slice a2 C.nd.ls.length c2) (.slice a3 C.nd.ts.length c3) (.slice a4 C.td.ws.length c4) (.slice a5 C.td.bs.length c5)) _ R4.out Try.underlying33 rfl rfl ?_
      go_wp2_with fail
      refine (KE2.out _ HD4.out.be).mono ?_
      rintro e w5 ⟨rfl, hb⟩
      have HD5 := Lib.hid (HD4.out.below hb)
      have c0 : w5.cell? ⟨w.heap.size, 0, none⟩ = some (.int .u64 (C.cl : Nat)) := HD5.out.rb.cell 0
      have c1 : w5.cell? ⟨w.heap.size, 1, none⟩ = some (.int .u64 (C.sq : Nat)) := HD5.out.rb.cell 1
      clear hb KE KE2 R1 R2 R4
      by_cases h1 : cl = C.cl
      · by_cases h2 : sq = C.sq
        · obtain rfl := HQ.out.2 ⟨h1, h2⟩
          rw [← h1] at c0
          rw [← h2] at c1
          clear h1 h2
          go_wp2
          go_ret
          exact ⟨rfl, HD5.out.be⟩
        · obtain ⟨m1, m2⟩ := ba_no (fun e => h2 (HQ.out.1 e).2)
          rw [← h1] at c0
          have n1 : ¬ ((sq : Nat) : Int) = ((C.sq : Nat) : Int) := by omega
          have l1 : (((sq : Nat) : Int) == ((C.sq : Nat) : Int)) = false := beq_eq_false_iff_ne.2 n1
          clear h1 h2
          go_wp2
          go_ret
          exact ⟨rfl, HD5.out.be⟩
      · obtain ⟨m1, m2⟩ := ba_no (fun e => h1 (HQ.out.1 e).1)
        have n1 : ¬ ((cl : Nat) : Int) = ((C.cl : Nat) : Int) := by omega
        have l1 : (((cl : Nat) : Int) == ((C.cl : Nat) : Int)) = false := beq_eq_false_iff_ne.2 n1
        clear h1
        go_wp2
        go_ret
        exact ⟨rfl, HD5.out.be⟩
theorem orderKindsI (v : Value) (C : Cd) (a b : Int) (w : World) (hc : CmdArg w v C) (h1 : (Lit.int .u64 a).wf = true) (h2 : (Lit.int .u64 b).wf = true) :
    Calls Try.prog 8 #[v, .int .u64 a, .int .u64 b] w fun e w' => e = .returned (.bool true) ∧ Below w.heap.size w w' := by
  obtain ⟨cl, e1, k1⟩ := bounds_u64' h1
  obtain ⟨sq, e2, k2⟩ := bounds_u64' h2
  subst e1
  subst e2
  exact orderKinds v C cl sq w hc k1 k2
end Hd
end Go.Proofs.Ythlchdlgafincaa
