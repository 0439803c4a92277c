/-
  order.Check, whole.
-/
import Derived.Test.YthlchdlgafincaaOrdChk
import Derived.BigFrame
namespace Go.Proofs.Ythlchdlgafincaa
open Go.RowKit
namespace Hd
open PM Hc Rg
/-- Whether a command is right. -/
def ckB (c : Cd) : Bool := coB c && (rfB c && !(zF c.cl && !zF c.sq))
theorem ck_co {c : Cd} (h : coB c = false) : ckB c = false := by unfold ckB; rw [h]; rfl
theorem ck_rf {c : Cd} (h : coB c = true) (h2 : rfB c = false) : ckB c = false := by unfold ckB; rw [h, h2]; rfl
theorem ck_cl {c : Cd} (h : coB c = true) (h2 : rfB c = true) (h3 : c.cl ≠ 0) : ckB c = true := by unfold ckB zF; rw [h, h2, decide_eq_false h3]; rfl
theorem ck_no {c : Cd} (h : coB c = true) (h2 : rfB c = true) (h3 : c.cl = 0) (h4 : c.sq ≠ 0) : ckB c = false := by unfold ckB zF; rw [h, h2, decide_eq_true h3, decide_eq_false h4]; rfl
theorem ck_sq {c : Cd} (h : coB c = true) (h2 : rfB c = true) (h3 : c.cl = 0) (h4 : c.sq = 0) : ckB c = true := by unfold ckB zF; rw [h, h2, decide_eq_true h3, decide_eq_true h4]; rfl
theorem wl_load_want {ops : Array Oper} {rest : List Oper} {op : Oper} {a : Act} {w : World} {Q : Exit → Act → World → Prop} (hw : Region.wanted op (yielded ops a.tmps) = true) (ty : TypeId) (x : Operand) (ho : op.op = .load ty x)
    (b o : Nat) (hx : a.eval x = .pointer (some ⟨b, o, none⟩)) (cs : List Value) (d : TypeDesc) (hc : w.rangeAt b o cs)
    (hu : Try.prog.underlying ty = some d) (hd : d.isRow = true) (hi : (Try.prog.info? ty).map (·.size) = some cs.length)
    (h : wpList Try.prog ops Q rest (a.put op.dst (.agg cs.toArray)) w) : wpList Try.prog ops Q (op :: rest) a w :=
  BigFrame.wpList_want hw fun _ hK => wp_load_mid ty x ho b o hx cs d hc hu hd hi (hK _ _ h)
set_option maxRecDepth 100000 in
set_option maxHeartbeats 4000000 in
theorem check_cmd (C : Cd) (v2 v3 v4 v5 : Value) (w : World) (hp : PrsIn w w.heap.size C v2 v3 v4 v5) (hl : Lens C) :
    Calls Try.prog 16 #[.agg (cdC C v2 v3 v4 v5).toArray] w fun e w' => e = .returned (.int .i64 (coE (ckB C) : Nat)) ∧ Below w.heap.size w w' := by
  have HB0 : Hid (Below w.heap.size w (w.alloc (.cells (cdC C v2 v3 v4 v5).toArray 33))) := (Below.refl _ _).alloc (Nat.le_refl _) _
  have HX0 : Hid (Bxn (w.alloc (.cells (cdC C v2 v3 v4 v5).toArray 33)) w.heap.size (cdC C v2 v3 v4 v5)) := Bxn.made w _ _
  have KA : Hid (∀ z, Below w.heap.size w z → Calls Try.prog 34 #[.agg (orC C v2 v3 v4 v5).toArray] z fun e w' => e = .returned (.int .i64 (coE (coB C) : Nat)) ∧ Below z.heap.size z w') := fun z hb => checkOrder_any C v2 v3 v4 v5 z (hp.keep hb)
  have KB : Hid (∀ z, Below w.heap.size w z → Calls Try.prog 35 #[.agg (orC C v2 v3 v4 v5).toArray] z fun e w' => e = .returned (.bool (rfB C)) ∧ Below z.heap.size z w') := fun z hb => rightFields_any C v2 v3 v4 v5 z ⟨(hp.h2.ovr hb), (hp.h3.ovr hb), (hp.h4.ovr hb), (hp.h5.ovr hb)⟩ hl
  clear hl
  obtain ⟨⟨a2, c2, rfl, -⟩, ⟨a3, c3, rfl, -⟩, ⟨a4, c4, rfl, -⟩, ⟨a5, c5, rfl, -⟩⟩ := hp
  obtain ⟨r, hr⟩ : ∃ r, ckB C = r := ⟨_, rfl⟩
  have HR := Lib.hid hr
  rw [hr]
  clear hr
  obtain ⟨CS, hCS⟩ : ∃ CS, CS = (cdC C (.slice a2 C.nd.ls.length c2) (.slice a3 C.nd.ts.length c3) (.slice a4 C.td.ws.length c4) (.slice a5 C.td.bs.length c5)).toArray := ⟨_, rfl⟩
  rw [← hCS] at HB0 HX0 ⊢
  clear hCS
  go_enter Try.func16, Try.ntmps16
  go_upto_region 1 with fail
  generalize w.alloc (.cells CS 33) = W0 at *
  have R0 := Lib.hid (HX0.out.range 2)
  cases h1 : coB C with
  | false =>
    have HN : Hid (r = false) := HR.out.symm.trans (ck_co h1)
    rw [h1] at KA
    clear h1
    refine wp_region_list ?_
    refine wpList_plain rfl fun K hK => ?_
    go_simp
    refine hK _ _ ?_
    clear hK K
    refine wpList_load_mid rfl 31 (.tmp 3) rfl w.heap.size 2 rfl (orC C (.slice a2 C.nd.ls.length c2) (.slice a3 C.nd.ts.length c3) (.slice a4 C.td.ws.length c4) (.slice a5 C.td.bs.length c5)) _ R0.out Try.underlying31 rfl rfl ?_
    go_wp2_with fail
    refine (KA.out _ HB0.out).mono ?_
    rintro e w1 ⟨rfl, hb⟩
    have HB1 := Lib.hid (HB0.out.trans (hb.mono HB0.out.size))
    clear hb
    go_wp2
    go_ret
    exact ⟨by rw [HN.out]; rfl, HB1.out⟩
  | true =>
    have H1 := Lib.hid h1
    rw [h1] at KA
    clear h1
    refine wp_region_list ?_
    refine wpList_plain rfl fun K hK => ?_
    go_simp
    refine hK _ _ ?_
    clear hK K
    refine wpList_load_mid rfl 31 (.tmp 3) rfl w.heap.size 2 rfl (orC C (.slice a2 C.nd.ls.length c2) (.slice a3 C.nd.ts.length c3) (.slice a4 C.td.ws.length c4) (.slice a5 C.td.bs.length c5)) _ R0.out Try.underlying31 rfl rfl ?_
    go_wp2_with fail
    refine (KA.out _ HB0.out).mono ?_
    rintro e w1 ⟨rfl, hb⟩
    have HB1 := Lib.hid (HB0.out.trans (hb.mono HB0.out.size))
    have HX1 := Lib.hid (HX0.out.below hb)
    clear hb
    have R1 := Lib.hid (HX1.out.range 2)
    cases h2 : rfB C with
    | false =>
      have HN : Hid (r = false) := HR.out.symm.trans (ck_rf H1.out h2)
      rw [h2] at KB
      clear h2
      dsimp only
      refine ‹∀ (a : Act) (w : World), wpList Try.prog _ _ _ a w → _› _ _ ?_
      refine wpList_plain rfl fun K hK => ?_
      go_simp
      refine hK _ _ ?_
      clear hK K
      refine wpList_plain rfl fun K hK => ?_
      go_simp
      refine hK _ _ ?_
      clear hK K
      refine BigFrame.wpList_want rfl fun K hK => ?_
      go_simp
      refine hK _ _ ?_
      clear hK K
      refine wl_load_want rfl 31 (.tmp 8) rfl w.heap.size 2 rfl (orC C (.slice a2 C.nd.ls.length c2) (.slice a3 C.nd.ts.length c3) (.slice a4 C.td.ws.length c4) (.slice a5 C.td.bs.length c5)) _ R1.out Try.underlying31 rfl rfl ?_
      go_wp2_with fail
      refine (KB.out _ HB1.out).mono ?_
      rintro e w2 ⟨rfl, hb⟩
      have HB2 := Lib.hid (HB1.out.trans (hb.mono HB1.out.size))
      clear hb
      go_wp2
      go_ret
      exact ⟨by rw [HN.out]; rfl, HB2.out⟩
    | true =>
      have H2 := Lib.hid h2
      rw [h2] at KB
      clear h2
      dsimp only
      refine ‹∀ (a : Act) (w : World), wpList Try.prog _ _ _ a w → _› _ _ ?_
      refine wpList_plain rfl fun K hK => ?_
      go_simp
      refine hK _ _ ?_
      clear hK K
      refine wpList_plain rfl fun K hK => ?_
      go_simp
      refine hK _ _ ?_
      clear hK K
      refine BigFrame.wpList_want rfl fun K hK => ?_
      go_simp
      refine hK _ _ ?_
      clear hK K
      refine wl_load_want rfl 31 (.tmp 8) rfl w.heap.size 2 rfl (orC C (.slice a2 C.nd.ls.length c2) (.slice a3 C.nd.ts.length c3) (.slice a4 C.td.ws.length c4) (.slice a5 C.td.bs.length c5)) _ R1.out Try.underlying31 rfl rfl ?_
      go_wp2_with fail
      refine (KB.out _ HB1.out).mono ?_
      rintro e w2 ⟨rfl, hb⟩
      have HB2 := Lib.hid (HB1.out.trans (hb.mono HB1.out.size))
      have HX2 := Lib.hid (HX1.out.below hb)
      clear hb
      have d0 : w2.cell? ⟨w.heap.size, 0, none⟩ = some (.int .u64 (C.cl : Nat)) := HX2.out.cell 0
      have d1 : w2.cell? ⟨w.heap.size, 1, none⟩ = some (.int .u64 (C.sq : Nat)) := HX2.out.cell 1
      by_cases h3 : C.cl = 0
      · by_cases h4 : C.sq = 0
        · have HN : Hid (r = true) := HR.out.symm.trans (ck_sq H1.out H2.out h3 h4)
          rw [h3] at d0
          rw [h4] at d1
          clear h3 h4
          go_wp2
          go_ret
          exact ⟨by rw [HN.out]; rfl, HB2.out⟩
        · have HN : Hid (r = false) := HR.out.symm.trans (ck_no H1.out H2.out h3 h4)
          rw [h3] at d0
          have m4 : ¬ ((C.sq : Nat) : Int) = 0 := by omega
          have l4 : (((C.sq : Nat) : Int) != 0) = true := by simpa using m4
          clear h3 h4
          go_wp2
          go_ret
          exact ⟨by rw [HN.out]; rfl, HB2.out⟩
      · have HN : Hid (r = true) := HR.out.symm.trans (ck_cl H1.out H2.out h3)
        have m4 : ¬ ((C.cl : Nat) : Int) = 0 := by omega
        have l4 : (((C.cl : Nat) : Int) == 0) = false := by simpa using m4
        clear h3
        go_wp2
        go_ret
        exact ⟨by rw [HN.out]; rfl, HB2.out⟩
end Hd
end Go.Proofs.Ythlchdlgafincaa
