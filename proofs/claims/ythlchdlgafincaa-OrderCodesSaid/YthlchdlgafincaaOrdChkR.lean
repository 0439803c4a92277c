/-
  gafferref09.Check: whether a command is right, by the document.
-/
import Derived.Test.YthlchdlgafincaaBookCoR
import Derived.Test.YthlchdlgafincaaRigCheckR
import Derived.Test.YthlchdlgafincaaOrdTl
namespace Go.Proofs.Ythlchdlgafincaa
open Go.RowKit
namespace Hd
open PM Hc Rg
set_option maxRecDepth 100000 in
set_option maxHeartbeats 1000000 in
theorem cor_other (C : Cd) (a2 a3 a4 a5 : Option Addr) (c2 c3 c4 c5 : Nat) (w : World) (hk : C.k = 0 ∨ 8 ≤ C.k) :
    Calls Try.prog 36 #[.agg (orC C (.slice a2 C.nd.ls.length c2) (.slice a3 C.nd.ts.length c3) (.slice a4 C.td.ws.length c4) (.slice a5 C.td.bs.length c5)).toArray] w fun e w' => e = .returned (.int .i64 4) ∧ Below w.heap.size w w' := by
  have HX0 : Hid (Bxn (w.alloc (.cells (orC C (.slice a2 C.nd.ls.length c2) (.slice a3 C.nd.ts.length c3) (.slice a4 C.td.ws.length c4) (.slice a5 C.td.bs.length c5)).toArray 31)) w.heap.size (orC C (.slice a2 C.nd.ls.length c2) (.slice a3 C.nd.ts.length c3) (.slice a4 C.td.ws.length c4) (.slice a5 C.td.bs.length c5))) := Bxn.made w _ _
  have HB0 : Hid (Below w.heap.size w (w.alloc (.cells (orC C (.slice a2 C.nd.ls.length c2) (.slice a3 C.nd.ts.length c3) (.slice a4 C.td.ws.length c4) (.slice a5 C.td.bs.length c5)).toArray 31))) := (Below.refl _ _).alloc (Nat.le_refl _) _
  obtain ⟨CS, hCS⟩ : ∃ CS, CS = (orC C (.slice a2 C.nd.ls.length c2) (.slice a3 C.nd.ts.length c3) (.slice a4 C.td.ws.length c4) (.slice a5 C.td.bs.length c5)).toArray := ⟨_, rfl⟩
  rw [← hCS] at HB0 HX0 ⊢
  clear hCS
  rcases hk with hk | hk
  · go_enter Try.func36, Try.ntmps36
    go_upto_region 1 with fail
    generalize w.alloc (.cells CS 31) = W0 at *
    have k0 : W0.cell? ⟨w.heap.size, 0, none⟩ = some (.int .u8 (C.k : Nat)) := HX0.out.cell 0
    rw [hk] at k0
    go_wp2
    go_ret
    exact ⟨rfl, HB0.out⟩
  · have m0 : (0 : Int) < ((C.k : Nat) : Int) := by omega
    have m00 : decide (0 < C.k) = true := decide_eq_true (by omega)
    have m1 : ¬ ((C.k : Nat) : Int) < 8 := by omega
    have m2 : ¬ ((C.k : Nat) : Int) = 1 := by omega
    have m3 : ¬ ((C.k : Nat) : Int) = 3 := by omega
    have n2 : (((C.k : Nat) : Int) != 1) = true := by simpa using m2
    have n3 : (((C.k : Nat) : Int) != 3) = true := by simpa using m3
    clear hk
    go_enter Try.func36, Try.ntmps36
    go_upto_region 1 with fail
    generalize w.alloc (.cells CS 31) = W0 at *
    have k0 : W0.cell? ⟨w.heap.size, 0, none⟩ = some (.int .u8 (C.k : Nat)) := HX0.out.cell 0
    go_wp2
    go_ret
    exact ⟨rfl, HB0.out⟩
theorem checkOrder_ref (C : Cd) (v2 v3 v4 v5 : Value) (w : World) {B : Nat} (hp : PrsIn w B C v2 v3 v4 v5) :
    Calls Try.prog 36 #[.agg (orC C v2 v3 v4 v5).toArray] w fun e w' => e = .returned (.int .i64 (coE (coB C) : Nat)) ∧ Below w.heap.size w w' := by
  obtain ⟨⟨a2, c2, rfl, -⟩, ⟨a3, c3, rfl, -⟩, ⟨a4, c4, rfl, -⟩, ⟨a5, c5, rfl, -⟩⟩ := hp
  unfold coB
  by_cases e1 : C.k = 1
  · rw [if_pos e1]; exact cor_node C a2 a3 a4 a5 c2 c3 c4 c5 w e1 _ rfl
  rw [if_neg e1]
  by_cases e3 : C.k = 3
  · rw [if_pos e3]; exact cor_task C a2 a3 a4 a5 c2 c3 c4 c5 w e3 _ rfl
  rw [if_neg e3]
  by_cases e5 : C.k = 5
  · rw [if_pos e5]; exact cor_bind C a2 a3 a4 a5 c2 c3 c4 c5 w e5 _ rfl
  rw [if_neg e5]
  by_cases e2 : C.k = 2
  · rw [if_pos (.inl e2)]; exact cor_2 C a2 a3 a4 a5 c2 c3 c4 c5 w e2 _ rfl
  by_cases e4 : C.k = 4
  · rw [if_pos (.inr (.inl e4))]; exact cor_4 C a2 a3 a4 a5 c2 c3 c4 c5 w e4 _ rfl
  by_cases e6 : C.k = 6
  · rw [if_pos (.inr (.inr (.inl e6)))]; exact cor_6 C a2 a3 a4 a5 c2 c3 c4 c5 w e6 _ rfl
  by_cases e7 : C.k = 7
  · rw [if_pos (.inr (.inr (.inr e7)))]; exact cor_7 C a2 a3 a4 a5 c2 c3 c4 c5 w e7 _ rfl
  rw [if_neg (by rintro (h | h | h | h); exact e2 h; exact e4 h; exact e6 h; exact e7 h)]
  exact cor_other C a2 a3 a4 a5 c2 c3 c4 c5 w (by omega)
theorem Bb.all2 {w0 x : World} {cs ds : List Value} (h : Bb w0 cs ds x) (vs : List Value) (hl : vs.length = ds.length) : Bb w0 cs vs (x.setCells (w0.heap.size + 1) 0 vs) := by
  have ho := only_setCells (w0.heap.size + 1) vs 0 x
  exact ⟨h.bx.only ho (by omega), h.bz.all vs hl, h.be.grown ho h.be.size (fun k e => by injection e with e; omega)⟩
theorem orC_one (C : Cd) (v2 v3 v4 v5 : Value) (h2 : v2.oneCell' = true) (h3 : v3.oneCell' = true) (h4 : v4.oneCell' = true) (h5 : v5.oneCell' = true) : ∀ v ∈ orC C v2 v3 v4 v5, v.oneCell' = true :=
  fun v hv => cdC_one C v2 v3 v4 v5 h2 h3 h4 h5 v (List.mem_of_mem_drop hv)
set_option maxRecDepth 100000 in
set_option maxHeartbeats 8000000 in
theorem check_ref9 (C : Cd) (v2 v3 v4 v5 : Value) (w : World) (hp : PrsIn w w.heap.size C v2 v3 v4 v5) (hl : Lens C) :
    Calls Try.prog 17 #[.agg (cdC C v2 v3 v4 v5).toArray] w fun e w' => e = .returned (.int .i64 (coE (ckB C) : Nat)) ∧ Below w.heap.size w w' := by
  have HB0 : Hid (Below w.heap.size w (w.alloc (.cells (cdC C v2 v3 v4 v5).toArray 33))) := (Below.refl _ _).alloc (Nat.le_refl _) _
  have HX0 : Hid (Bxn (w.alloc (.cells (cdC C v2 v3 v4 v5).toArray 33)) w.heap.size (cdC C v2 v3 v4 v5)) := Bxn.made w _ _
  have hsz : (w.alloc (.cells (cdC C v2 v3 v4 v5).toArray 33)).heap.size = w.heap.size + 1 := by simp
  have hm1 : Bb w (cdC C v2 v3 v4 v5) [.int .u8 0, .string ⟨#[]⟩, .int .i64 0, .int .i64 0, .int .i64 0, .slice none 0 0, .slice none 0 0, .string ⟨#[]⟩, .int .i64 0, .int .i64 0, .int .i64 0, .slice none 0 0, .slice none 0 0, .string ⟨#[]⟩, .string ⟨#[]⟩, .int .i64 0, .string ⟨#[]⟩, .string ⟨#[]⟩, .int .u64 0] ((w.alloc (.cells (cdC C v2 v3 v4 v5).toArray 33)).alloc (.cells #[.int .u8 0, .string ⟨#[]⟩, .int .i64 0, .int .i64 0, .int .i64 0, .slice none 0 0, .slice none 0 0, .string ⟨#[]⟩, .int .i64 0, .int .i64 0, .int .i64 0, .slice none 0 0, .slice none 0 0, .string ⟨#[]⟩, .string ⟨#[]⟩, .int .i64 0, .string ⟨#[]⟩, .string ⟨#[]⟩, .int .u64 0] 31)) := Bb.made2 w _ _ _ _
  have HB1 := Lib.hid (hm1.all2 (orC C v2 v3 v4 v5) rfl)
  have hth := hm1.bz.there 19 rfl
  have KA : Hid (∀ z, Below w.heap.size w z → Calls Try.prog 36 #[.agg (orC C v2 v3 v4 v5).toArray] z fun e w' => e = .returned (.int .i64 (coE (coB C) : Nat)) ∧ Below z.heap.size z w') := fun z hb => checkOrder_ref C v2 v3 v4 v5 z (hp.keep hb)
  have hp0 := hp
  obtain ⟨⟨a2, c2, rfl, -⟩, ⟨a3, c3, rfl, -⟩, ⟨a4, c4, rfl, -⟩, ⟨a5, c5, rfl, -⟩⟩ := hp
  have KN : Hid (∀ z, Below w.heap.size w z → Calls Try.prog 37 #[.agg #[.string C.nd.n, .int .i64 C.nd.z0, .int .i64 C.nd.z1, .int .i64 C.nd.z2, .slice a2 C.nd.ls.length c2, .slice a3 C.nd.ts.length c3]] z fun e w' => e = .returned (.int .i64 (nE C.nd : Nat)) ∧ Below z.heap.size z w') := fun z hb => node_ref _ _ _ _ _ _ _ _ _ _ _ _ z hl.nn (hp0.h2.ovr hb) (hp0.h3.ovr hb)
  have KT : Hid (∀ z, Below w.heap.size w z → Calls Try.prog 38 #[.agg #[.string C.td.n, .int .i64 C.td.z0, .int .i64 C.td.z1, .int .i64 C.td.z2, .slice a4 C.td.ws.length c4, .slice a5 C.td.bs.length c5, .string C.td.g, .string C.td.a, .int .i64 C.td.r]] z fun e w' => e = .returned (.int .i64 (tE C.td : Nat)) ∧ Below z.heap.size z w') := fun z hb => task_ref _ _ _ _ _ _ _ _ _ _ _ _ _ _ _ z ⟨hl.tn, hl.tg, hl.ta⟩ (hp0.h4.ovr hb) (hp0.h5.ovr hb)
  have KM := Lib.hid (fun z => name_ref C.na z hl.na)
  have KO := Lib.hid (fun z => name_ref C.on z hl.on)
  clear hp0 hl hm1
  have hone := all_oneCell_toArray (orC_one C (.slice a2 C.nd.ls.length c2) (.slice a3 C.nd.ts.length c3) (.slice a4 C.td.ws.length c4) (.slice a5 C.td.bs.length c5) rfl rfl rfl rfl)
  have h1 := fun h => ck_co (c := C) h
  have h2 := fun a b => ck_rf (c := C) a b
  have h3 := fun a b c => ck_cl (c := C) a b c
  have h4 := fun a b c d => ck_no (c := C) a b c d
  have h5 := fun a b c d => ck_sq (c := C) a b c d
  have hrf : rfB C = if C.k = 1 then decide (nE C.nd = 0) else if C.k = 3 then decide (tE C.td = 0) else if C.k = 5 then nameB C.na && nameB C.on else nameB C.na := rfl
  have hbad : coB C = true → C.cl = 0 → C.sq ≠ 0 → ckB C = false := fun a b c => by
    cases hq : rfB C with
    | false => exact h2 a hq
    | true => exact h4 a hq b c
  have hok : coB C = true → (C.cl ≠ 0 ∨ C.sq = 0) → ckB C = rfB C := fun a b => by
    cases hq : rfB C with
    | false => exact h2 a hq
    | true =>
      by_cases hc : C.cl = 0
      · rcases b with b | b
        · exact absurd hc b
        · exact h5 a hq hc b
      · exact h3 a hq hc
  clear h2 h3 h4 h5
  generalize ckB C = r at *
  generalize rfB C = rf at *
  generalize nE C.nd = en at *
  generalize tE C.td = et at *
  generalize nameB C.na = bn at *
  generalize nameB C.on = bo at *
  have H1 := Lib.hid h1
  have HBAD := Lib.hid hbad
  have HOK := Lib.hid hok
  have HRF := Lib.hid hrf
  clear h1 hbad hok hrf
  obtain ⟨CS, hCS⟩ : ∃ CS, CS = (cdC C (.slice a2 C.nd.ls.length c2) (.slice a3 C.nd.ts.length c3) (.slice a4 C.td.ws.length c4) (.slice a5 C.td.bs.length c5)).toArray := ⟨_, rfl⟩
  rw [← hCS] at HB0 HX0 HB1 hth hsz ⊢
  clear hCS
  go_enter Try.func17, Try.ntmps17
  go_upto_region 1 with fail
  generalize Value.agg CS = A0
  generalize w.alloc (.cells CS 33) = W0 at *
  have R0 := Lib.hid (HX0.out.range 2)
  refine wp_region_list ?_
  refine wpList_plain rfl fun K hK => ?_
  go_simp
  refine hK _ _ ?_
  clear hK K
  refine wpList_load_mid rfl 31 (.tmp 5) rfl w.heap.size 2 rfl (orC C (.slice a2 C.nd.ls.length c2) (.slice a3 C.nd.ts.length c3) (.slice a4 C.td.ws.length c4) (.slice a5 C.td.bs.length c5)) _ R0.out Try.underlying31 rfl rfl ?_
  refine wpList_plain rfl fun K hK => ?_
  go_simp
  refine hK _ _ ?_
  clear hK K
  refine wpList_store_mid rfl 31 (.tmp 3) (.tmp 6) rfl (w.heap.size + 1) 0 (orC C (.slice a2 C.nd.ls.length c2) (.slice a3 C.nd.ts.length c3) (.slice a4 C.td.ws.length c4) (.slice a5 C.td.bs.length c5)).toArray rfl rfl hth rfl hone ?_
  clear hth hone HX0 HB0 R0
  rw [show (orC C (.slice a2 C.nd.ls.length c2) (.slice a3 C.nd.ts.length c3) (.slice a4 C.td.ws.length c4) (.slice a5 C.td.bs.length c5)).toArray.toList = orC C (.slice a2 C.nd.ls.length c2) (.slice a3 C.nd.ts.length c3) (.slice a4 C.td.ws.length c4) (.slice a5 C.td.bs.length c5) from rfl]
  generalize (W0.alloc (.cells #[.int .u8 0, .string ⟨#[]⟩, .int .i64 0, .int .i64 0, .int .i64 0, .slice none 0 0, .slice none 0 0, .string ⟨#[]⟩, .int .i64 0, .int .i64 0, .int .i64 0, .slice none 0 0, .slice none 0 0, .string ⟨#[]⟩, .string ⟨#[]⟩, .int .i64 0, .string ⟨#[]⟩, .string ⟨#[]⟩, .int .u64 0] 31)).setCells (w.heap.size + 1) 0 (orC C (.slice a2 C.nd.ls.length c2) (.slice a3 C.nd.ts.length c3) (.slice a4 C.td.ws.length c4) (.slice a5 C.td.bs.length c5)) = W1 at *
  clear hsz
  have R1 := Lib.hid (HB1.out.bz.range 0)
  go_upto_region 2 with fail
  refine wp_region_list ?_
  refine wpList_load_mid rfl 31 (.tmp 3) rfl (w.heap.size + 1) 0 rfl (orC C (.slice a2 C.nd.ls.length c2) (.slice a3 C.nd.ts.length c3) (.slice a4 C.td.ws.length c4) (.slice a5 C.td.bs.length c5)) _ R1.out Try.underlying31 rfl rfl ?_
  go_wp2_with fail
  refine (KA.out _ HB1.out.be).mono ?_
  rintro e w2 ⟨rfl, hb⟩
  have HB2 := Lib.hid (HB1.out.below hb)
  clear hb KA R1 HB1
  have e0 : w2.cell? ⟨w.heap.size, 0, none⟩ = some (.int .u64 (C.cl : Nat)) := HB2.out.bx.cell 0
  have e1 : w2.cell? ⟨w.heap.size, 1, none⟩ = some (.int .u64 (C.sq : Nat)) := HB2.out.bx.cell 1
  cases hco : coB C with
  | false =>
    rw [show ((coE false : Nat) : Int) = 4 from rfl]
    by_cases k1 : C.k = 1
    · have d0 : w2.cell? ⟨w.heap.size + 1, 0, none⟩ = some (.int .u8 (C.k : Nat)) := HB2.out.bz.cell 0
      rw [k1] at d0
      have HN : Hid (r = false) := H1.out hco
      go_wp2
      go_ret
      exact ⟨by rw [HN.out]; rfl, HB2.out.be⟩
    by_cases k3 : C.k = 3
    · have d0 : w2.cell? ⟨w.heap.size + 1, 0, none⟩ = some (.int .u8 (C.k : Nat)) := HB2.out.bz.cell 0
      rw [k3] at d0
      have HN : Hid (r = false) := H1.out hco
      go_wp2
      go_ret
      exact ⟨by rw [HN.out]; rfl, HB2.out.be⟩
    by_cases k5 : C.k = 5
    · have d0 : w2.cell? ⟨w.heap.size + 1, 0, none⟩ = some (.int .u8 (C.k : Nat)) := HB2.out.bz.cell 0
      rw [k5] at d0
      have HN : Hid (r = false) := H1.out hco
      go_wp2
      go_ret
      exact ⟨by rw [HN.out]; rfl, HB2.out.be⟩
    have d0 : w2.cell? ⟨w.heap.size + 1, 0, none⟩ = some (.int .u8 (C.k : Nat)) := HB2.out.bz.cell 0
    have m1 : ¬ ((C.k : Nat) : Int) = 1 := by omega
    have n1 : (((C.k : Nat) : Int) == 1) = false := by simpa using m1
    have m3 : ¬ ((C.k : Nat) : Int) = 3 := by omega
    have n3 : (((C.k : Nat) : Int) == 3) = false := by simpa using m3
    have m5 : ¬ ((C.k : Nat) : Int) = 5 := by omega
    have n5 : (((C.k : Nat) : Int) == 5) = false := by simpa using m5
    have HN : Hid (r = false) := H1.out hco
    go_wp2
    go_ret
    exact ⟨by rw [HN.out]; rfl, HB2.out.be⟩
  | true =>
    rw [show ((coE true : Nat) : Int) = 0 from rfl]
    by_cases hc : C.cl = 0
    · rw [hc] at e0
      by_cases hs : C.sq = 0
      · rw [hs] at e1
        by_cases k1 : C.k = 1
        · have d0 : w2.cell? ⟨w.heap.size + 1, 0, none⟩ = some (.int .u8 (C.k : Nat)) := HB2.out.bz.cell 0
          rw [k1] at d0
          have hr := (HOK.out hco (.inr hs)).trans (HRF.out.trans (if_pos k1))
          have d1 : w2.cell? ⟨w.heap.size + 1, 1, none⟩ = some (.string C.nd.n) := HB2.out.bz.cell 1
          have d2 : w2.cell? ⟨w.heap.size + 1, 2, none⟩ = some (.int .i64 C.nd.z0) := HB2.out.bz.cell 2
          have d3 : w2.cell? ⟨w.heap.size + 1, 3, none⟩ = some (.int .i64 C.nd.z1) := HB2.out.bz.cell 3
          have d4 : w2.cell? ⟨w.heap.size + 1, 4, none⟩ = some (.int .i64 C.nd.z2) := HB2.out.bz.cell 4
          have d5 : w2.cell? ⟨w.heap.size + 1, 5, none⟩ = some (.slice a2 C.nd.ls.length c2) := HB2.out.bz.cell 5
          have d6 : w2.cell? ⟨w.heap.size + 1, 6, none⟩ = some (.slice a3 C.nd.ts.length c3) := HB2.out.bz.cell 6
          have HR := Lib.hid hr
          clear hr
          go_wp2_with fail
          refine (KN.out _ HB2.out.be).mono ?_
          rintro e w3 ⟨rfl, hb⟩
          have HB3 := Lib.hid (HB2.out.below hb)
          clear hb
          by_cases hq : en = 0
          · have HN : Hid (r = true) := HR.out.trans (decide_eq_true hq)
            subst hq
            go_wp2
            go_ret
            exact ⟨by rw [HN.out]; rfl, HB3.out.be⟩
          · have HN : Hid (r = false) := HR.out.trans (decide_eq_false hq)
            have m1 : ¬ ((en : Nat) : Int) = 0 := by omega
            have m2 : (((en : Nat) : Int) == 0) = false := by simpa using m1
            go_wp2
            go_ret
            exact ⟨by rw [HN.out]; rfl, HB3.out.be⟩
        by_cases k3 : C.k = 3
        · have d0 : w2.cell? ⟨w.heap.size + 1, 0, none⟩ = some (.int .u8 (C.k : Nat)) := HB2.out.bz.cell 0
          rw [k3] at d0
          have hr := (HOK.out hco (.inr hs)).trans (HRF.out.trans ((if_neg k1).trans (if_pos k3)))
          have d7 : w2.cell? ⟨w.heap.size + 1, 7, none⟩ = some (.string C.td.n) := HB2.out.bz.cell 7
          have d8 : w2.cell? ⟨w.heap.size + 1, 8, none⟩ = some (.int .i64 C.td.z0) := HB2.out.bz.cell 8
          have d9 : w2.cell? ⟨w.heap.size + 1, 9, none⟩ = some (.int .i64 C.td.z1) := HB2.out.bz.cell 9
          have d10 : w2.cell? ⟨w.heap.size + 1, 10, none⟩ = some (.int .i64 C.td.z2) := HB2.out.bz.cell 10
          have d11 : w2.cell? ⟨w.heap.size + 1, 11, none⟩ = some (.slice a4 C.td.ws.length c4) := HB2.out.bz.cell 11
          have d12 : w2.cell? ⟨w.heap.size + 1, 12, none⟩ = some (.slice a5 C.td.bs.length c5) := HB2.out.bz.cell 12
          have d13 : w2.cell? ⟨w.heap.size + 1, 13, none⟩ = some (.string C.td.g) := HB2.out.bz.cell 13
          have d14 : w2.cell? ⟨w.heap.size + 1, 14, none⟩ = some (.string C.td.a) := HB2.out.bz.cell 14
          have d15 : w2.cell? ⟨w.heap.size + 1, 15, none⟩ = some (.int .i64 C.td.r) := HB2.out.bz.cell 15
          have HR := Lib.hid hr
          clear hr
          go_wp2_with fail
          refine (KT.out _ HB2.out.be).mono ?_
          rintro e w3 ⟨rfl, hb⟩
          have HB3 := Lib.hid (HB2.out.below hb)
          clear hb
          by_cases hq : et = 0
          · have HN : Hid (r = true) := HR.out.trans (decide_eq_true hq)
            subst hq
            go_wp2
            go_ret
            exact ⟨by rw [HN.out]; rfl, HB3.out.be⟩
          · have HN : Hid (r = false) := HR.out.trans (decide_eq_false hq)
            have m1 : ¬ ((et : Nat) : Int) = 0 := by omega
            have m2 : (((et : Nat) : Int) == 0) = false := by simpa using m1
            go_wp2
            go_ret
            exact ⟨by rw [HN.out]; rfl, HB3.out.be⟩
        by_cases k5 : C.k = 5
        · have d0 : w2.cell? ⟨w.heap.size + 1, 0, none⟩ = some (.int .u8 (C.k : Nat)) := HB2.out.bz.cell 0
          rw [k5] at d0
          have hr := (HOK.out hco (.inr hs)).trans (HRF.out.trans ((if_neg k1).trans ((if_neg k3).trans (if_pos k5))))
          have d16 : w2.cell? ⟨w.heap.size + 1, 16, none⟩ = some (.string C.na) := HB2.out.bz.cell 16
          have HR := Lib.hid hr
          clear hr
          go_wp2_with fail
          refine (KM.out _).mono ?_
          rintro e w3 ⟨rfl, rfl⟩
          have d17 : w2.cell? ⟨w.heap.size + 1, 17, none⟩ = some (.string C.on) := HB2.out.bz.cell 17
          cases bn
          · have HN : Hid (r = false) := HR.out
            go_wp2
            go_ret
            exact ⟨by rw [HN.out]; rfl, HB2.out.be⟩
          · go_wp2_with fail
            refine (KO.out _).mono ?_
            rintro e w3 ⟨rfl, rfl⟩
            cases bo
            · have HN : Hid (r = false) := HR.out
              go_wp2
              go_ret
              exact ⟨by rw [HN.out]; rfl, HB2.out.be⟩
            · have HN : Hid (r = true) := HR.out
              go_wp2
              go_ret
              exact ⟨by rw [HN.out]; rfl, HB2.out.be⟩
        have d0 : w2.cell? ⟨w.heap.size + 1, 0, none⟩ = some (.int .u8 (C.k : Nat)) := HB2.out.bz.cell 0
        have m1 : ¬ ((C.k : Nat) : Int) = 1 := by omega
        have n1 : (((C.k : Nat) : Int) == 1) = false := by simpa using m1
        have m3 : ¬ ((C.k : Nat) : Int) = 3 := by omega
        have n3 : (((C.k : Nat) : Int) == 3) = false := by simpa using m3
        have m5 : ¬ ((C.k : Nat) : Int) = 5 := by omega
        have n5 : (((C.k : Nat) : Int) == 5) = false := by simpa using m5
        have hr := (HOK.out hco (.inr hs)).trans (HRF.out.trans ((if_neg k1).trans ((if_neg k3).trans (if_neg k5))))
        have d16 : w2.cell? ⟨w.heap.size + 1, 16, none⟩ = some (.string C.na) := HB2.out.bz.cell 16
        have HR := Lib.hid hr
        clear hr
        go_wp2_with fail
        refine (KM.out _).mono ?_
        rintro e w3 ⟨rfl, rfl⟩
        cases bn
        · have HN : Hid (r = false) := HR.out
          go_wp2
          go_ret
          exact ⟨by rw [HN.out]; rfl, HB2.out.be⟩
        · have HN : Hid (r = true) := HR.out
          go_wp2
          go_ret
          exact ⟨by rw [HN.out]; rfl, HB2.out.be⟩
      · have ms : ¬ ((C.sq : Nat) : Int) = 0 := by omega
        have ns : (((C.sq : Nat) : Int) == 0) = false := by simpa using ms
        by_cases k1 : C.k = 1
        · have d0 : w2.cell? ⟨w.heap.size + 1, 0, none⟩ = some (.int .u8 (C.k : Nat)) := HB2.out.bz.cell 0
          rw [k1] at d0
          have HN : Hid (r = false) := HBAD.out hco hc hs
          go_wp2
          go_ret
          exact ⟨by rw [HN.out]; rfl, HB2.out.be⟩
        by_cases k3 : C.k = 3
        · have d0 : w2.cell? ⟨w.heap.size + 1, 0, none⟩ = some (.int .u8 (C.k : Nat)) := HB2.out.bz.cell 0
          rw [k3] at d0
          have HN : Hid (r = false) := HBAD.out hco hc hs
          go_wp2
          go_ret
          exact ⟨by rw [HN.out]; rfl, HB2.out.be⟩
        by_cases k5 : C.k = 5
        · have d0 : w2.cell? ⟨w.heap.size + 1, 0, none⟩ = some (.int .u8 (C.k : Nat)) := HB2.out.bz.cell 0
          rw [k5] at d0
          have HN : Hid (r = false) := HBAD.out hco hc hs
          go_wp2
          go_ret
          exact ⟨by rw [HN.out]; rfl, HB2.out.be⟩
        have d0 : w2.cell? ⟨w.heap.size + 1, 0, none⟩ = some (.int .u8 (C.k : Nat)) := HB2.out.bz.cell 0
        have m1 : ¬ ((C.k : Nat) : Int) = 1 := by omega
        have n1 : (((C.k : Nat) : Int) == 1) = false := by simpa using m1
        have m3 : ¬ ((C.k : Nat) : Int) = 3 := by omega
        have n3 : (((C.k : Nat) : Int) == 3) = false := by simpa using m3
        have m5 : ¬ ((C.k : Nat) : Int) = 5 := by omega
        have n5 : (((C.k : Nat) : Int) == 5) = false := by simpa using m5
        have HN : Hid (r = false) := HBAD.out hco hc hs
        go_wp2
        go_ret
        exact ⟨by rw [HN.out]; rfl, HB2.out.be⟩
    · have mc : ¬ ((C.cl : Nat) : Int) = 0 := by omega
      have nc : (((C.cl : Nat) : Int) != 0) = true := by simpa using mc
      by_cases k1 : C.k = 1
      · have d0 : w2.cell? ⟨w.heap.size + 1, 0, none⟩ = some (.int .u8 (C.k : Nat)) := HB2.out.bz.cell 0
        rw [k1] at d0
        have hr := (HOK.out hco (.inl hc)).trans (HRF.out.trans (if_pos k1))
        have d1 : w2.cell? ⟨w.heap.size + 1, 1, none⟩ = some (.string C.nd.n) := HB2.out.bz.cell 1
        have d2 : w2.cell? ⟨w.heap.size + 1, 2, none⟩ = some (.int .i64 C.nd.z0) := HB2.out.bz.cell 2
        have d3 : w2.cell? ⟨w.heap.size + 1, 3, none⟩ = some (.int .i64 C.nd.z1) := HB2.out.bz.cell 3
        have d4 : w2.cell? ⟨w.heap.size + 1, 4, none⟩ = some (.int .i64 C.nd.z2) := HB2.out.bz.cell 4
        have d5 : w2.cell? ⟨w.heap.size + 1, 5, none⟩ = some (.slice a2 C.nd.ls.length c2) := HB2.out.bz.cell 5
        have d6 : w2.cell? ⟨w.heap.size + 1, 6, none⟩ = some (.slice a3 C.nd.ts.length c3) := HB2.out.bz.cell 6
        have HR := Lib.hid hr
        clear hr
        go_wp2_with fail
        refine (KN.out _ HB2.out.be).mono ?_
        rintro e w3 ⟨rfl, hb⟩
        have HB3 := Lib.hid (HB2.out.below hb)
        clear hb
        by_cases hq : en = 0
        · have HN : Hid (r = true) := HR.out.trans (decide_eq_true hq)
          subst hq
          go_wp2
          go_ret
          exact ⟨by rw [HN.out]; rfl, HB3.out.be⟩
        · have HN : Hid (r = false) := HR.out.trans (decide_eq_false hq)
          have m1 : ¬ ((en : Nat) : Int) = 0 := by omega
          have m2 : (((en : Nat) : Int) == 0) = false := by simpa using m1
          go_wp2
          go_ret
          exact ⟨by rw [HN.out]; rfl, HB3.out.be⟩
      by_cases k3 : C.k = 3
      · have d0 : w2.cell? ⟨w.heap.size + 1, 0, none⟩ = some (.int .u8 (C.k : Nat)) := HB2.out.bz.cell 0
        rw [k3] at d0
        have hr := (HOK.out hco (.inl hc)).trans (HRF.out.trans ((if_neg k1).trans (if_pos k3)))
        have d7 : w2.cell? ⟨w.heap.size + 1, 7, none⟩ = some (.string C.td.n) := HB2.out.bz.cell 7
        have d8 : w2.cell? ⟨w.heap.size + 1, 8, none⟩ = some (.int .i64 C.td.z0) := HB2.out.bz.cell 8
        have d9 : w2.cell? ⟨w.heap.size + 1, 9, none⟩ = some (.int .i64 C.td.z1) := HB2.out.bz.cell 9
        have d10 : w2.cell? ⟨w.heap.size + 1, 10, none⟩ = some (.int .i64 C.td.z2) := HB2.out.bz.cell 10
        have d11 : w2.cell? ⟨w.heap.size + 1, 11, none⟩ = some (.slice a4 C.td.ws.length c4) := HB2.out.bz.cell 11
        have d12 : w2.cell? ⟨w.heap.size + 1, 12, none⟩ = some (.slice a5 C.td.bs.length c5) := HB2.out.bz.cell 12
        have d13 : w2.cell? ⟨w.heap.size + 1, 13, none⟩ = some (.string C.td.g) := HB2.out.bz.cell 13
        have d14 : w2.cell? ⟨w.heap.size + 1, 14, none⟩ = some (.string C.td.a) := HB2.out.bz.cell 14
        have d15 : w2.cell? ⟨w.heap.size + 1, 15, none⟩ = some (.int .i64 C.td.r) := HB2.out.bz.cell 15
        have HR := Lib.hid hr
        clear hr
        go_wp2_with fail
        refine (KT.out _ HB2.out.be).mono ?_
        rintro e w3 ⟨rfl, hb⟩
        have HB3 := Lib.hid (HB2.out.below hb)
        clear hb
        by_cases hq : et = 0
        · have HN : Hid (r = true) := HR.out.trans (decide_eq_true hq)
          subst hq
          go_wp2
          go_ret
          exact ⟨by rw [HN.out]; rfl, HB3.out.be⟩
        · have HN : Hid (r = false) := HR.out.trans (decide_eq_false hq)
          have m1 : ¬ ((et : Nat) : Int) = 0 := by omega
          have m2 : (((et : Nat) : Int) == 0) = false := by simpa using m1
          go_wp2
          go_ret
          exact ⟨by rw [HN.out]; rfl, HB3.out.be⟩
      by_cases k5 : C.k = 5
      · have d0 : w2.cell? ⟨w.heap.size + 1, 0, none⟩ = some (.int .u8 (C.k : Nat)) := HB2.out.bz.cell 0
        rw [k5] at d0
        have hr := (HOK.out hco (.inl hc)).trans (HRF.out.trans ((if_neg k1).trans ((if_neg k3).trans (if_pos k5))))
        have d16 : w2.cell? ⟨w.heap.size + 1, 16, none⟩ = some (.string C.na) := HB2.out.bz.cell 16
        have HR := Lib.hid hr
        clear hr
        go_wp2_with fail
        refine (KM.out _).mono ?_
        rintro e w3 ⟨rfl, rfl⟩
        have d17 : w2.cell? ⟨w.heap.size + 1, 17, none⟩ = some (.string C.on) := HB2.out.bz.cell 17
        cases bn
        · have HN : Hid (r = false) := HR.out
          go_wp2
          go_ret
          exact ⟨by rw [HN.out]; rfl, HB2.out.be⟩
        · go_wp2_with fail
          refine (KO.out _).mono ?_
          rintro e w3 ⟨rfl, rfl⟩
          cases bo
          · have HN : Hid (r = false) := HR.out
            go_wp2
            go_ret
            exact ⟨by rw [HN.out]; rfl, HB2.out.be⟩
          · have HN : Hid (r = true) := HR.out
            go_wp2
            go_ret
            exact ⟨by rw [HN.out]; rfl, HB2.out.be⟩
      have d0 : w2.cell? ⟨w.heap.size + 1, 0, none⟩ = some (.int .u8 (C.k : Nat)) := HB2.out.bz.cell 0
      have m1 : ¬ ((C.k : Nat) : Int) = 1 := by omega
      have n1 : (((C.k : Nat) : Int) == 1) = false := by simpa using m1
      have m3 : ¬ ((C.k : Nat) : Int) = 3 := by omega
      have n3 : (((C.k : Nat) : Int) == 3) = false := by simpa using m3
      have m5 : ¬ ((C.k : Nat) : Int) = 5 := by omega
      have n5 : (((C.k : Nat) : Int) == 5) = false := by simpa using m5
      have hr := (HOK.out hco (.inl hc)).trans (HRF.out.trans ((if_neg k1).trans ((if_neg k3).trans (if_neg k5))))
      have d16 : w2.cell? ⟨w.heap.size + 1, 16, none⟩ = some (.string C.na) := HB2.out.bz.cell 16
      have HR := Lib.hid hr
      clear hr
      go_wp2_with fail
      refine (KM.out _).mono ?_
      rintro e w3 ⟨rfl, rfl⟩
      cases bn
      · have HN : Hid (r = false) := HR.out
        go_wp2
        go_ret
        exact ⟨by rw [HN.out]; rfl, HB2.out.be⟩
      · have HN : Hid (r = true) := HR.out
        go_wp2
        go_ret
        exact ⟨by rw [HN.out]; rfl, HB2.out.be⟩
end Hd
end Go.Proofs.Ythlchdlgafincaa
