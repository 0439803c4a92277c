/-
  OrderApart: two commands that are not one have unlike bytes.
-/
import Derived.Test.YthlchdlgafincaaOrdMath
namespace Go.Proofs.Ythlchdlgafincaa
open Go.RowKit
namespace Hd
open PM Hc Rg
set_option maxRecDepth 100000 in
set_option maxHeartbeats 4000000 in
theorem orderApart (v u : Value) (A B : Cd) (w : World) (ha : CmdArg w v A) (hb : CmdArg w u B) :
    Calls Try.prog 6 #[v, u] w fun e w' => e = .returned (.bool true) ∧ Below w.heap.size w w' := by
  obtain ⟨v2, v3, v4, v5, rfl, hp, hl, hbd⟩ := ha
  obtain ⟨u2, u3, u4, u5, rfl, hp2, hl2, hbd2⟩ := hb
  have HB0 : Hid (Bb w (cdC A v2 v3 v4 v5) (cdC B u2 u3 u4 u5) ((w.alloc (.cells (cdC A v2 v3 v4 v5).toArray 33)).alloc (.cells (cdC B u2 u3 u4 u5).toArray 33))) := Bb.made w _ _ _
  have KL := Lib.hid lives_true
  have KA : Hid (∀ z, Below w.heap.size w z → Calls Try.prog 10 #[.agg (cdC A v2 v3 v4 v5).toArray] z fun e w' => e = .returned (.tuple #[.string (bs (ceS A)), .int .i64 (coE (ckB A) : Nat)]) ∧ Below z.heap.size z w') := fun z hz => cmd_encode A v2 v3 v4 v5 z (hp.ovr hz) hl hbd
  have KB : Hid (∀ z, Below w.heap.size w z → Calls Try.prog 10 #[.agg (cdC B u2 u3 u4 u5).toArray] z fun e w' => e = .returned (.tuple #[.string (bs (ceS B)), .int .i64 (coE (ckB B) : Nat)]) ∧ Below z.heap.size z w') := fun z hz => cmd_encode B u2 u3 u4 u5 z (hp2.ovr hz) hl2 hbd2
  have KS : Hid (∀ z, Below w.heap.size w z → Calls Try.prog 15 #[.agg (cdC A v2 v3 v4 v5).toArray, .agg (cdC B u2 u3 u4 u5).toArray] z fun e w' => e = .returned (.bool (smC A B)) ∧ Below z.heap.size z w') := fun z hz => same_cmd A B _ _ _ _ _ _ _ _ z (hp.ovr hz) (hp2.ovr hz)
  have hi := fun h1 h2 => cm_inj (a := A) (b := B) h1 h2 hbd hbd2
  clear hp hl hbd hp2 hl2 hbd2
  obtain ⟨CS, hCS⟩ : ∃ CS, CS = (cdC A v2 v3 v4 v5).toArray := ⟨_, rfl⟩
  obtain ⟨DS, hDS⟩ : ∃ DS, DS = (cdC B u2 u3 u4 u5).toArray := ⟨_, rfl⟩
  rw [← hCS, ← hDS] at HB0 ⊢
  clear hCS hDS
  go_enter Try.func6, Try.ntmps6
  go_upto_region 1 with fail
  generalize (w.alloc (.cells CS 33)).alloc (.cells DS 33) = W0 at *
  generalize Value.agg CS = A0
  generalize Value.agg DS = A1
  go_wp2_with fail
  refine (KL.out _).mono ?_
  rintro e w1 ⟨rfl, hb⟩
  have HB1 := Lib.hid (HB0.out.below hb)
  have R1 := Lib.hid (HB1.out.bx.range 0)
  clear hb
  go_upto_region 3 with fail
  refine wp_region_list ?_
  refine wpList_load_mid rfl 33 (.tmp 2) rfl w.heap.size 0 rfl (cdC A v2 v3 v4 v5) _ R1.out Try.underlying33 rfl rfl ?_
  go_wp2_with fail
  refine (KA.out _ HB1.out.be).mono ?_
  rintro e w2 ⟨rfl, hb⟩
  have HB2 := Lib.hid (HB1.out.below hb)
  have R2 := Lib.hid (HB2.out.bz.range 0)
  clear hb
  go_upto_region 4 with fail
  refine wp_region_list ?_
  refine wpList_load_mid rfl 33 (.tmp 3) rfl (w.heap.size + 1) 0 rfl (cdC B u2 u3 u4 u5) _ R2.out Try.underlying33 rfl rfl ?_
  go_wp2_with fail
  refine (KB.out _ HB2.out.be).mono ?_
  rintro e w3 ⟨rfl, hb⟩
  have HB3 := Lib.hid (HB2.out.below hb)
  clear hb KA KB KL R1 R2
  cases h1 : ckB A with
  | false =>
    rw [show ((coE false : Nat) : Int) = 4 from rfl]
    generalize bs (ceS A) = q1
    generalize bs (ceS B) = q2
    generalize coE (ckB B) = e2
    clear hi h1
    go_wp2
    go_ret
    exact ⟨rfl, HB3.out.be⟩
  | true =>
    rw [show ((coE true : Nat) : Int) = 0 from rfl]
    cases h2 : ckB B with
    | false =>
      rw [show ((coE false : Nat) : Int) = 4 from rfl]
      generalize bs (ceS A) = q1
      generalize bs (ceS B) = q2
      clear hi h1 h2
      go_wp2
      go_ret
      exact ⟨rfl, HB3.out.be⟩
    | true =>
      rw [show ((coE true : Nat) : Int) = 0 from rfl]
      have e1 : ceS A = cmY A := if_pos h1
      have e2 : ceS B = cmY B := if_pos h2
      rw [e1, e2]
      have R3 := Lib.hid (HB3.out.bx.range 0)
      have R4 := Lib.hid (HB3.out.bz.range 0)
      have hiff := hi h1 h2
      clear hi h1 h2 e1 e2
      by_cases hab : cmY A = cmY B
      · have HS : Hid (smC A B = true) := smC_iff.2 (hiff.1 hab)
        rw [hab]
        generalize bs (cmY B) = q2
        clear hiff hab
        go_upto_region 5 with fail
        refine wp_region_list ?_
        refine wpList_plain rfl fun K hK => ?_
        go_simp
        refine hK _ _ ?_
        clear hK K
        refine wpList_plain rfl fun K hK => ?_
        go_simp
        refine hK _ _ ?_
        clear hK K
        refine wpList_plain rfl fun K hK => ?_
        go_simp
        refine hK _ _ ?_
        clear hK K
        refine BigFrame.wpList_want rfl fun K hK => ?_
        go_simp
        refine hK _ _ ?_
        clear hK K
        refine BigFrame.wpList_want rfl fun K hK => ?_
        go_simp
        refine hK _ _ ?_
        clear hK K
        refine wpList_plain rfl fun K hK => ?_
        go_simp
        refine hK _ _ ?_
        clear hK K
        refine wpList_plain rfl fun K hK => ?_
        go_simp
        refine hK _ _ ?_
        clear hK K
        refine BigFrame.wpList_want rfl fun K hK => ?_
        go_simp
        refine hK _ _ ?_
        clear hK K
        refine BigFrame.wpList_want rfl fun K hK => ?_
        go_simp
        refine hK _ _ ?_
        clear hK K
        refine BigFrame.wpList_want rfl fun K hK => ?_
        go_simp
        refine hK _ _ ?_
        clear hK K
        refine wl_load_want rfl 33 (.tmp 2) rfl w.heap.size 0 rfl (cdC A v2 v3 v4 v5) _ R3.out Try.underlying33 rfl rfl ?_
        refine wl_load_want rfl 33 (.tmp 3) rfl (w.heap.size + 1) 0 rfl (cdC B u2 u3 u4 u5) _ R4.out Try.underlying33 rfl rfl ?_
        go_wp2_with fail
        refine (KS.out _ HB3.out.be).mono ?_
        rintro e w4 ⟨rfl, hb⟩
        have HB4 := Lib.hid (HB3.out.below hb)
        rw [HS.out]
        clear hb
        go_wp2
        go_ret
        exact ⟨rfl, HB4.out.be⟩
      · have HS : Hid (smC A B = false) := by
          show _ = _
          rw [← Bool.not_eq_true, smC_iff]
          exact fun h => hab (hiff.2 h)
        have hne : ¬ bs (cmY A) = bs (cmY B) := fun e => hab (by have := congrArg (fun s => s.data.toList) e; simpa [bs_data] using this)
        obtain ⟨m1, m2⟩ := ba_no hne
        generalize bs (cmY A) = q1 at *
        generalize bs (cmY B) = q2 at *
        clear hiff hab hne
        go_upto_region 5 with fail
        refine wp_region_list ?_
        refine wpList_plain rfl fun K hK => ?_
        go_simp
        refine hK _ _ ?_
        clear hK K
        refine wpList_plain rfl fun K hK => ?_
        go_simp
        refine hK _ _ ?_
        clear hK K
        refine wpList_plain rfl fun K hK => ?_
        go_simp
        refine hK _ _ ?_
        clear hK K
        refine BigFrame.wpList_want rfl fun K hK => ?_
        go_simp
        refine hK _ _ ?_
        clear hK K
        refine BigFrame.wpList_want rfl fun K hK => ?_
        go_simp
        refine hK _ _ ?_
        clear hK K
        refine wpList_plain rfl fun K hK => ?_
        go_simp
        refine hK _ _ ?_
        clear hK K
        refine wpList_plain rfl fun K hK => ?_
        go_simp
        refine hK _ _ ?_
        clear hK K
        refine BigFrame.wpList_want rfl fun K hK => ?_
        go_simp
        refine hK _ _ ?_
        clear hK K
        refine BigFrame.wpList_want rfl fun K hK => ?_
        go_simp
        refine hK _ _ ?_
        clear hK K
        refine BigFrame.wpList_want rfl fun K hK => ?_
        go_simp
        refine hK _ _ ?_
        clear hK K
        refine wl_load_want rfl 33 (.tmp 2) rfl w.heap.size 0 rfl (cdC A v2 v3 v4 v5) _ R3.out Try.underlying33 rfl rfl ?_
        refine wl_load_want rfl 33 (.tmp 3) rfl (w.heap.size + 1) 0 rfl (cdC B u2 u3 u4 u5) _ R4.out Try.underlying33 rfl rfl ?_
        go_wp2_with fail
        refine (KS.out _ HB3.out.be).mono ?_
        rintro e w4 ⟨rfl, hb⟩
        have HB4 := Lib.hid (HB3.out.below hb)
        rw [HS.out]
        clear hb
        go_wp2
        go_ret
        exact ⟨rfl, HB4.out.be⟩
end Hd
end Go.Proofs.Ythlchdlgafincaa
