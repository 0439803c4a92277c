/-
  OrderCut: a command's bytes, cut short anywhere, are none.
-/
import Derived.Test.YthlchdlgafincaaOrdMath
namespace Go.Proofs.Ythlchdlgafincaa
open Go.RowKit
namespace Hd
open PM Hc Rg
theorem cut_dat (s : ByteArray) (k : Nat) : (s.extract 0 k).data.toList = s.data.toList.take k := by
  rw [ByteArray.data_extract]
  simp
theorem enc_no {C : Cd} {v2 v3 v4 v5 : Value} {w : World} (hp : PrsIn w w.heap.size C v2 v3 v4 v5) (hl : Lens C) (hb : Bnd C) (hk : ckB C = false) :
    ∀ z, Below w.heap.size w z → Calls Try.prog 10 #[.agg (cdC C v2 v3 v4 v5).toArray] z fun e w' => e = .returned (.tuple #[.string ⟨#[]⟩, .int .i64 4]) ∧ Below z.heap.size z w' := fun z hz => by
  have := cmd_encode C v2 v3 v4 v5 z (hp.ovr hz) hl hb
  unfold CeIs ceS coE at this
  rw [hk] at this
  exact this
theorem enc_yes {C : Cd} {v2 v3 v4 v5 : Value} {w : World} (hp : PrsIn w w.heap.size C v2 v3 v4 v5) (hl : Lens C) (hb : Bnd C) (hk : ckB C = true) :
    ∀ z, Below w.heap.size w z → Calls Try.prog 10 #[.agg (cdC C v2 v3 v4 v5).toArray] z fun e w' => e = .returned (.tuple #[.string (bs (cmY C)), .int .i64 0]) ∧ Below z.heap.size z w' := fun z hz => by
  have := cmd_encode C v2 v3 v4 v5 z (hp.ovr hz) hl hb
  unfold CeIs ceS coE at this
  rw [hk] at this
  exact this
theorem dec_no (l : List UInt8) (hl : l.length ≤ maxLen) (hk : dcOk l = false) :
    ∀ z, Calls Try.prog 12 #[.string (bs l)] z fun e w' => ∃ v2 v3 v4 v5, e = .returned (.tuple #[.agg (cdC (cd0 0 0 0) v2 v3 v4 v5).toArray, .int .i64 4]) ∧ Rows w' z.heap.size (cd0 0 0 0) v2 v3 v4 v5 ∧ Below z.heap.size z w' := fun z => by
  refine (cmd_decode l z hl).mono ?_
  rintro e w' ⟨⟨v, he, v2, v3, v4, v5, rfl, hr⟩, hb⟩
  unfold dcT at he hr
  unfold coE at he
  rw [hk] at he hr
  exact ⟨v2, v3, v4, v5, he, hr, hb⟩
theorem dec_yes (l : List UInt8) (hl : l.length ≤ maxLen) (hk : dcOk l = true) :
    ∀ z, Calls Try.prog 12 #[.string (bs l)] z fun e w' => ∃ v2 v3 v4 v5, e = .returned (.tuple #[.agg (cdC (cmT l) v2 v3 v4 v5).toArray, .int .i64 0]) ∧ Rows w' z.heap.size (cmT l) v2 v3 v4 v5 ∧ Below z.heap.size z w' := fun z => by
  refine (cmd_decode l z hl).mono ?_
  rintro e w' ⟨⟨v, he, v2, v3, v4, v5, rfl, hr⟩, hb⟩
  unfold dcT at he hr
  unfold coE at he
  rw [hk] at he hr
  exact ⟨v2, v3, v4, v5, he, hr, hb⟩
theorem ext_bs (l : List UInt8) (k : Nat) : (bs l).extract 0 k = bs (l.take k) := by
  have := cut_dat (bs l) k
  rw [bs_data] at this
  rw [← this, bs_of]
set_option maxRecDepth 100000 in
set_option maxHeartbeats 4000000 in
theorem orderCut (v : Value) (C : Cd) (i : Int) (w : World) (hc : CmdArg w v C) (hi : -9223372036854775808 ≤ i ∧ i ≤ 9223372036854775807) :
    Calls Try.prog 9 #[v, .int .i64 i] w fun e w' => e = .returned (.bool true) ∧ Below w.heap.size w w' := by
  obtain ⟨v2, v3, v4, v5, rfl, hp, hl, hb⟩ := hc
  have HB0 : Hid (Below w.heap.size w (w.alloc (.cells (cdC C v2 v3 v4 v5).toArray 33))) := (Below.refl _ _).alloc (Nat.le_refl _) _
  have HX0 : Hid (Bxn (w.alloc (.cells (cdC C v2 v3 v4 v5).toArray 33)) w.heap.size (cdC C v2 v3 v4 v5)) := Bxn.made w _ _
  have KL := Lib.hid lives_true
  have hno := fun h => enc_no hp hl hb h
  have hye := fun h => enc_yes hp hl hb h
  have hle := fun h => cmY_le (ck_form (c := C) h).1 hb
  have hls := fun h k (hk : k < (cmY C).length) => dc_less (c := C) h hb ((cmY C).take k) ((cmY C).drop k) (List.take_append_drop _ _) (by intro e; have := congrArg List.length e; rw [List.length_drop] at this; simp at this; omega) (by rw [List.length_take]; unfold maxLen; have := hle h; omega)
  clear hp hl hb
  obtain ⟨CS, hCS⟩ : ∃ CS, CS = (cdC C v2 v3 v4 v5).toArray := ⟨_, rfl⟩
  rw [← hCS] at HB0 HX0 ⊢
  clear hCS
  go_enter Try.func9, Try.ntmps9
  go_upto_region 1 with fail
  generalize w.alloc (.cells CS 33) = W0 at *
  generalize Value.agg CS = A0
  go_wp2_with fail
  refine (KL.out _).mono ?_
  rintro e w1 ⟨rfl, hb⟩
  have HB1 := Lib.hid (HB0.out.trans (hb.mono HB0.out.size))
  have HX1 := Lib.hid (HX0.out.below hb)
  have R1 := Lib.hid (HX1.out.range 0)
  clear hb
  go_upto_region 3 with fail
  refine wp_region_list ?_
  refine wpList_load_mid rfl 33 (.tmp 2) rfl w.heap.size 0 rfl (cdC C v2 v3 v4 v5) _ R1.out Try.underlying33 rfl rfl ?_
  cases hk : ckB C with
  | false =>
    have KE := Lib.hid (hno hk)
    clear hno hye hk hle hls hi
    go_wp2_with fail
    refine (KE.out _ HB1.out).mono ?_
    rintro e w2 ⟨rfl, hb⟩
    have HB2 := Lib.hid (HB1.out.trans (hb.mono HB1.out.size))
    clear hb
    go_wp2
    go_ret
    exact ⟨rfl, HB2.out⟩
  | true =>
    have KE := Lib.hid (hye hk)
    have h1 := hle hk
    have h2 := hls hk
    have hz := bs_size (cmY C)
    clear hno hye hk hle hls
    by_cases hneg : i < 0
    · clear h1 h2 hz hi
      generalize bs (cmY C) = q at *
      go_wp2_with fail
      refine (KE.out _ HB1.out).mono ?_
      rintro e w2 ⟨rfl, hb⟩
      have HB2 := Lib.hid (HB1.out.trans (hb.mono HB1.out.size))
      clear hb
      go_wp2
      go_ret
      exact ⟨rfl, HB2.out⟩
    · obtain ⟨k, rfl⟩ := Int.eq_ofNat_of_zero_le (by omega : 0 ≤ i)
      by_cases hlt : k < (cmY C).length
      · have he : (bs (cmY C)).extract 0 k = bs ((cmY C).take k) := ext_bs _ _
        have kd := (dec_no ((cmY C).take k) (by rw [List.length_take]; unfold maxLen; omega) (h2 k hlt))
        rw [← he] at kd
        have KD := Lib.hid kd
        clear kd he
        have hlt2 : k < (bs (cmY C)).size := by omega
        clear h2 hlt
        generalize hq : bs (cmY C) = q at *
        clear hq
        have m1 : ¬ ((k : Nat) : Int) < 0 := by omega
        have m2 : decide (q.size ≤ k) = false := decide_eq_false (by omega)
        have m3 : ((q.size : Nat) : Int) ≤ 4096 := by omega
        clear h1 hz hi hneg
        go_wp2_with fail
        refine (KE.out _ HB1.out).mono ?_
        rintro e w2 ⟨rfl, hb⟩
        have HB2 := Lib.hid (HB1.out.trans (hb.mono HB1.out.size))
        clear hb
        go_wp2_with fail
        refine (KD.out _).mono ?_
        rintro e w3 ⟨u2, u3, u4, u5, rfl, hr, hb⟩
        have HB3 := Lib.hid (HB2.out.trans (hb.mono HB2.out.size))
        obtain ⟨s2, d2, rfl⟩ := hr.1.slice
        obtain ⟨s3, d3, rfl⟩ := hr.2.1.slice
        obtain ⟨s4, d4, rfl⟩ := hr.2.2.1.slice
        obtain ⟨s5, d5, rfl⟩ := hr.2.2.2.slice
        have hm3 : Bxn (w3.alloc (.cells #[.int .u64 0, .int .u64 0, .int .u8 0, .string ⟨#[]⟩, .int .i64 0, .int .i64 0, .int .i64 0, .slice none 0 0, .slice none 0 0, .string ⟨#[]⟩, .int .i64 0, .int .i64 0, .int .i64 0, .slice none 0 0, .slice none 0 0, .string ⟨#[]⟩, .string ⟨#[]⟩, .int .i64 0, .string ⟨#[]⟩, .string ⟨#[]⟩, .int .u64 0] 33)) w3.heap.size [.int .u64 0, .int .u64 0, .int .u8 0, .string ⟨#[]⟩, .int .i64 0, .int .i64 0, .int .i64 0, .slice none 0 0, .slice none 0 0, .string ⟨#[]⟩, .int .i64 0, .int .i64 0, .int .i64 0, .slice none 0 0, .slice none 0 0, .string ⟨#[]⟩, .string ⟨#[]⟩, .int .i64 0, .string ⟨#[]⟩, .string ⟨#[]⟩, .int .u64 0] := Bxn.made w3 _ _
        have hth := hm3.there 21 rfl
        have ha3 : Below w3.heap.size w3 (w3.alloc (.cells #[.int .u64 0, .int .u64 0, .int .u8 0, .string ⟨#[]⟩, .int .i64 0, .int .i64 0, .int .i64 0, .slice none 0 0, .slice none 0 0, .string ⟨#[]⟩, .int .i64 0, .int .i64 0, .int .i64 0, .slice none 0 0, .slice none 0 0, .string ⟨#[]⟩, .string ⟨#[]⟩, .int .i64 0, .string ⟨#[]⟩, .string ⟨#[]⟩, .int .u64 0] 33)) := (Below.refl _ _).alloc (Nat.le_refl _) _
        have HB4 := Lib.hid ((HB3.out.trans (ha3.mono HB3.out.size)).grown (only_setCells w3.heap.size (cdC (cd0 0 0 0) (.slice s2 (cd0 0 0 0).nd.ls.length d2) (.slice s3 (cd0 0 0 0).nd.ts.length d3) (.slice s4 (cd0 0 0 0).td.ws.length d4) (.slice s5 (cd0 0 0 0).td.bs.length d5)) 0 _) (Nat.le_trans HB3.out.size ha3.size) (fun k e => by injection e with e; have := HB3.out.size; omega))
        clear hb hr hm3 ha3
        dsimp only
        refine ‹∀ (a : Act) (w : World), wpList Try.prog _ _ _ a w → _› _ _ ?_
        refine wpList_plain rfl fun K hK => ?_
        go_simp
        refine hK _ _ ?_
        clear hK K
        refine wpList_plain rfl fun K hK => ?_
        go_simp
        refine hK _ _ ?_
        clear hK K
        refine wpList_plain rfl fun K hK => ?_
        go_simp
        refine hK _ _ ?_
        clear hK K
        refine wpList_plain rfl fun K hK => ?_
        go_simp
        refine hK _ _ ?_
        clear hK K
        refine wpList_store_mid rfl 33 (.tmp 7) (.tmp 33) rfl w3.heap.size 0 (cdC (cd0 0 0 0) (.slice s2 (cd0 0 0 0).nd.ls.length d2) (.slice s3 (cd0 0 0 0).nd.ts.length d3) (.slice s4 (cd0 0 0 0).td.ws.length d4) (.slice s5 (cd0 0 0 0).td.bs.length d5)).toArray rfl rfl hth rfl (all_oneCell_toArray (cdC_one (cd0 0 0 0) (.slice s2 (cd0 0 0 0).nd.ls.length d2) (.slice s3 (cd0 0 0 0).nd.ts.length d3) (.slice s4 (cd0 0 0 0).td.ws.length d4) (.slice s5 (cd0 0 0 0).td.bs.length d5) rfl rfl rfl rfl)) ?_
        clear hth
        rw [show (cdC (cd0 0 0 0) (.slice s2 (cd0 0 0 0).nd.ls.length d2) (.slice s3 (cd0 0 0 0).nd.ts.length d3) (.slice s4 (cd0 0 0 0).td.ws.length d4) (.slice s5 (cd0 0 0 0).td.bs.length d5)).toArray.toList = cdC (cd0 0 0 0) (.slice s2 (cd0 0 0 0).nd.ls.length d2) (.slice s3 (cd0 0 0 0).nd.ts.length d3) (.slice s4 (cd0 0 0 0).td.ws.length d4) (.slice s5 (cd0 0 0 0).td.bs.length d5) from rfl]
        generalize (w3.alloc (.cells #[.int .u64 0, .int .u64 0, .int .u8 0, .string ⟨#[]⟩, .int .i64 0, .int .i64 0, .int .i64 0, .slice none 0 0, .slice none 0 0, .string ⟨#[]⟩, .int .i64 0, .int .i64 0, .int .i64 0, .slice none 0 0, .slice none 0 0, .string ⟨#[]⟩, .string ⟨#[]⟩, .int .i64 0, .string ⟨#[]⟩, .string ⟨#[]⟩, .int .u64 0] 33)).setCells w3.heap.size 0 (cdC (cd0 0 0 0) (.slice s2 (cd0 0 0 0).nd.ls.length d2) (.slice s3 (cd0 0 0 0).nd.ts.length d3) (.slice s4 (cd0 0 0 0).td.ws.length d4) (.slice s5 (cd0 0 0 0).td.bs.length d5)) = W4 at *
        go_wp2
        go_ret
        exact ⟨rfl, HB4.out⟩
      · clear h2
        generalize bs (cmY C) = q at *
        have m2 : decide (q.size ≤ k) = true := decide_eq_true (by omega)
        clear h1 hz hi hneg hlt
        go_wp2_with fail
        refine (KE.out _ HB1.out).mono ?_
        rintro e w2 ⟨rfl, hb⟩
        have HB2 := Lib.hid (HB1.out.trans (hb.mono HB1.out.size))
        clear hb
        go_wp2
        go_ret
        exact ⟨rfl, HB2.out⟩
end Hd
end Go.Proofs.Ythlchdlgafincaa
