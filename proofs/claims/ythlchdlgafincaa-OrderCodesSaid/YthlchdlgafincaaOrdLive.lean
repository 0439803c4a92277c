/-
  lives of gafferlaw09 is true.
-/
import Derived.Test.YthlchdlgafincaaOrdDec
import Derived.Test.YthlchdlgafincaaOrdSame
namespace Go.Proofs.Ythlchdlgafincaa
open Go.RowKit
namespace Hd
open PM Hc Rg
def c00 : Cd := ⟨2, 3, 7, nd0, td0, ⟨#[97]⟩, ⟨#[]⟩, 0⟩
def l00 : List UInt8 := [1, 2, 1, 3, 1, 7, 1, 1, 97]
theorem c00_ck : ckB c00 = true := by decide +kernel
theorem c00_s : cmY c00 = l00 := by decide +kernel
theorem l00_ok : dcOk l00 = true := by decide +kernel
theorem l00_c : dcT l00 = c00 := smC_iff.1 (by decide +kernel)
theorem c00_took : TookC c00 maxLen := ⟨nil_took _, nil_took _, nil_took _, nil_took _⟩
theorem c00_lens : Lens c00 := by
  have z : (0 : Nat) ≤ maxLen := Nat.zero_le _
  exact ⟨z, z, z, z, by show 1 ≤ maxLen; unfold maxLen; omega, z⟩
theorem c00_bnd : Bnd c00 := ⟨by decide, by decide, by decide, by decide⟩
theorem prs_nil (w : World) (B : Nat) : PrsIn w B c00 nilS nilS nilS nilS := ⟨Rg.Pairs.none_ _ _, Rg.Pairs.none_ _ _, Rg.Pairs.none_ _ _, Rg.Pairs.none_ _ _⟩
theorem enc00 (w : World) : Calls Try.prog 10 #[.agg (cdC c00 nilS nilS nilS nilS).toArray] w fun e w' => e = .returned (.tuple #[.string ⟨#[1, 2, 1, 3, 1, 7, 1, 1, 97]⟩, .int .i64 0]) ∧ Below w.heap.size w w' := by
  refine (cmd_encode c00 nilS nilS nilS nilS w (prs_nil w _) c00_lens c00_bnd).mono ?_
  rintro e w' ⟨he, hb⟩
  refine ⟨?_, hb⟩
  unfold CeIs ceS coE at he
  rw [if_pos c00_ck, if_pos c00_ck, c00_s] at he
  exact he
theorem dec00 (w : World) : Calls Try.prog 12 #[.string ⟨#[1, 2, 1, 3, 1, 7, 1, 1, 97]⟩] w fun e w' => ∃ v2 v3 v4 v5, e = .returned (.tuple #[.agg (cdC c00 v2 v3 v4 v5).toArray, .int .i64 0]) ∧ Rows w' w.heap.size c00 v2 v3 v4 v5 ∧ Below w.heap.size w w' := by
  refine (cmd_decode l00 w (by unfold maxLen; decide)).mono ?_
  rintro e w' ⟨⟨v, he, v2, v3, v4, v5, rfl, hr⟩, hb⟩
  rw [l00_c] at he hr
  rw [l00_ok] at he
  exact ⟨v2, v3, v4, v5, he, hr, hb⟩
theorem te00 : teS 13 ⟨#[120]⟩ = [1, 13, 1, 1, 120] ∧ teE 13 ⟨#[120]⟩ = 0 := by decide +kernel
theorem tu00 : tuOk [1, 13, 1, 1, 120] = true ∧ tdW [1, 13, 1, 1, 120] = 13 ∧ ttT (tdR [1, 13, 1, 1, 120]) = [120] := by decide +kernel
theorem tenc00 (w : World) : Calls Try.prog 18 #[.agg #[.int .i64 13, .string ⟨#[120]⟩]] w fun e w' => e = .returned (.tuple #[.string ⟨#[1, 13, 1, 1, 120]⟩, .int .i64 0]) ∧ Below w.heap.size w w' := by
  refine (told_encode 13 ⟨#[120]⟩ w).mono ?_
  rintro e w' ⟨he, hb⟩
  refine ⟨?_, hb⟩
  unfold ToldIs at he
  rw [te00.1, te00.2] at he
  exact he
theorem tdec00 (w : World) : Calls Try.prog 20 #[.string ⟨#[1, 13, 1, 1, 120]⟩] w fun e w' => e = .returned (.tuple #[.agg #[.int .i64 13, .string ⟨#[120]⟩], .int .i64 0]) ∧ Below w.heap.size w w' := by
  refine (told_decode [1, 13, 1, 1, 120] w (by unfold maxLen; decide)).mono ?_
  rintro e w' ⟨he, hb⟩
  refine ⟨?_, hb⟩
  unfold TuIs at he
  rw [tu00.1, if_pos rfl, if_pos rfl, if_pos rfl, tu00.2.1, tu00.2.2] at he
  exact he
set_option maxRecDepth 100000 in
set_option maxHeartbeats 4000000 in
theorem lives_true (w : World) : Calls Try.prog 14 #[] w fun e w' => e = .returned (.bool true) ∧ Below w.heap.size w w' := by
  have KE := Lib.hid enc00
  have KD := Lib.hid dec00
  have KT := Lib.hid tenc00
  have KU := Lib.hid tdec00
  have ha0 : Below w.heap.size w (w.alloc (.cells #[.int .u64 0, .int .u64 0, .int .u8 0, .string ⟨#[]⟩, .int .i64 0, .int .i64 0, .int .i64 0, .slice none 0 0, .slice none 0 0, .string ⟨#[]⟩, .int .i64 0, .int .i64 0, .int .i64 0, .slice none 0 0, .slice none 0 0, .string ⟨#[]⟩, .string ⟨#[]⟩, .int .i64 0, .string ⟨#[]⟩, .string ⟨#[]⟩, .int .u64 0] 33)) := (Below.refl _ _).alloc (Nat.le_refl _) _
  have hm0 : Bxn (w.alloc (.cells #[.int .u64 0, .int .u64 0, .int .u8 0, .string ⟨#[]⟩, .int .i64 0, .int .i64 0, .int .i64 0, .slice none 0 0, .slice none 0 0, .string ⟨#[]⟩, .int .i64 0, .int .i64 0, .int .i64 0, .slice none 0 0, .slice none 0 0, .string ⟨#[]⟩, .string ⟨#[]⟩, .int .i64 0, .string ⟨#[]⟩, .string ⟨#[]⟩, .int .u64 0] 33)) w.heap.size [.int .u64 0, .int .u64 0, .int .u8 0, .string ⟨#[]⟩, .int .i64 0, .int .i64 0, .int .i64 0, .slice none 0 0, .slice none 0 0, .string ⟨#[]⟩, .int .i64 0, .int .i64 0, .int .i64 0, .slice none 0 0, .slice none 0 0, .string ⟨#[]⟩, .string ⟨#[]⟩, .int .i64 0, .string ⟨#[]⟩, .string ⟨#[]⟩, .int .u64 0] := Bxn.made w _ _
  have hth := hm0.there 21 rfl
  have HX1 := Lib.hid (hm0.all [.int .u64 2, .int .u64 3, .int .u8 7, .string ⟨#[]⟩, .int .i64 0, .int .i64 0, .int .i64 0, .slice none 0 0, .slice none 0 0, .string ⟨#[]⟩, .int .i64 0, .int .i64 0, .int .i64 0, .slice none 0 0, .slice none 0 0, .string ⟨#[]⟩, .string ⟨#[]⟩, .int .i64 0, .string ⟨#[97]⟩, .string ⟨#[]⟩, .int .u64 0] rfl)
  have HB1 := Lib.hid (ha0.grown (only_setCells w.heap.size [.int .u64 2, .int .u64 3, .int .u8 7, .string ⟨#[]⟩, .int .i64 0, .int .i64 0, .int .i64 0, .slice none 0 0, .slice none 0 0, .string ⟨#[]⟩, .int .i64 0, .int .i64 0, .int .i64 0, .slice none 0 0, .slice none 0 0, .string ⟨#[]⟩, .string ⟨#[]⟩, .int .i64 0, .string ⟨#[97]⟩, .string ⟨#[]⟩, .int .u64 0] 0 _) ha0.size (fun k e => by injection e with e; omega))
  clear hm0 ha0
  go_enter Try.func14, Try.ntmps14
  go_upto_region 1 with fail
  refine wp_region_list ?_
  refine wpList_plain rfl fun K hK => ?_
  go_simp
  refine hK _ _ ?_
  clear hK K
  refine wpList_plain rfl fun K hK => ?_
  go_simp
  refine hK _ _ ?_
  clear hK K
  refine wpList_plain rfl fun K hK => ?_
  go_simp
  refine hK _ _ ?_
  clear hK K
  refine wpList_store_mid rfl 33 (.tmp 1) (.tmp 11) rfl w.heap.size 0 #[.int .u64 2, .int .u64 3, .int .u8 7, .string ⟨#[]⟩, .int .i64 0, .int .i64 0, .int .i64 0, .slice none 0 0, .slice none 0 0, .string ⟨#[]⟩, .int .i64 0, .int .i64 0, .int .i64 0, .slice none 0 0, .slice none 0 0, .string ⟨#[]⟩, .string ⟨#[]⟩, .int .i64 0, .string ⟨#[97]⟩, .string ⟨#[]⟩, .int .u64 0] rfl rfl hth rfl (all_oneCell_toArray (cdC_one c00 nilS nilS nilS nilS rfl rfl rfl rfl)) ?_
  clear hth
  rw [show (#[.int .u64 2, .int .u64 3, .int .u8 7, .string ⟨#[]⟩, .int .i64 0, .int .i64 0, .int .i64 0, .slice none 0 0, .slice none 0 0, .string ⟨#[]⟩, .int .i64 0, .int .i64 0, .int .i64 0, .slice none 0 0, .slice none 0 0, .string ⟨#[]⟩, .string ⟨#[]⟩, .int .i64 0, .string ⟨#[97]⟩, .string ⟨#[]⟩, .int .u64 0] : Array Value).toList = [.int .u64 2, .int .u64 3, .int .u8 7, .string ⟨#[]⟩, .int .i64 0, .int .i64 0, .int .i64 0, .slice none 0 0, .slice none 0 0, .string ⟨#[]⟩, .int .i64 0, .int .i64 0, .int .i64 0, .slice none 0 0, .slice none 0 0, .string ⟨#[]⟩, .string ⟨#[]⟩, .int .i64 0, .string ⟨#[97]⟩, .string ⟨#[]⟩, .int .u64 0] from rfl]
  generalize (w.alloc (.cells #[.int .u64 0, .int .u64 0, .int .u8 0, .string ⟨#[]⟩, .int .i64 0, .int .i64 0, .int .i64 0, .slice none 0 0, .slice none 0 0, .string ⟨#[]⟩, .int .i64 0, .int .i64 0, .int .i64 0, .slice none 0 0, .slice none 0 0, .string ⟨#[]⟩, .string ⟨#[]⟩, .int .i64 0, .string ⟨#[]⟩, .string ⟨#[]⟩, .int .u64 0] 33)).setCells w.heap.size 0 [.int .u64 2, .int .u64 3, .int .u8 7, .string ⟨#[]⟩, .int .i64 0, .int .i64 0, .int .i64 0, .slice none 0 0, .slice none 0 0, .string ⟨#[]⟩, .int .i64 0, .int .i64 0, .int .i64 0, .slice none 0 0, .slice none 0 0, .string ⟨#[]⟩, .string ⟨#[]⟩, .int .i64 0, .string ⟨#[97]⟩, .string ⟨#[]⟩, .int .u64 0] = W1 at *
  have HC1 : Hid (Bxn W1 w.heap.size (cdC c00 nilS nilS nilS nilS)) := HX1.out
  have HR1 := Lib.hid (HC1.out.range 0)
  clear HX1
  generalize Value.agg #[.int .u64 2, .int .u64 3, .int .u8 7, .string ⟨#[]⟩, .int .i64 0, .int .i64 0, .int .i64 0, .slice none 0 0, .slice none 0 0, .string ⟨#[]⟩, .int .i64 0, .int .i64 0, .int .i64 0, .slice none 0 0, .slice none 0 0, .string ⟨#[]⟩, .string ⟨#[]⟩, .int .i64 0, .string ⟨#[97]⟩, .string ⟨#[]⟩, .int .u64 0] = A0
  go_upto_region 2 with fail
  refine wp_region_list ?_
  refine wpList_load_mid rfl 33 (.tmp 1) rfl w.heap.size 0 rfl (cdC c00 nilS nilS nilS nilS) _ HR1.out Try.underlying33 rfl rfl ?_
  go_wp2_with fail
  refine (KE.out _).mono ?_
  rintro e w2 ⟨rfl, hb⟩
  have HC2 := Lib.hid (HC1.out.below hb)
  have HB2 := Lib.hid (HB1.out.trans (hb.mono HB1.out.size))
  clear hb HR1
  go_wp2_with fail
  refine (KD.out _).mono ?_
  rintro e w3 ⟨v2, v3, v4, v5, rfl, hr, hb⟩
  have hm3 : Bxn (w3.alloc (.cells #[.int .u64 0, .int .u64 0, .int .u8 0, .string ⟨#[]⟩, .int .i64 0, .int .i64 0, .int .i64 0, .slice none 0 0, .slice none 0 0, .string ⟨#[]⟩, .int .i64 0, .int .i64 0, .int .i64 0, .slice none 0 0, .slice none 0 0, .string ⟨#[]⟩, .string ⟨#[]⟩, .int .i64 0, .string ⟨#[]⟩, .string ⟨#[]⟩, .int .u64 0] 33)) w3.heap.size [.int .u64 0, .int .u64 0, .int .u8 0, .string ⟨#[]⟩, .int .i64 0, .int .i64 0, .int .i64 0, .slice none 0 0, .slice none 0 0, .string ⟨#[]⟩, .int .i64 0, .int .i64 0, .int .i64 0, .slice none 0 0, .slice none 0 0, .string ⟨#[]⟩, .string ⟨#[]⟩, .int .i64 0, .string ⟨#[]⟩, .string ⟨#[]⟩, .int .u64 0] := Bxn.made w3 _ _
  have ha3 : Below w3.heap.size w3 (w3.alloc (.cells #[.int .u64 0, .int .u64 0, .int .u8 0, .string ⟨#[]⟩, .int .i64 0, .int .i64 0, .int .i64 0, .slice none 0 0, .slice none 0 0, .string ⟨#[]⟩, .int .i64 0, .int .i64 0, .int .i64 0, .slice none 0 0, .slice none 0 0, .string ⟨#[]⟩, .string ⟨#[]⟩, .int .i64 0, .string ⟨#[]⟩, .string ⟨#[]⟩, .int .u64 0] 33)) := (Below.refl _ _).alloc (Nat.le_refl _) _
  have hb3 := HB2.out.trans (hb.mono HB2.out.size)
  have hc3 := HC2.out.below hb
  have hl3 := hc3.lt
  have ho3 := only_setCells w3.heap.size (cdC c00 v2 v3 v4 v5) 0 (w3.alloc (.cells #[.int .u64 0, .int .u64 0, .int .u8 0, .string ⟨#[]⟩, .int .i64 0, .int .i64 0, .int .i64 0, .slice none 0 0, .slice none 0 0, .string ⟨#[]⟩, .int .i64 0, .int .i64 0, .int .i64 0, .slice none 0 0, .slice none 0 0, .string ⟨#[]⟩, .string ⟨#[]⟩, .int .i64 0, .string ⟨#[]⟩, .string ⟨#[]⟩, .int .u64 0] 33))
  have hth := hm3.there 21 rfl
  obtain ⟨s2, d2, rfl⟩ := hr.1.slice
  obtain ⟨s3, d3, rfl⟩ := hr.2.1.slice
  obtain ⟨s4, d4, rfl⟩ := hr.2.2.1.slice
  obtain ⟨s5, d5, rfl⟩ := hr.2.2.2.slice
  have hn : ∀ v ps, OwnP w3 w2.heap.size v ps → v.ownBlock ≠ some w3.heap.size := fun v ps h => h.blk (Nat.le_refl _)
  have k1 := hr.below ha3
  have HR3 : Hid (Rows ((w3.alloc (.cells #[.int .u64 0, .int .u64 0, .int .u8 0, .string ⟨#[]⟩, .int .i64 0, .int .i64 0, .int .i64 0, .slice none 0 0, .slice none 0 0, .string ⟨#[]⟩, .int .i64 0, .int .i64 0, .int .i64 0, .slice none 0 0, .slice none 0 0, .string ⟨#[]⟩, .string ⟨#[]⟩, .int .i64 0, .string ⟨#[]⟩, .string ⟨#[]⟩, .int .u64 0] 33)).setCells w3.heap.size 0 (cdC c00 (.slice s2 c00.nd.ls.length d2) (.slice s3 c00.nd.ts.length d3) (.slice s4 c00.td.ws.length d4) (.slice s5 c00.td.bs.length d5))) w2.heap.size c00 (.slice s2 c00.nd.ls.length d2) (.slice s3 c00.nd.ts.length d3) (.slice s4 c00.td.ws.length d4) (.slice s5 c00.td.bs.length d5)) := ⟨k1.1.only ho3 (hn _ _ hr.1), k1.2.1.only ho3 (hn _ _ hr.2.1), k1.2.2.1.only ho3 (hn _ _ hr.2.2.1), k1.2.2.2.only ho3 (hn _ _ hr.2.2.2)⟩
  have HD3 : Hid (Ds w w.heap.size w3.heap.size (cdC c00 nilS nilS nilS nilS) (cdC c00 (.slice s2 c00.nd.ls.length d2) (.slice s3 c00.nd.ts.length d3) (.slice s4 c00.td.ws.length d4) (.slice s5 c00.td.bs.length d5)) ((w3.alloc (.cells #[.int .u64 0, .int .u64 0, .int .u8 0, .string ⟨#[]⟩, .int .i64 0, .int .i64 0, .int .i64 0, .slice none 0 0, .slice none 0 0, .string ⟨#[]⟩, .int .i64 0, .int .i64 0, .int .i64 0, .slice none 0 0, .slice none 0 0, .string ⟨#[]⟩, .string ⟨#[]⟩, .int .i64 0, .string ⟨#[]⟩, .string ⟨#[]⟩, .int .u64 0] 33)).setCells w3.heap.size 0 (cdC c00 (.slice s2 c00.nd.ls.length d2) (.slice s3 c00.nd.ts.length d3) (.slice s4 c00.td.ws.length d4) (.slice s5 c00.td.bs.length d5)))) := ⟨(hc3.below ha3).only ho3 (by omega), hm3.all _ rfl, (hb3.trans (ha3.mono hb3.size)).grown ho3 (Nat.le_trans hb3.size ha3.size) (fun k e => by injection e with e; have := hb3.size; omega), Nat.le_refl _, by omega⟩
  have hone := all_oneCell_toArray (cdC_one c00 (.slice s2 c00.nd.ls.length d2) (.slice s3 c00.nd.ts.length d3) (.slice s4 c00.td.ws.length d4) (.slice s5 c00.td.bs.length d5) rfl rfl rfl rfl)
  clear hm3 ha3 hb3 hc3 hl3 ho3 hn k1 hr hb
  dsimp only
  refine ‹∀ (a : Act) (w : World), wpList Try.prog _ _ _ a w → _› _ _ ?_
  refine wpList_plain rfl fun K hK => ?_
  go_simp
  refine hK _ _ ?_
  clear hK K
  refine wpList_plain rfl fun K hK => ?_
  go_simp
  refine hK _ _ ?_
  clear hK K
  refine wpList_plain rfl fun K hK => ?_
  go_simp
  refine hK _ _ ?_
  clear hK K
  refine wpList_plain rfl fun K hK => ?_
  go_simp
  refine hK _ _ ?_
  clear hK K
  refine wpList_store_mid rfl 33 (.tmp 4) (.tmp 20) rfl w3.heap.size 0 (cdC c00 (.slice s2 c00.nd.ls.length d2) (.slice s3 c00.nd.ts.length d3) (.slice s4 c00.td.ws.length d4) (.slice s5 c00.td.bs.length d5)).toArray rfl rfl hth rfl hone ?_
  clear hth hone
  rw [show (cdC c00 (.slice s2 c00.nd.ls.length d2) (.slice s3 c00.nd.ts.length d3) (.slice s4 c00.td.ws.length d4) (.slice s5 c00.td.bs.length d5)).toArray.toList = cdC c00 (.slice s2 c00.nd.ls.length d2) (.slice s3 c00.nd.ts.length d3) (.slice s4 c00.td.ws.length d4) (.slice s5 c00.td.bs.length d5) from rfl]
  generalize (w3.alloc (.cells #[.int .u64 0, .int .u64 0, .int .u8 0, .string ⟨#[]⟩, .int .i64 0, .int .i64 0, .int .i64 0, .slice none 0 0, .slice none 0 0, .string ⟨#[]⟩, .int .i64 0, .int .i64 0, .int .i64 0, .slice none 0 0, .slice none 0 0, .string ⟨#[]⟩, .string ⟨#[]⟩, .int .i64 0, .string ⟨#[]⟩, .string ⟨#[]⟩, .int .u64 0] 33)).setCells w3.heap.size 0 (cdC c00 (.slice s2 c00.nd.ls.length d2) (.slice s3 c00.nd.ts.length d3) (.slice s4 c00.td.ws.length d4) (.slice s5 c00.td.bs.length d5)) = W3 at *
  generalize w3.heap.size = DB at *
  generalize w2.heap.size = RB at *
  go_wp2_with fail
  refine (KT.out _).mono ?_
  rintro e w4 ⟨rfl, hb⟩
  have HD4 := Lib.hid (HD3.out.below hb)
  have HR4 := Lib.hid (HR3.out.below hb)
  clear hb
  go_wp2_with fail
  refine (KU.out _).mono ?_
  rintro e w5 ⟨rfl, hb⟩
  have ha5 : Below w5.heap.size w5 (w5.alloc (.cells #[.int .i64 13, .string ⟨#[120]⟩] 44)) := (Below.refl _ _).alloc (Nat.le_refl _) _
  have HD5 := Lib.hid ((HD4.out.below hb).below ha5)
  have HR5 := Lib.hid ((HR4.out.below hb).below ha5)
  have HU5 := Lib.hid (Bx2.made w5 (.int .i64 13) (.string ⟨#[120]⟩) 44)
  have R1 := Lib.hid (HD5.out.rb.range 0)
  have R2 := Lib.hid (HD5.out.cb.range 0)
  have HP5 := Lib.hid (HR5.out.prs c00_took)
  clear hb ha5
  go_upto_region 6 with fail
  refine wp_region_list ?_
  refine wpList_plain rfl fun K hK => ?_
  go_simp
  refine hK _ _ ?_
  clear hK K
  refine wpList_plain rfl fun K hK => ?_
  go_simp
  refine hK _ _ ?_
  clear hK K
  refine wpList_plain rfl fun K hK => ?_
  go_simp
  refine hK _ _ ?_
  clear hK K
  refine BigFrame.wpList_want rfl fun K hK => ?_
  go_simp
  refine hK _ _ ?_
  clear hK K
  refine BigFrame.wpList_want rfl fun K hK => ?_
  go_simp
  refine hK _ _ ?_
  clear hK K
  refine wpList_plain rfl fun K hK => ?_
  go_simp
  refine hK _ _ ?_
  clear hK K
  refine wpList_plain rfl fun K hK => ?_
  go_simp
  refine hK _ _ ?_
  clear hK K
  refine BigFrame.wpList_want rfl fun K hK => ?_
  go_simp
  refine hK _ _ ?_
  clear hK K
  refine BigFrame.wpList_want rfl fun K hK => ?_
  go_simp
  refine hK _ _ ?_
  clear hK K
  refine wpList_plain rfl fun K hK => ?_
  go_simp
  refine hK _ _ ?_
  clear hK K
  refine wpList_plain rfl fun K hK => ?_
  go_simp
  refine hK _ _ ?_
  clear hK K
  refine wl_load_want rfl 33 (.tmp 1) rfl w.heap.size 0 rfl (cdC c00 nilS nilS nilS nilS) _ R1.out Try.underlying33 rfl rfl ?_
  refine wl_load_want rfl 33 (.tmp 4) rfl DB 0 rfl (cdC c00 (.slice s2 c00.nd.ls.length d2) (.slice s3 c00.nd.ts.length d3) (.slice s4 c00.td.ws.length d4) (.slice s5 c00.td.bs.length d5)) _ R2.out Try.underlying33 rfl rfl ?_
  go_wp2_with fail
  refine (same_cmd c00 c00 _ _ _ _ _ _ _ _ _ (prs_nil _ _) HP5.out).mono ?_
  rintro e w6 ⟨rfl, hb⟩
  have HB6 := Lib.hid (HD5.out.below hb).be
  obtain ⟨c0, c1⟩ := (HU5.out.below hb).cells
  rw [smC_iff.2 rfl]
  clear hb
  go_wp2
  go_ret
  exact ⟨rfl, HB6.out⟩
end Hd
end Go.Proofs.Ythlchdlgafincaa
