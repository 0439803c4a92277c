/-
  OrderBack: what is written is read as what it was, and what is read is written as the bytes that it was.
-/
import Derived.Test.YthlchdlgafincaaOrdCut
namespace Go.Proofs.Ythlchdlgafincaa
open Go.RowKit
namespace Hd
open PM Hc Rg
theorem Bb.made2 (w : World) (cs ds : List Value) (T U : TypeId) : Bb w cs ds ((w.alloc (.cells cs.toArray T)).alloc (.cells ds.toArray U)) := by
  have h1 : Below w.heap.size w (w.alloc (.cells cs.toArray T)) := (Below.refl _ _).alloc (Nat.le_refl _) _
  have h2 : Below (w.alloc (.cells cs.toArray T)).heap.size (w.alloc (.cells cs.toArray T)) ((w.alloc (.cells cs.toArray T)).alloc (.cells ds.toArray U)) := (Below.refl _ _).alloc (Nat.le_refl _) _
  refine ⟨(Bxn.made w _ _).below h2, ?_, h1.trans (h2.mono h1.size)⟩
  have := Bxn.made (w.alloc (.cells cs.toArray T)) ds U
  rw [World.size_alloc] at this
  exact this
theorem Bb.off {w0 x x' : World} {cs ds : List Value} {R : Nat} (h : Bb w0 cs ds x) (ho : Only R x x') (hR : w0.heap.size + 1 < R) : Bb w0 cs ds x' :=
  ⟨h.bx.only ho (by omega), h.bz.only ho (by omega), h.be.grown ho h.be.size (fun k e => by injection e with e; omega)⟩
set_option maxRecDepth 100000 in
theorem neq_told (z1 z2 : Int) (n1 n2 : ByteArray) (w : World) : (binOp .neq 44 (.agg #[.int .i64 z1, .string n1]) (.agg #[.int .i64 z2, .string n2])).run Try.prog w = .ok (.bool (!((z1 == z2) && (n1.toList == n2.toList)))) w := by
  have u3 := Try.underlying34
  have u9 := Try.underlying9
  have a3 := Try.isAgg34
  have a9 := Try.isAgg9
  have z3 := Try.sizeOf34
  have z9 := Try.sizeOf9
  have hS : Try.prog.underlying 44 = some (.struct (Try.prog.fieldsOf 44)) := by kernel_rfl
  have hp : Try.prog.stoodInHeld 44 = false := by kernel_rfl
  rw [run_neq_struct, show (10000 : Nat) = 9999 + 1 from rfl, run_equalIn_agg w 9999 44 _ _ hS hp]
  simp only [Program.fieldsOf, Try.underlying44]
  go_simp
  by_cases h1 : z1 = z2 <;> by_cases h2 : n1.toList = n2.toList <;> simp [h1, h2]
theorem guard_told : Try.prog.eqGuardType Try.prog.depth 44 = false := by kernel_rfl
/-- What is told, there and back. -/
theorem tu_whole (n : Nat) (s : ByteArray) (hn : n ≤ 255) (hs : s.size ≤ 32) : tuOk (tlB n s) = true ∧ tdW (tlB n s) = n ∧ bs (ttT (tdR (tlB n s))) = s := by
  obtain ⟨a, b, -⟩ := up_bk 255 n hn (by decide) (txt s.data.toList)
  obtain ⟨c, d, e⟩ := tt_bk s hs []
  rw [List.append_nil] at c d e
  have h1 : tdW (tlB n s) = n := a
  have h2 : tdR (tlB n s) = txt s.data.toList := b
  refine ⟨?_, h1, by rw [h2, d]⟩
  unfold tuOk tdN tdOk
  rw [h1, h2, c, d, e]
  simp
  omega
theorem tenc_no (why : Int) (s : ByteArray) (h : tdOk why s = false) (z : World) : Calls Try.prog 18 #[.agg #[.int .i64 why, .string s]] z fun e w' => e = .returned (.tuple #[.string ⟨#[]⟩, .int .i64 4]) ∧ Below z.heap.size z w' := by
  refine (told_encode why s z).mono ?_
  rintro e w' ⟨he, hb⟩
  unfold ToldIs teS teE at he
  rw [h] at he
  exact ⟨he, hb⟩
theorem tenc_yes (n : Nat) (s : ByteArray) (h : tdOk (n : Nat) s = true) (z : World) : Calls Try.prog 18 #[.agg #[.int .i64 (n : Nat), .string s]] z fun e w' => e = .returned (.tuple #[.string (bs (tlB n s)), .int .i64 0]) ∧ Below z.heap.size z w' := by
  refine (told_encode (n : Nat) s z).mono ?_
  rintro e w' ⟨he, hb⟩
  unfold ToldIs teS teE at he
  rw [h, if_pos rfl, if_pos rfl, toNat_cast] at he
  exact ⟨he, hb⟩
theorem tdec_yes (n : Nat) (s : ByteArray) (hn : n ≤ 255) (hs : s.size ≤ 32) (z : World) : Calls Try.prog 20 #[.string (bs (tlB n s))] z fun e w' => e = .returned (.tuple #[.agg #[.int .i64 (n : Nat), .string s], .int .i64 0]) ∧ Below z.heap.size z w' := by
  have hl : (tlB n s).length ≤ maxLen := by
    unfold tlB
    rw [List.length_append]
    have a := num_le n (by omega)
    have b := txt_le s hs
    unfold maxLen
    omega
  obtain ⟨a, b, c⟩ := tu_whole n s hn hs
  refine (told_decode (tlB n s) z hl).mono ?_
  rintro e w' ⟨he, hb⟩
  unfold TuIs at he
  rw [a, if_pos rfl, if_pos rfl, if_pos rfl, b, c] at he
  exact ⟨he, hb⟩
theorem td_small {why : Int} {s : ByteArray} (h : tdOk why s = true) : ∃ n : Nat, why = (n : Nat) ∧ n ≤ 255 ∧ s.size ≤ 32 := by
  unfold tdOk at h
  simp only [Bool.and_eq_true, decide_eq_true_eq] at h
  exact ⟨why.toNat, by omega, by omega, h.2.2⟩
set_option maxRecDepth 100000 in
set_option maxHeartbeats 8000000 in
theorem orderBack (v : Value) (C : Cd) (why : Int) (ts s : ByteArray) (w : World) (hc : CmdArg w v C) (hs : s.size ≤ maxLen) :
    Calls Try.prog 5 #[v, .agg #[.int .i64 why, .string ts], .string s] w fun e w' => e = .returned (.bool true) ∧ Below w.heap.size w w' := by
  obtain ⟨v2, v3, v4, v5, rfl, hp, hl, hbd⟩ := hc
  have HB0 : Hid (Bb w (cdC C v2 v3 v4 v5) [.int .i64 why, .string ts] ((w.alloc (.cells (cdC C v2 v3 v4 v5).toArray 33)).alloc (.cells #[.int .i64 why, .string ts] 44))) := Bb.made2 w _ _ _ _
  have KL := Lib.hid lives_true
  have hno := fun h => enc_no hp hl hbd h
  have hye := fun h => enc_yes hp hl hbd h
  have hle := fun h => cmY_le (ck_form (c := C) h).1 hbd
  have hok := fun h => dc_whole (c := C) h hbd
  have hcm := fun h => by have := (cm_bk (ck_form (c := C) h).1 hbd []).1; rwa [List.append_nil] at this
  have hmo := fun h => dc_bk (c := C) h hbd [0]
  have hlst := fun h (k : Nat) (hk : k < (cmY C).length) => dc_less (c := C) h hbd ((cmY C).take k) ((cmY C).drop k) (List.take_append_drop _ _) (by intro e; have := congrArg List.length e; rw [List.length_drop] at this; simp at this; omega) (by rw [List.length_take]; unfold maxLen; have := hle h; omega)
  have KS : Hid (∀ z u2 u3 u4 u5, Below w.heap.size w z → PrsIn z z.heap.size C u2 u3 u4 u5 → Calls Try.prog 15 #[.agg (cdC C v2 v3 v4 v5).toArray, .agg (cdC C u2 u3 u4 u5).toArray] z fun e w' => e = .returned (.bool true) ∧ Below z.heap.size z w') := fun z u2 u3 u4 u5 hz hu => by
    have := same_cmd C C _ _ _ _ _ _ _ _ z (hp.ovr hz) hu
    rw [smC_iff.2 rfl] at this
    exact this
  clear hp hl hbd
  obtain ⟨CS, hCS⟩ : ∃ CS, CS = (cdC C v2 v3 v4 v5).toArray := ⟨_, rfl⟩
  rw [← hCS] at HB0 ⊢
  clear hCS
  go_enter Try.func5, Try.ntmps5
  go_upto_region 1 with fail
  generalize (w.alloc (.cells CS 33)).alloc (.cells #[.int .i64 why, .string ts] 44) = W0 at *
  generalize Value.agg CS = A0
  go_wp2_with fail
  refine (KL.out _).mono ?_
  rintro e w1 ⟨rfl, hb⟩
  have HB1 := Lib.hid (HB0.out.below hb)
  have R1 := Lib.hid (HB1.out.bx.range 0)
  clear hb
  go_upto_region 3 with fail
  refine wp_region_list ?_
  refine wpList_load_mid rfl 33 (.tmp 3) rfl w.heap.size 0 rfl (cdC C v2 v3 v4 v5) _ R1.out Try.underlying33 rfl rfl ?_
  cases hk : ckB C with
  | false =>
    have KE := Lib.hid (hno hk)
    clear hno hye hk hle hok hmo hlst hcm
    go_wp2_with fail
    refine (KE.out _ HB1.out.be).mono ?_
    rintro e w2 ⟨rfl, hb⟩
    have HB2 := Lib.hid (HB1.out.below hb)
    clear hb
    have c0 : w2.cell? ⟨w.heap.size + 1, 0, none⟩ = some (.int .i64 why) := HB2.out.bz.cell 0
    have c1 : w2.cell? ⟨w.heap.size + 1, 1, none⟩ = some (.string ts) := HB2.out.bz.cell 1
    cases htk : tdOk why ts with
    | false =>
      have KT := Lib.hid (tenc_no why ts htk)
      clear htk
      go_wp2_with fail
      refine (KT.out _).mono ?_
      rintro e w7 ⟨rfl, hb⟩
      have HB7 := Lib.hid (HB2.out.below hb)
      clear hb c0 c1
      cases hds : dcOk s.data.toList with
      | false =>
        have KD3 : Hid (∀ z, Calls Try.prog 12 #[.string s] z fun e w' => ∃ v2 v3 v4 v5, e = .returned (.tuple #[.agg (cdC (cd0 0 0 0) v2 v3 v4 v5).toArray, .int .i64 4]) ∧ Rows w' z.heap.size (cd0 0 0 0) v2 v3 v4 v5 ∧ Below z.heap.size z w') := fun z => by
          have := dec_no s.data.toList (by exact hs) hds z
          rw [bs_of] at this
          exact this
        clear hds hs
        go_wp2_with fail
        refine (KD3.out _).mono ?_
        rintro e w9 ⟨u2, u3, u4, u5, rfl, hr, hb⟩
        obtain ⟨r2, rc2, rfl⟩ := hr.1.slice
        obtain ⟨r3, rc3, rfl⟩ := hr.2.1.slice
        obtain ⟨r4, rc4, rfl⟩ := hr.2.2.1.slice
        obtain ⟨r5, rc5, rfl⟩ := hr.2.2.2.slice
        have hm : Bxn (w9.alloc (.cells #[.int .u64 0, .int .u64 0, .int .u8 0, .string ⟨#[]⟩, .int .i64 0, .int .i64 0, .int .i64 0, .slice none 0 0, .slice none 0 0, .string ⟨#[]⟩, .int .i64 0, .int .i64 0, .int .i64 0, .slice none 0 0, .slice none 0 0, .string ⟨#[]⟩, .string ⟨#[]⟩, .int .i64 0, .string ⟨#[]⟩, .string ⟨#[]⟩, .int .u64 0] 33)) w9.heap.size [.int .u64 0, .int .u64 0, .int .u8 0, .string ⟨#[]⟩, .int .i64 0, .int .i64 0, .int .i64 0, .slice none 0 0, .slice none 0 0, .string ⟨#[]⟩, .int .i64 0, .int .i64 0, .int .i64 0, .slice none 0 0, .slice none 0 0, .string ⟨#[]⟩, .string ⟨#[]⟩, .int .i64 0, .string ⟨#[]⟩, .string ⟨#[]⟩, .int .u64 0] := Bxn.made _ _ _
        have hth := hm.there 21 rfl
        have ha : Below w9.heap.size w9 (w9.alloc (.cells #[.int .u64 0, .int .u64 0, .int .u8 0, .string ⟨#[]⟩, .int .i64 0, .int .i64 0, .int .i64 0, .slice none 0 0, .slice none 0 0, .string ⟨#[]⟩, .int .i64 0, .int .i64 0, .int .i64 0, .slice none 0 0, .slice none 0 0, .string ⟨#[]⟩, .string ⟨#[]⟩, .int .i64 0, .string ⟨#[]⟩, .string ⟨#[]⟩, .int .u64 0] 33)) := (Below.refl _ _).alloc (Nat.le_refl _) _
        have ho := only_setCells w9.heap.size (cdC (cd0 0 0 0) (.slice r2 (cd0 0 0 0).nd.ls.length rc2) (.slice r3 (cd0 0 0 0).nd.ts.length rc3) (.slice r4 (cd0 0 0 0).td.ws.length rc4) (.slice r5 (cd0 0 0 0).td.bs.length rc5)) 0 (w9.alloc (.cells #[.int .u64 0, .int .u64 0, .int .u8 0, .string ⟨#[]⟩, .int .i64 0, .int .i64 0, .int .i64 0, .slice none 0 0, .slice none 0 0, .string ⟨#[]⟩, .int .i64 0, .int .i64 0, .int .i64 0, .slice none 0 0, .slice none 0 0, .string ⟨#[]⟩, .string ⟨#[]⟩, .int .i64 0, .string ⟨#[]⟩, .string ⟨#[]⟩, .int .u64 0] 33))
        have hbb := HB7.out.below hb
        have hlt := hbb.bz.lt
        have HBw9 : Hid (Bb w (cdC C v2 v3 v4 v5) [.int .i64 why, .string ts] ((w9.alloc (.cells #[.int .u64 0, .int .u64 0, .int .u8 0, .string ⟨#[]⟩, .int .i64 0, .int .i64 0, .int .i64 0, .slice none 0 0, .slice none 0 0, .string ⟨#[]⟩, .int .i64 0, .int .i64 0, .int .i64 0, .slice none 0 0, .slice none 0 0, .string ⟨#[]⟩, .string ⟨#[]⟩, .int .i64 0, .string ⟨#[]⟩, .string ⟨#[]⟩, .int .u64 0] 33)).setCells w9.heap.size 0 (cdC (cd0 0 0 0) (.slice r2 (cd0 0 0 0).nd.ls.length rc2) (.slice r3 (cd0 0 0 0).nd.ts.length rc3) (.slice r4 (cd0 0 0 0).td.ws.length rc4) (.slice r5 (cd0 0 0 0).td.bs.length rc5)))) := (hbb.below ha).off ho hlt
        have HDw9 : Hid (Bxn ((w9.alloc (.cells #[.int .u64 0, .int .u64 0, .int .u8 0, .string ⟨#[]⟩, .int .i64 0, .int .i64 0, .int .i64 0, .slice none 0 0, .slice none 0 0, .string ⟨#[]⟩, .int .i64 0, .int .i64 0, .int .i64 0, .slice none 0 0, .slice none 0 0, .string ⟨#[]⟩, .string ⟨#[]⟩, .int .i64 0, .string ⟨#[]⟩, .string ⟨#[]⟩, .int .u64 0] 33)).setCells w9.heap.size 0 (cdC (cd0 0 0 0) (.slice r2 (cd0 0 0 0).nd.ls.length rc2) (.slice r3 (cd0 0 0 0).nd.ts.length rc3) (.slice r4 (cd0 0 0 0).td.ws.length rc4) (.slice r5 (cd0 0 0 0).td.bs.length rc5))) w9.heap.size (cdC (cd0 0 0 0) (.slice r2 (cd0 0 0 0).nd.ls.length rc2) (.slice r3 (cd0 0 0 0).nd.ts.length rc3) (.slice r4 (cd0 0 0 0).td.ws.length rc4) (.slice r5 (cd0 0 0 0).td.bs.length rc5))) := hm.all _ rfl
        have hn : ∀ v ps b, OwnP w9 b v ps → v.ownBlock ≠ some w9.heap.size := fun v ps b h => h.blk (Nat.le_refl _)
        have k1 := hr.below ha
        have HRw9 : Hid (∃ b, Rows ((w9.alloc (.cells #[.int .u64 0, .int .u64 0, .int .u8 0, .string ⟨#[]⟩, .int .i64 0, .int .i64 0, .int .i64 0, .slice none 0 0, .slice none 0 0, .string ⟨#[]⟩, .int .i64 0, .int .i64 0, .int .i64 0, .slice none 0 0, .slice none 0 0, .string ⟨#[]⟩, .string ⟨#[]⟩, .int .i64 0, .string ⟨#[]⟩, .string ⟨#[]⟩, .int .u64 0] 33)).setCells w9.heap.size 0 (cdC (cd0 0 0 0) (.slice r2 (cd0 0 0 0).nd.ls.length rc2) (.slice r3 (cd0 0 0 0).nd.ts.length rc3) (.slice r4 (cd0 0 0 0).td.ws.length rc4) (.slice r5 (cd0 0 0 0).td.bs.length rc5))) b (cd0 0 0 0) (.slice r2 (cd0 0 0 0).nd.ls.length rc2) (.slice r3 (cd0 0 0 0).nd.ts.length rc3) (.slice r4 (cd0 0 0 0).td.ws.length rc4) (.slice r5 (cd0 0 0 0).td.bs.length rc5)) := ⟨_, k1.1.only ho (hn _ _ _ hr.1), k1.2.1.only ho (hn _ _ _ hr.2.1), k1.2.2.1.only ho (hn _ _ _ hr.2.2.1), k1.2.2.2.only ho (hn _ _ _ hr.2.2.2)⟩
        clear hn k1
        clear hb hm ha ho hbb hlt hr
        dsimp only
        refine ‹∀ (a : Act) (w : World), wpList Try.prog _ _ _ a w → _› _ _ ?_
        refine wpList_plain rfl fun K hK => ?_
        go_simp
        refine hK _ _ ?_
        clear hK K
        refine wpList_plain rfl fun K hK => ?_
        go_simp
        refine hK _ _ ?_
        clear hK K
        refine wpList_plain rfl fun K hK => ?_
        go_simp
        refine hK _ _ ?_
        clear hK K
        refine wpList_plain rfl fun K hK => ?_
        go_simp
        refine hK _ _ ?_
        clear hK K
        refine wpList_store_mid rfl 33 (.tmp 18) (.tmp 88) rfl w9.heap.size 0 (cdC (cd0 0 0 0) (.slice r2 (cd0 0 0 0).nd.ls.length rc2) (.slice r3 (cd0 0 0 0).nd.ts.length rc3) (.slice r4 (cd0 0 0 0).td.ws.length rc4) (.slice r5 (cd0 0 0 0).td.bs.length rc5)).toArray rfl rfl hth rfl (all_oneCell_toArray (cdC_one (cd0 0 0 0) (.slice r2 (cd0 0 0 0).nd.ls.length rc2) (.slice r3 (cd0 0 0 0).nd.ts.length rc3) (.slice r4 (cd0 0 0 0).td.ws.length rc4) (.slice r5 (cd0 0 0 0).td.bs.length rc5) rfl rfl rfl rfl)) ?_
        clear hth
        rw [show (cdC (cd0 0 0 0) (.slice r2 (cd0 0 0 0).nd.ls.length rc2) (.slice r3 (cd0 0 0 0).nd.ts.length rc3) (.slice r4 (cd0 0 0 0).td.ws.length rc4) (.slice r5 (cd0 0 0 0).td.bs.length rc5)).toArray.toList = cdC (cd0 0 0 0) (.slice r2 (cd0 0 0 0).nd.ls.length rc2) (.slice r3 (cd0 0 0 0).nd.ts.length rc3) (.slice r4 (cd0 0 0 0).td.ws.length rc4) (.slice r5 (cd0 0 0 0).td.bs.length rc5) from rfl]
        generalize ((w9.alloc (.cells #[.int .u64 0, .int .u64 0, .int .u8 0, .string ⟨#[]⟩, .int .i64 0, .int .i64 0, .int .i64 0, .slice none 0 0, .slice none 0 0, .string ⟨#[]⟩, .int .i64 0, .int .i64 0, .int .i64 0, .slice none 0 0, .slice none 0 0, .string ⟨#[]⟩, .string ⟨#[]⟩, .int .i64 0, .string ⟨#[]⟩, .string ⟨#[]⟩, .int .u64 0] 33)).setCells w9.heap.size 0 (cdC (cd0 0 0 0) (.slice r2 (cd0 0 0 0).nd.ls.length rc2) (.slice r3 (cd0 0 0 0).nd.ts.length rc3) (.slice r4 (cd0 0 0 0).td.ws.length rc4) (.slice r5 (cd0 0 0 0).td.bs.length rc5))) = Vw9 at *
        generalize w9.heap.size = Nw9 at *
        obtain ⟨bb, hrr⟩ := HRw9.out
        have HP9 := Lib.hid (hrr.prs ⟨nil_took _, nil_took _, nil_took _, nil_took _⟩)
        have R9 := Lib.hid (HDw9.out.range 0)
        clear hrr
        go_upto_region 17 with fail
        refine wp_region_list ?_
        refine wpList_load_mid rfl 33 (.tmp 18) rfl Nw9 0 rfl (cdC (cd0 0 0 0) (.slice r2 (cd0 0 0 0).nd.ls.length rc2) (.slice r3 (cd0 0 0 0).nd.ts.length rc3) (.slice r4 (cd0 0 0 0).td.ws.length rc4) (.slice r5 (cd0 0 0 0).td.bs.length rc5)) _ R9.out Try.underlying33 rfl rfl ?_
        refine wpList_plain rfl fun K hK => ?_
        go_simp
        refine hK _ _ ?_
        clear hK K
        go_wp2_with fail
        refine (same_cmd (cd0 0 0 0) (cd0 0 0 0) _ _ _ _ nilS nilS nilS nilS _ HP9.out ⟨Rg.Pairs.none_ _ _, Rg.Pairs.none_ _ _, Rg.Pairs.none_ _ _, Rg.Pairs.none_ _ _⟩).mono ?_
        rintro e w10 ⟨rfl, hb⟩
        have HB10 := Lib.hid (HBw9.out.below hb)
        rw [smC_iff.2 rfl]
        clear hb
        go_wp2
        go_ret
        exact ⟨rfl, HB10.out.be⟩
      | true =>
        have ht3 := cmT_took s.data.toList (by exact hs)
        have HT3 := Lib.hid ht3
        have hf3 := cm_forth hds
        have KD3 : Hid (∀ z, Calls Try.prog 12 #[.string s] z fun e w' => ∃ v2 v3 v4 v5, e = .returned (.tuple #[.agg (cdC (cmT s.data.toList) v2 v3 v4 v5).toArray, .int .i64 0]) ∧ Rows w' z.heap.size (cmT s.data.toList) v2 v3 v4 v5 ∧ Below z.heap.size z w') := fun z => by
          have := dec_yes s.data.toList (by exact hs) hds z
          rw [bs_of] at this
          exact this
        have KE3 : Hid (∀ z u2 u3 u4 u5, PrsIn z z.heap.size (cmT s.data.toList) u2 u3 u4 u5 → Calls Try.prog 10 #[.agg (cdC (cmT s.data.toList) u2 u3 u4 u5).toArray] z fun e w' => e = .returned (.tuple #[.string s, .int .i64 0]) ∧ Below z.heap.size z w') := fun z u2 u3 u4 u5 hu => by
          have := enc_yes hu ht3.2.1 ht3.2.2 hf3.2 z (Below.refl _ _)
          rw [hf3.1, bs_of] at this
          exact this
        clear hds hs ht3 hf3
        generalize cmT s.data.toList = D at *
        go_wp2_with fail
        refine (KD3.out _).mono ?_
        rintro e w9 ⟨u2, u3, u4, u5, rfl, hr, hb⟩
        obtain ⟨r2, rc2, rfl⟩ := hr.1.slice
        obtain ⟨r3, rc3, rfl⟩ := hr.2.1.slice
        obtain ⟨r4, rc4, rfl⟩ := hr.2.2.1.slice
        obtain ⟨r5, rc5, rfl⟩ := hr.2.2.2.slice
        have hm : Bxn (w9.alloc (.cells #[.int .u64 0, .int .u64 0, .int .u8 0, .string ⟨#[]⟩, .int .i64 0, .int .i64 0, .int .i64 0, .slice none 0 0, .slice none 0 0, .string ⟨#[]⟩, .int .i64 0, .int .i64 0, .int .i64 0, .slice none 0 0, .slice none 0 0, .string ⟨#[]⟩, .string ⟨#[]⟩, .int .i64 0, .string ⟨#[]⟩, .string ⟨#[]⟩, .int .u64 0] 33)) w9.heap.size [.int .u64 0, .int .u64 0, .int .u8 0, .string ⟨#[]⟩, .int .i64 0, .int .i64 0, .int .i64 0, .slice none 0 0, .slice none 0 0, .string ⟨#[]⟩, .int .i64 0, .int .i64 0, .int .i64 0, .slice none 0 0, .slice none 0 0, .string ⟨#[]⟩, .string ⟨#[]⟩, .int .i64 0, .string ⟨#[]⟩, .string ⟨#[]⟩, .int .u64 0] := Bxn.made _ _ _
        have hth := hm.there 21 rfl
        have ha : Below w9.heap.size w9 (w9.alloc (.cells #[.int .u64 0, .int .u64 0, .int .u8 0, .string ⟨#[]⟩, .int .i64 0, .int .i64 0, .int .i64 0, .slice none 0 0, .slice none 0 0, .string ⟨#[]⟩, .int .i64 0, .int .i64 0, .int .i64 0, .slice none 0 0, .slice none 0 0, .string ⟨#[]⟩, .string ⟨#[]⟩, .int .i64 0, .string ⟨#[]⟩, .string ⟨#[]⟩, .int .u64 0] 33)) := (Below.refl _ _).alloc (Nat.le_refl _) _
        have ho := only_setCells w9.heap.size (cdC D (.slice r2 D.nd.ls.length rc2) (.slice r3 D.nd.ts.length rc3) (.slice r4 D.td.ws.length rc4) (.slice r5 D.td.bs.length rc5)) 0 (w9.alloc (.cells #[.int .u64 0, .int .u64 0, .int .u8 0, .string ⟨#[]⟩, .int .i64 0, .int .i64 0, .int .i64 0, .slice none 0 0, .slice none 0 0, .string ⟨#[]⟩, .int .i64 0, .int .i64 0, .int .i64 0, .slice none 0 0, .slice none 0 0, .string ⟨#[]⟩, .string ⟨#[]⟩, .int .i64 0, .string ⟨#[]⟩, .string ⟨#[]⟩, .int .u64 0] 33))
        have hbb := HB7.out.below hb
        have hlt := hbb.bz.lt
        have HBw9 : Hid (Bb w (cdC C v2 v3 v4 v5) [.int .i64 why, .string ts] ((w9.alloc (.cells #[.int .u64 0, .int .u64 0, .int .u8 0, .string ⟨#[]⟩, .int .i64 0, .int .i64 0, .int .i64 0, .slice none 0 0, .slice none 0 0, .string ⟨#[]⟩, .int .i64 0, .int .i64 0, .int .i64 0, .slice none 0 0, .slice none 0 0, .string ⟨#[]⟩, .string ⟨#[]⟩, .int .i64 0, .string ⟨#[]⟩, .string ⟨#[]⟩, .int .u64 0] 33)).setCells w9.heap.size 0 (cdC D (.slice r2 D.nd.ls.length rc2) (.slice r3 D.nd.ts.length rc3) (.slice r4 D.td.ws.length rc4) (.slice r5 D.td.bs.length rc5)))) := (hbb.below ha).off ho hlt
        have HDw9 : Hid (Bxn ((w9.alloc (.cells #[.int .u64 0, .int .u64 0, .int .u8 0, .string ⟨#[]⟩, .int .i64 0, .int .i64 0, .int .i64 0, .slice none 0 0, .slice none 0 0, .string ⟨#[]⟩, .int .i64 0, .int .i64 0, .int .i64 0, .slice none 0 0, .slice none 0 0, .string ⟨#[]⟩, .string ⟨#[]⟩, .int .i64 0, .string ⟨#[]⟩, .string ⟨#[]⟩, .int .u64 0] 33)).setCells w9.heap.size 0 (cdC D (.slice r2 D.nd.ls.length rc2) (.slice r3 D.nd.ts.length rc3) (.slice r4 D.td.ws.length rc4) (.slice r5 D.td.bs.length rc5))) w9.heap.size (cdC D (.slice r2 D.nd.ls.length rc2) (.slice r3 D.nd.ts.length rc3) (.slice r4 D.td.ws.length rc4) (.slice r5 D.td.bs.length rc5))) := hm.all _ rfl
        have hn : ∀ v ps b, OwnP w9 b v ps → v.ownBlock ≠ some w9.heap.size := fun v ps b h => h.blk (Nat.le_refl _)
        have k1 := hr.below ha
        have HRw9 : Hid (∃ b, Rows ((w9.alloc (.cells #[.int .u64 0, .int .u64 0, .int .u8 0, .string ⟨#[]⟩, .int .i64 0, .int .i64 0, .int .i64 0, .slice none 0 0, .slice none 0 0, .string ⟨#[]⟩, .int .i64 0, .int .i64 0, .int .i64 0, .slice none 0 0, .slice none 0 0, .string ⟨#[]⟩, .string ⟨#[]⟩, .int .i64 0, .string ⟨#[]⟩, .string ⟨#[]⟩, .int .u64 0] 33)).setCells w9.heap.size 0 (cdC D (.slice r2 D.nd.ls.length rc2) (.slice r3 D.nd.ts.length rc3) (.slice r4 D.td.ws.length rc4) (.slice r5 D.td.bs.length rc5))) b D (.slice r2 D.nd.ls.length rc2) (.slice r3 D.nd.ts.length rc3) (.slice r4 D.td.ws.length rc4) (.slice r5 D.td.bs.length rc5)) := ⟨_, k1.1.only ho (hn _ _ _ hr.1), k1.2.1.only ho (hn _ _ _ hr.2.1), k1.2.2.1.only ho (hn _ _ _ hr.2.2.1), k1.2.2.2.only ho (hn _ _ _ hr.2.2.2)⟩
        clear hn k1
        clear hb hm ha ho hbb hlt hr
        dsimp only
        refine ‹∀ (a : Act) (w : World), wpList Try.prog _ _ _ a w → _› _ _ ?_
        refine wpList_plain rfl fun K hK => ?_
        go_simp
        refine hK _ _ ?_
        clear hK K
        refine wpList_plain rfl fun K hK => ?_
        go_simp
        refine hK _ _ ?_
        clear hK K
        refine wpList_plain rfl fun K hK => ?_
        go_simp
        refine hK _ _ ?_
        clear hK K
        refine wpList_plain rfl fun K hK => ?_
        go_simp
        refine hK _ _ ?_
        clear hK K
        refine wpList_store_mid rfl 33 (.tmp 18) (.tmp 88) rfl w9.heap.size 0 (cdC D (.slice r2 D.nd.ls.length rc2) (.slice r3 D.nd.ts.length rc3) (.slice r4 D.td.ws.length rc4) (.slice r5 D.td.bs.length rc5)).toArray rfl rfl hth rfl (all_oneCell_toArray (cdC_one D (.slice r2 D.nd.ls.length rc2) (.slice r3 D.nd.ts.length rc3) (.slice r4 D.td.ws.length rc4) (.slice r5 D.td.bs.length rc5) rfl rfl rfl rfl)) ?_
        clear hth
        rw [show (cdC D (.slice r2 D.nd.ls.length rc2) (.slice r3 D.nd.ts.length rc3) (.slice r4 D.td.ws.length rc4) (.slice r5 D.td.bs.length rc5)).toArray.toList = cdC D (.slice r2 D.nd.ls.length rc2) (.slice r3 D.nd.ts.length rc3) (.slice r4 D.td.ws.length rc4) (.slice r5 D.td.bs.length rc5) from rfl]
        generalize ((w9.alloc (.cells #[.int .u64 0, .int .u64 0, .int .u8 0, .string ⟨#[]⟩, .int .i64 0, .int .i64 0, .int .i64 0, .slice none 0 0, .slice none 0 0, .string ⟨#[]⟩, .int .i64 0, .int .i64 0, .int .i64 0, .slice none 0 0, .slice none 0 0, .string ⟨#[]⟩, .string ⟨#[]⟩, .int .i64 0, .string ⟨#[]⟩, .string ⟨#[]⟩, .int .u64 0] 33)).setCells w9.heap.size 0 (cdC D (.slice r2 D.nd.ls.length rc2) (.slice r3 D.nd.ts.length rc3) (.slice r4 D.td.ws.length rc4) (.slice r5 D.td.bs.length rc5))) = Vw9 at *
        generalize w9.heap.size = Nw9 at *
        obtain ⟨bb, hrr⟩ := HRw9.out
        have HP9 := Lib.hid (hrr.prs HT3.out.1)
        have R9 := Lib.hid (HDw9.out.range 0)
        clear hrr
        go_upto_region 18 with fail
        refine wp_region_list ?_
        refine wpList_load_mid rfl 33 (.tmp 18) rfl Nw9 0 rfl (cdC D (.slice r2 D.nd.ls.length rc2) (.slice r3 D.nd.ts.length rc3) (.slice r4 D.td.ws.length rc4) (.slice r5 D.td.bs.length rc5)) _ R9.out Try.underlying33 rfl rfl ?_
        go_wp2_with fail
        refine (KE3.out _ _ _ _ _ HP9.out).mono ?_
        rintro e w10 ⟨rfl, hb⟩
        have HB10 := Lib.hid (HBw9.out.below hb)
        clear hb
        go_wp2
        go_ret
        exact ⟨rfl, HB10.out.be⟩
    | true =>
      obtain ⟨n, rfl, hn, hts⟩ := td_small htk
      have KT := Lib.hid (tenc_yes n ts htk)
      have KU := Lib.hid (tdec_yes n ts hn hts)
      clear htk hn hts
      generalize bs (tlB n ts) = qy at *
      go_wp2_with fail
      refine (KT.out _).mono ?_
      rintro e w6 ⟨rfl, hb⟩
      have HB6 := Lib.hid (HB2.out.below hb)
      clear hb c0 c1
      go_wp2_with fail
      refine (KU.out _).mono ?_
      rintro e w7 ⟨rfl, hb⟩
      have ha7 : Below w7.heap.size w7 (w7.alloc (.cells #[.int .i64 (n : Nat), .string ts] 44)) := (Below.refl _ _).alloc (Nat.le_refl _) _
      have HB7 := Lib.hid ((HB6.out.below hb).below ha7)
      have HU7 := Lib.hid (Bx2.made w7 (.int .i64 (n : Nat)) (.string ts) 44)
      clear hb ha7
      go_upto_region 13 with fail
      generalize w7.alloc (.cells #[.int .i64 (n : Nat), .string ts] 44) = W7 at *
      have c0 : W7.cell? ⟨w.heap.size + 1, 0, none⟩ = some (.int .i64 (n : Nat)) := HB7.out.bz.cell 0
      have c1 : W7.cell? ⟨w.heap.size + 1, 1, none⟩ = some (.string ts) := HB7.out.bz.cell 1
      obtain ⟨d0, d1⟩ := HU7.out.cells
      have gf := guard_told
      have hq := neq_told (n : Nat) (n : Nat) ts ts
      rw [show (!((((n : Nat) : Int) == ((n : Nat) : Int)) && (ts.toList == ts.toList))) = false by simp] at hq
      go_upto_region 15 with fail
      clear c0 c1 d0 d1 gf hq
      cases hds : dcOk s.data.toList with
      | false =>
        have KD3 : Hid (∀ z, Calls Try.prog 12 #[.string s] z fun e w' => ∃ v2 v3 v4 v5, e = .returned (.tuple #[.agg (cdC (cd0 0 0 0) v2 v3 v4 v5).toArray, .int .i64 4]) ∧ Rows w' z.heap.size (cd0 0 0 0) v2 v3 v4 v5 ∧ Below z.heap.size z w') := fun z => by
          have := dec_no s.data.toList (by exact hs) hds z
          rw [bs_of] at this
          exact this
        clear hds hs
        go_wp2_with fail
        refine (KD3.out _).mono ?_
        rintro e w9 ⟨u2, u3, u4, u5, rfl, hr, hb⟩
        obtain ⟨r2, rc2, rfl⟩ := hr.1.slice
        obtain ⟨r3, rc3, rfl⟩ := hr.2.1.slice
        obtain ⟨r4, rc4, rfl⟩ := hr.2.2.1.slice
        obtain ⟨r5, rc5, rfl⟩ := hr.2.2.2.slice
        have hm : Bxn (w9.alloc (.cells #[.int .u64 0, .int .u64 0, .int .u8 0, .string ⟨#[]⟩, .int .i64 0, .int .i64 0, .int .i64 0, .slice none 0 0, .slice none 0 0, .string ⟨#[]⟩, .int .i64 0, .int .i64 0, .int .i64 0, .slice none 0 0, .slice none 0 0, .string ⟨#[]⟩, .string ⟨#[]⟩, .int .i64 0, .string ⟨#[]⟩, .string ⟨#[]⟩, .int .u64 0] 33)) w9.heap.size [.int .u64 0, .int .u64 0, .int .u8 0, .string ⟨#[]⟩, .int .i64 0, .int .i64 0, .int .i64 0, .slice none 0 0, .slice none 0 0, .string ⟨#[]⟩, .int .i64 0, .int .i64 0, .int .i64 0, .slice none 0 0, .slice none 0 0, .string ⟨#[]⟩, .string ⟨#[]⟩, .int .i64 0, .string ⟨#[]⟩, .string ⟨#[]⟩, .int .u64 0] := Bxn.made _ _ _
        have hth := hm.there 21 rfl
        have ha : Below w9.heap.size w9 (w9.alloc (.cells #[.int .u64 0, .int .u64 0, .int .u8 0, .string ⟨#[]⟩, .int .i64 0, .int .i64 0, .int .i64 0, .slice none 0 0, .slice none 0 0, .string ⟨#[]⟩, .int .i64 0, .int .i64 0, .int .i64 0, .slice none 0 0, .slice none 0 0, .string ⟨#[]⟩, .string ⟨#[]⟩, .int .i64 0, .string ⟨#[]⟩, .string ⟨#[]⟩, .int .u64 0] 33)) := (Below.refl _ _).alloc (Nat.le_refl _) _
        have ho := only_setCells w9.heap.size (cdC (cd0 0 0 0) (.slice r2 (cd0 0 0 0).nd.ls.length rc2) (.slice r3 (cd0 0 0 0).nd.ts.length rc3) (.slice r4 (cd0 0 0 0).td.ws.length rc4) (.slice r5 (cd0 0 0 0).td.bs.length rc5)) 0 (w9.alloc (.cells #[.int .u64 0, .int .u64 0, .int .u8 0, .string ⟨#[]⟩, .int .i64 0, .int .i64 0, .int .i64 0, .slice none 0 0, .slice none 0 0, .string ⟨#[]⟩, .int .i64 0, .int .i64 0, .int .i64 0, .slice none 0 0, .slice none 0 0, .string ⟨#[]⟩, .string ⟨#[]⟩, .int .i64 0, .string ⟨#[]⟩, .string ⟨#[]⟩, .int .u64 0] 33))
        have hbb := HB7.out.below hb
        have hlt := hbb.bz.lt
        have HBw9 : Hid (Bb w (cdC C v2 v3 v4 v5) [.int .i64 (n : Nat), .string ts] ((w9.alloc (.cells #[.int .u64 0, .int .u64 0, .int .u8 0, .string ⟨#[]⟩, .int .i64 0, .int .i64 0, .int .i64 0, .slice none 0 0, .slice none 0 0, .string ⟨#[]⟩, .int .i64 0, .int .i64 0, .int .i64 0, .slice none 0 0, .slice none 0 0, .string ⟨#[]⟩, .string ⟨#[]⟩, .int .i64 0, .string ⟨#[]⟩, .string ⟨#[]⟩, .int .u64 0] 33)).setCells w9.heap.size 0 (cdC (cd0 0 0 0) (.slice r2 (cd0 0 0 0).nd.ls.length rc2) (.slice r3 (cd0 0 0 0).nd.ts.length rc3) (.slice r4 (cd0 0 0 0).td.ws.length rc4) (.slice r5 (cd0 0 0 0).td.bs.length rc5)))) := (hbb.below ha).off ho hlt
        have HDw9 : Hid (Bxn ((w9.alloc (.cells #[.int .u64 0, .int .u64 0, .int .u8 0, .string ⟨#[]⟩, .int .i64 0, .int .i64 0, .int .i64 0, .slice none 0 0, .slice none 0 0, .string ⟨#[]⟩, .int .i64 0, .int .i64 0, .int .i64 0, .slice none 0 0, .slice none 0 0, .string ⟨#[]⟩, .string ⟨#[]⟩, .int .i64 0, .string ⟨#[]⟩, .string ⟨#[]⟩, .int .u64 0] 33)).setCells w9.heap.size 0 (cdC (cd0 0 0 0) (.slice r2 (cd0 0 0 0).nd.ls.length rc2) (.slice r3 (cd0 0 0 0).nd.ts.length rc3) (.slice r4 (cd0 0 0 0).td.ws.length rc4) (.slice r5 (cd0 0 0 0).td.bs.length rc5))) w9.heap.size (cdC (cd0 0 0 0) (.slice r2 (cd0 0 0 0).nd.ls.length rc2) (.slice r3 (cd0 0 0 0).nd.ts.length rc3) (.slice r4 (cd0 0 0 0).td.ws.length rc4) (.slice r5 (cd0 0 0 0).td.bs.length rc5))) := hm.all _ rfl
        have hn : ∀ v ps b, OwnP w9 b v ps → v.ownBlock ≠ some w9.heap.size := fun v ps b h => h.blk (Nat.le_refl _)
        have k1 := hr.below ha
        have HRw9 : Hid (∃ b, Rows ((w9.alloc (.cells #[.int .u64 0, .int .u64 0, .int .u8 0, .string ⟨#[]⟩, .int .i64 0, .int .i64 0, .int .i64 0, .slice none 0 0, .slice none 0 0, .string ⟨#[]⟩, .int .i64 0, .int .i64 0, .int .i64 0, .slice none 0 0, .slice none 0 0, .string ⟨#[]⟩, .string ⟨#[]⟩, .int .i64 0, .string ⟨#[]⟩, .string ⟨#[]⟩, .int .u64 0] 33)).setCells w9.heap.size 0 (cdC (cd0 0 0 0) (.slice r2 (cd0 0 0 0).nd.ls.length rc2) (.slice r3 (cd0 0 0 0).nd.ts.length rc3) (.slice r4 (cd0 0 0 0).td.ws.length rc4) (.slice r5 (cd0 0 0 0).td.bs.length rc5))) b (cd0 0 0 0) (.slice r2 (cd0 0 0 0).nd.ls.length rc2) (.slice r3 (cd0 0 0 0).nd.ts.length rc3) (.slice r4 (cd0 0 0 0).td.ws.length rc4) (.slice r5 (cd0 0 0 0).td.bs.length rc5)) := ⟨_, k1.1.only ho (hn _ _ _ hr.1), k1.2.1.only ho (hn _ _ _ hr.2.1), k1.2.2.1.only ho (hn _ _ _ hr.2.2.1), k1.2.2.2.only ho (hn _ _ _ hr.2.2.2)⟩
        clear hn k1
        clear hb hm ha ho hbb hlt hr
        dsimp only
        refine ‹∀ (a : Act) (w : World), wpList Try.prog _ _ _ a w → _› _ _ ?_
        refine wpList_plain rfl fun K hK => ?_
        go_simp
        refine hK _ _ ?_
        clear hK K
        refine wpList_plain rfl fun K hK => ?_
        go_simp
        refine hK _ _ ?_
        clear hK K
        refine wpList_plain rfl fun K hK => ?_
        go_simp
        refine hK _ _ ?_
        clear hK K
        refine wpList_plain rfl fun K hK => ?_
        go_simp
        refine hK _ _ ?_
        clear hK K
        refine wpList_store_mid rfl 33 (.tmp 18) (.tmp 88) rfl w9.heap.size 0 (cdC (cd0 0 0 0) (.slice r2 (cd0 0 0 0).nd.ls.length rc2) (.slice r3 (cd0 0 0 0).nd.ts.length rc3) (.slice r4 (cd0 0 0 0).td.ws.length rc4) (.slice r5 (cd0 0 0 0).td.bs.length rc5)).toArray rfl rfl hth rfl (all_oneCell_toArray (cdC_one (cd0 0 0 0) (.slice r2 (cd0 0 0 0).nd.ls.length rc2) (.slice r3 (cd0 0 0 0).nd.ts.length rc3) (.slice r4 (cd0 0 0 0).td.ws.length rc4) (.slice r5 (cd0 0 0 0).td.bs.length rc5) rfl rfl rfl rfl)) ?_
        clear hth
        rw [show (cdC (cd0 0 0 0) (.slice r2 (cd0 0 0 0).nd.ls.length rc2) (.slice r3 (cd0 0 0 0).nd.ts.length rc3) (.slice r4 (cd0 0 0 0).td.ws.length rc4) (.slice r5 (cd0 0 0 0).td.bs.length rc5)).toArray.toList = cdC (cd0 0 0 0) (.slice r2 (cd0 0 0 0).nd.ls.length rc2) (.slice r3 (cd0 0 0 0).nd.ts.length rc3) (.slice r4 (cd0 0 0 0).td.ws.length rc4) (.slice r5 (cd0 0 0 0).td.bs.length rc5) from rfl]
        generalize ((w9.alloc (.cells #[.int .u64 0, .int .u64 0, .int .u8 0, .string ⟨#[]⟩, .int .i64 0, .int .i64 0, .int .i64 0, .slice none 0 0, .slice none 0 0, .string ⟨#[]⟩, .int .i64 0, .int .i64 0, .int .i64 0, .slice none 0 0, .slice none 0 0, .string ⟨#[]⟩, .string ⟨#[]⟩, .int .i64 0, .string ⟨#[]⟩, .string ⟨#[]⟩, .int .u64 0] 33)).setCells w9.heap.size 0 (cdC (cd0 0 0 0) (.slice r2 (cd0 0 0 0).nd.ls.length rc2) (.slice r3 (cd0 0 0 0).nd.ts.length rc3) (.slice r4 (cd0 0 0 0).td.ws.length rc4) (.slice r5 (cd0 0 0 0).td.bs.length rc5))) = Vw9 at *
        generalize w9.heap.size = Nw9 at *
        obtain ⟨bb, hrr⟩ := HRw9.out
        have HP9 := Lib.hid (hrr.prs ⟨nil_took _, nil_took _, nil_took _, nil_took _⟩)
        have R9 := Lib.hid (HDw9.out.range 0)
        clear hrr
        go_upto_region 17 with fail
        refine wp_region_list ?_
        refine wpList_load_mid rfl 33 (.tmp 18) rfl Nw9 0 rfl (cdC (cd0 0 0 0) (.slice r2 (cd0 0 0 0).nd.ls.length rc2) (.slice r3 (cd0 0 0 0).nd.ts.length rc3) (.slice r4 (cd0 0 0 0).td.ws.length rc4) (.slice r5 (cd0 0 0 0).td.bs.length rc5)) _ R9.out Try.underlying33 rfl rfl ?_
        refine wpList_plain rfl fun K hK => ?_
        go_simp
        refine hK _ _ ?_
        clear hK K
        go_wp2_with fail
        refine (same_cmd (cd0 0 0 0) (cd0 0 0 0) _ _ _ _ nilS nilS nilS nilS _ HP9.out ⟨Rg.Pairs.none_ _ _, Rg.Pairs.none_ _ _, Rg.Pairs.none_ _ _, Rg.Pairs.none_ _ _⟩).mono ?_
        rintro e w10 ⟨rfl, hb⟩
        have HB10 := Lib.hid (HBw9.out.below hb)
        rw [smC_iff.2 rfl]
        clear hb
        go_wp2
        go_ret
        exact ⟨rfl, HB10.out.be⟩
      | true =>
        have ht3 := cmT_took s.data.toList (by exact hs)
        have HT3 := Lib.hid ht3
        have hf3 := cm_forth hds
        have KD3 : Hid (∀ z, Calls Try.prog 12 #[.string s] z fun e w' => ∃ v2 v3 v4 v5, e = .returned (.tuple #[.agg (cdC (cmT s.data.toList) v2 v3 v4 v5).toArray, .int .i64 0]) ∧ Rows w' z.heap.size (cmT s.data.toList) v2 v3 v4 v5 ∧ Below z.heap.size z w') := fun z => by
          have := dec_yes s.data.toList (by exact hs) hds z
          rw [bs_of] at this
          exact this
        have KE3 : Hid (∀ z u2 u3 u4 u5, PrsIn z z.heap.size (cmT s.data.toList) u2 u3 u4 u5 → Calls Try.prog 10 #[.agg (cdC (cmT s.data.toList) u2 u3 u4 u5).toArray] z fun e w' => e = .returned (.tuple #[.string s, .int .i64 0]) ∧ Below z.heap.size z w') := fun z u2 u3 u4 u5 hu => by
          have := enc_yes hu ht3.2.1 ht3.2.2 hf3.2 z (Below.refl _ _)
          rw [hf3.1, bs_of] at this
          exact this
        clear hds hs ht3 hf3
        generalize cmT s.data.toList = D at *
        go_wp2_with fail
        refine (KD3.out _).mono ?_
        rintro e w9 ⟨u2, u3, u4, u5, rfl, hr, hb⟩
        obtain ⟨r2, rc2, rfl⟩ := hr.1.slice
        obtain ⟨r3, rc3, rfl⟩ := hr.2.1.slice
        obtain ⟨r4, rc4, rfl⟩ := hr.2.2.1.slice
        obtain ⟨r5, rc5, rfl⟩ := hr.2.2.2.slice
        have hm : Bxn (w9.alloc (.cells #[.int .u64 0, .int .u64 0, .int .u8 0, .string ⟨#[]⟩, .int .i64 0, .int .i64 0, .int .i64 0, .slice none 0 0, .slice none 0 0, .string ⟨#[]⟩, .int .i64 0, .int .i64 0, .int .i64 0, .slice none 0 0, .slice none 0 0, .string ⟨#[]⟩, .string ⟨#[]⟩, .int .i64 0, .string ⟨#[]⟩, .string ⟨#[]⟩, .int .u64 0] 33)) w9.heap.size [.int .u64 0, .int .u64 0, .int .u8 0, .string ⟨#[]⟩, .int .i64 0, .int .i64 0, .int .i64 0, .slice none 0 0, .slice none 0 0, .string ⟨#[]⟩, .int .i64 0, .int .i64 0, .int .i64 0, .slice none 0 0, .slice none 0 0, .string ⟨#[]⟩, .string ⟨#[]⟩, .int .i64 0, .string ⟨#[]⟩, .string ⟨#[]⟩, .int .u64 0] := Bxn.made _ _ _
        have hth := hm.there 21 rfl
        have ha : Below w9.heap.size w9 (w9.alloc (.cells #[.int .u64 0, .int .u64 0, .int .u8 0, .string ⟨#[]⟩, .int .i64 0, .int .i64 0, .int .i64 0, .slice none 0 0, .slice none 0 0, .string ⟨#[]⟩, .int .i64 0, .int .i64 0, .int .i64 0, .slice none 0 0, .slice none 0 0, .string ⟨#[]⟩, .string ⟨#[]⟩, .int .i64 0, .string ⟨#[]⟩, .string ⟨#[]⟩, .int .u64 0] 33)) := (Below.refl _ _).alloc (Nat.le_refl _) _
        have ho := only_setCells w9.heap.size (cdC D (.slice r2 D.nd.ls.length rc2) (.slice r3 D.nd.ts.length rc3) (.slice r4 D.td.ws.length rc4) (.slice r5 D.td.bs.length rc5)) 0 (w9.alloc (.cells #[.int .u64 0, .int .u64 0, .int .u8 0, .string ⟨#[]⟩, .int .i64 0, .int .i64 0, .int .i64 0, .slice none 0 0, .slice none 0 0, .string ⟨#[]⟩, .int .i64 0, .int .i64 0, .int .i64 0, .slice none 0 0, .slice none 0 0, .string ⟨#[]⟩, .string ⟨#[]⟩, .int .i64 0, .string ⟨#[]⟩, .string ⟨#[]⟩, .int .u64 0] 33))
        have hbb := HB7.out.below hb
        have hlt := hbb.bz.lt
        have HBw9 : Hid (Bb w (cdC C v2 v3 v4 v5) [.int .i64 (n : Nat), .string ts] ((w9.alloc (.cells #[.int .u64 0, .int .u64 0, .int .u8 0, .string ⟨#[]⟩, .int .i64 0, .int .i64 0, .int .i64 0, .slice none 0 0, .slice none 0 0, .string ⟨#[]⟩, .int .i64 0, .int .i64 0, .int .i64 0, .slice none 0 0, .slice none 0 0, .string ⟨#[]⟩, .string ⟨#[]⟩, .int .i64 0, .string ⟨#[]⟩, .string ⟨#[]⟩, .int .u64 0] 33)).setCells w9.heap.size 0 (cdC D (.slice r2 D.nd.ls.length rc2) (.slice r3 D.nd.ts.length rc3) (.slice r4 D.td.ws.length rc4) (.slice r5 D.td.bs.length rc5)))) := (hbb.below ha).off ho hlt
        have HDw9 : Hid (Bxn ((w9.alloc (.cells #[.int .u64 0, .int .u64 0, .int .u8 0, .string ⟨#[]⟩, .int .i64 0, .int .i64 0, .int .i64 0, .slice none 0 0, .slice none 0 0, .string ⟨#[]⟩, .int .i64 0, .int .i64 0, .int .i64 0, .slice none 0 0, .slice none 0 0, .string ⟨#[]⟩, .string ⟨#[]⟩, .int .i64 0, .string ⟨#[]⟩, .string ⟨#[]⟩, .int .u64 0] 33)).setCells w9.heap.size 0 (cdC D (.slice r2 D.nd.ls.length rc2) (.slice r3 D.nd.ts.length rc3) (.slice r4 D.td.ws.length rc4) (.slice r5 D.td.bs.length rc5))) w9.heap.size (cdC D (.slice r2 D.nd.ls.length rc2) (.slice r3 D.nd.ts.length rc3) (.slice r4 D.td.ws.length rc4) (.slice r5 D.td.bs.length rc5))) := hm.all _ rfl
        have hn : ∀ v ps b, OwnP w9 b v ps → v.ownBlock ≠ some w9.heap.size := fun v ps b h => h.blk (Nat.le_refl _)
        have k1 := hr.below ha
        have HRw9 : Hid (∃ b, Rows ((w9.alloc (.cells #[.int .u64 0, .int .u64 0, .int .u8 0, .string ⟨#[]⟩, .int .i64 0, .int .i64 0, .int .i64 0, .slice none 0 0, .slice none 0 0, .string ⟨#[]⟩, .int .i64 0, .int .i64 0, .int .i64 0, .slice none 0 0, .slice none 0 0, .string ⟨#[]⟩, .string ⟨#[]⟩, .int .i64 0, .string ⟨#[]⟩, .string ⟨#[]⟩, .int .u64 0] 33)).setCells w9.heap.size 0 (cdC D (.slice r2 D.nd.ls.length rc2) (.slice r3 D.nd.ts.length rc3) (.slice r4 D.td.ws.length rc4) (.slice r5 D.td.bs.length rc5))) b D (.slice r2 D.nd.ls.length rc2) (.slice r3 D.nd.ts.length rc3) (.slice r4 D.td.ws.length rc4) (.slice r5 D.td.bs.length rc5)) := ⟨_, k1.1.only ho (hn _ _ _ hr.1), k1.2.1.only ho (hn _ _ _ hr.2.1), k1.2.2.1.only ho (hn _ _ _ hr.2.2.1), k1.2.2.2.only ho (hn _ _ _ hr.2.2.2)⟩
        clear hn k1
        clear hb hm ha ho hbb hlt hr
        dsimp only
        refine ‹∀ (a : Act) (w : World), wpList Try.prog _ _ _ a w → _› _ _ ?_
        refine wpList_plain rfl fun K hK => ?_
        go_simp
        refine hK _ _ ?_
        clear hK K
        refine wpList_plain rfl fun K hK => ?_
        go_simp
        refine hK _ _ ?_
        clear hK K
        refine wpList_plain rfl fun K hK => ?_
        go_simp
        refine hK _ _ ?_
        clear hK K
        refine wpList_plain rfl fun K hK => ?_
        go_simp
        refine hK _ _ ?_
        clear hK K
        refine wpList_store_mid rfl 33 (.tmp 18) (.tmp 88) rfl w9.heap.size 0 (cdC D (.slice r2 D.nd.ls.length rc2) (.slice r3 D.nd.ts.length rc3) (.slice r4 D.td.ws.length rc4) (.slice r5 D.td.bs.length rc5)).toArray rfl rfl hth rfl (all_oneCell_toArray (cdC_one D (.slice r2 D.nd.ls.length rc2) (.slice r3 D.nd.ts.length rc3) (.slice r4 D.td.ws.length rc4) (.slice r5 D.td.bs.length rc5) rfl rfl rfl rfl)) ?_
        clear hth
        rw [show (cdC D (.slice r2 D.nd.ls.length rc2) (.slice r3 D.nd.ts.length rc3) (.slice r4 D.td.ws.length rc4) (.slice r5 D.td.bs.length rc5)).toArray.toList = cdC D (.slice r2 D.nd.ls.length rc2) (.slice r3 D.nd.ts.length rc3) (.slice r4 D.td.ws.length rc4) (.slice r5 D.td.bs.length rc5) from rfl]
        generalize ((w9.alloc (.cells #[.int .u64 0, .int .u64 0, .int .u8 0, .string ⟨#[]⟩, .int .i64 0, .int .i64 0, .int .i64 0, .slice none 0 0, .slice none 0 0, .string ⟨#[]⟩, .int .i64 0, .int .i64 0, .int .i64 0, .slice none 0 0, .slice none 0 0, .string ⟨#[]⟩, .string ⟨#[]⟩, .int .i64 0, .string ⟨#[]⟩, .string ⟨#[]⟩, .int .u64 0] 33)).setCells w9.heap.size 0 (cdC D (.slice r2 D.nd.ls.length rc2) (.slice r3 D.nd.ts.length rc3) (.slice r4 D.td.ws.length rc4) (.slice r5 D.td.bs.length rc5))) = Vw9 at *
        generalize w9.heap.size = Nw9 at *
        obtain ⟨bb, hrr⟩ := HRw9.out
        have HP9 := Lib.hid (hrr.prs HT3.out.1)
        have R9 := Lib.hid (HDw9.out.range 0)
        clear hrr
        go_upto_region 18 with fail
        refine wp_region_list ?_
        refine wpList_load_mid rfl 33 (.tmp 18) rfl Nw9 0 rfl (cdC D (.slice r2 D.nd.ls.length rc2) (.slice r3 D.nd.ts.length rc3) (.slice r4 D.td.ws.length rc4) (.slice r5 D.td.bs.length rc5)) _ R9.out Try.underlying33 rfl rfl ?_
        go_wp2_with fail
        refine (KE3.out _ _ _ _ _ HP9.out).mono ?_
        rintro e w10 ⟨rfl, hb⟩
        have HB10 := Lib.hid (HBw9.out.below hb)
        clear hb
        go_wp2
        go_ret
        exact ⟨rfl, HB10.out.be⟩
  | true =>
    have KE := Lib.hid (hye hk)
    have h1 := hle hk
    have h2 := hok hk
    have h3 := hmo hk
    have h4 := hlst hk
    have h5 := hcm hk
    have hz := bs_size (cmY C)
    have hne : 0 < (cmY C).length := List.length_pos_iff.2 (cmY_ne C)
    have kd1 : ∀ z, Calls Try.prog 12 #[.string (bs (cmY C))] z fun e w' => ∃ v2 v3 v4 v5, e = .returned (.tuple #[.agg (cdC C v2 v3 v4 v5).toArray, .int .i64 0]) ∧ Rows w' z.heap.size C v2 v3 v4 v5 ∧ Below z.heap.size z w' := fun z => by
      refine (cmd_decode (cmY C) z (by unfold maxLen; omega)).mono ?_
      rintro e w' ⟨⟨v, he, v2, v3, v4, v5, rfl, hr⟩, hb⟩
      rw [h2.2] at he hr
      rw [h2.1] at he
      exact ⟨v2, v3, v4, v5, he, hr, hb⟩
    have kd2 := dec_no (cmY C ++ [0]) (by rw [List.length_append]; unfold maxLen; simp; omega) h3
    have kd4 := dec_no ((cmY C).take ((cmY C).length - 1)) (by rw [List.length_take]; unfold maxLen; omega) (h4 _ (by omega))
    rw [← ext_bs] at kd4
    have hlen2 : (cmY C).length = (bs (cmY C)).size := hz.symm
    have HT1 : Hid (TookC C maxLen) := by
      have := (cmT_took (cmY C) (by unfold maxLen; omega)).1
      rw [h5] at this
      exact this
    rw [hlen2] at kd4 h1 hne
    clear hno hye hk hle hok hmo hlst hcm h2 h3 h4 h5 hz hlen2
    generalize hq : bs (cmY C) = q at *
    have hq2 : bs (cmY C ++ [0]) = q ++ ⟨#[0]⟩ := by
      rw [← hq]
      apply ByteArray.ext
      simp [bs, ByteArray.data_append]
    rw [hq2] at kd2
    have KD1 := Lib.hid kd1
    have KD2 := Lib.hid kd2
    obtain ⟨m, hm⟩ : ∃ m, q.size = m + 1 := ⟨q.size - 1, by omega⟩
    rw [show q.size - 1 = m by omega] at kd4
    have KD4 := Lib.hid kd4
    have tq : IntKind.i64.wrap (((q.size : Nat) : Int) - 1) = ((m : Nat) : Int) := by rw [IntKind.wrap_i64]; omega
    have tz : ((q.size : Nat) : Int) - 1 = ((m : Nat) : Int) := by omega
    have mq : m ≤ q.size := by omega
    clear kd1 kd2 kd4 hq hq2 hm hne
    go_wp2_with fail
    refine (KE.out _ HB1.out.be).mono ?_
    rintro e w2 ⟨rfl, hb⟩
    have HB2 := Lib.hid (HB1.out.below hb)
    clear hb
    go_wp2_with fail
    refine (KD1.out _).mono ?_
    rintro e w3 ⟨u2, u3, u4, u5, rfl, hr, hb⟩
    obtain ⟨p2, pc2, rfl⟩ := hr.1.slice
    obtain ⟨p3, pc3, rfl⟩ := hr.2.1.slice
    obtain ⟨p4, pc4, rfl⟩ := hr.2.2.1.slice
    obtain ⟨p5, pc5, rfl⟩ := hr.2.2.2.slice
    have hm : Bxn (w3.alloc (.cells #[.int .u64 0, .int .u64 0, .int .u8 0, .string ⟨#[]⟩, .int .i64 0, .int .i64 0, .int .i64 0, .slice none 0 0, .slice none 0 0, .string ⟨#[]⟩, .int .i64 0, .int .i64 0, .int .i64 0, .slice none 0 0, .slice none 0 0, .string ⟨#[]⟩, .string ⟨#[]⟩, .int .i64 0, .string ⟨#[]⟩, .string ⟨#[]⟩, .int .u64 0] 33)) w3.heap.size [.int .u64 0, .int .u64 0, .int .u8 0, .string ⟨#[]⟩, .int .i64 0, .int .i64 0, .int .i64 0, .slice none 0 0, .slice none 0 0, .string ⟨#[]⟩, .int .i64 0, .int .i64 0, .int .i64 0, .slice none 0 0, .slice none 0 0, .string ⟨#[]⟩, .string ⟨#[]⟩, .int .i64 0, .string ⟨#[]⟩, .string ⟨#[]⟩, .int .u64 0] := Bxn.made _ _ _
    have hth := hm.there 21 rfl
    have ha : Below w3.heap.size w3 (w3.alloc (.cells #[.int .u64 0, .int .u64 0, .int .u8 0, .string ⟨#[]⟩, .int .i64 0, .int .i64 0, .int .i64 0, .slice none 0 0, .slice none 0 0, .string ⟨#[]⟩, .int .i64 0, .int .i64 0, .int .i64 0, .slice none 0 0, .slice none 0 0, .string ⟨#[]⟩, .string ⟨#[]⟩, .int .i64 0, .string ⟨#[]⟩, .string ⟨#[]⟩, .int .u64 0] 33)) := (Below.refl _ _).alloc (Nat.le_refl _) _
    have ho := only_setCells w3.heap.size (cdC C (.slice p2 C.nd.ls.length pc2) (.slice p3 C.nd.ts.length pc3) (.slice p4 C.td.ws.length pc4) (.slice p5 C.td.bs.length pc5)) 0 (w3.alloc (.cells #[.int .u64 0, .int .u64 0, .int .u8 0, .string ⟨#[]⟩, .int .i64 0, .int .i64 0, .int .i64 0, .slice none 0 0, .slice none 0 0, .string ⟨#[]⟩, .int .i64 0, .int .i64 0, .int .i64 0, .slice none 0 0, .slice none 0 0, .string ⟨#[]⟩, .string ⟨#[]⟩, .int .i64 0, .string ⟨#[]⟩, .string ⟨#[]⟩, .int .u64 0] 33))
    have hbb := HB2.out.below hb
    have hlt := hbb.bz.lt
    have HBw3 : Hid (Bb w (cdC C v2 v3 v4 v5) [.int .i64 why, .string ts] ((w3.alloc (.cells #[.int .u64 0, .int .u64 0, .int .u8 0, .string ⟨#[]⟩, .int .i64 0, .int .i64 0, .int .i64 0, .slice none 0 0, .slice none 0 0, .string ⟨#[]⟩, .int .i64 0, .int .i64 0, .int .i64 0, .slice none 0 0, .slice none 0 0, .string ⟨#[]⟩, .string ⟨#[]⟩, .int .i64 0, .string ⟨#[]⟩, .string ⟨#[]⟩, .int .u64 0] 33)).setCells w3.heap.size 0 (cdC C (.slice p2 C.nd.ls.length pc2) (.slice p3 C.nd.ts.length pc3) (.slice p4 C.td.ws.length pc4) (.slice p5 C.td.bs.length pc5)))) := (hbb.below ha).off ho hlt
    have HDw3 : Hid (Bxn ((w3.alloc (.cells #[.int .u64 0, .int .u64 0, .int .u8 0, .string ⟨#[]⟩, .int .i64 0, .int .i64 0, .int .i64 0, .slice none 0 0, .slice none 0 0, .string ⟨#[]⟩, .int .i64 0, .int .i64 0, .int .i64 0, .slice none 0 0, .slice none 0 0, .string ⟨#[]⟩, .string ⟨#[]⟩, .int .i64 0, .string ⟨#[]⟩, .string ⟨#[]⟩, .int .u64 0] 33)).setCells w3.heap.size 0 (cdC C (.slice p2 C.nd.ls.length pc2) (.slice p3 C.nd.ts.length pc3) (.slice p4 C.td.ws.length pc4) (.slice p5 C.td.bs.length pc5))) w3.heap.size (cdC C (.slice p2 C.nd.ls.length pc2) (.slice p3 C.nd.ts.length pc3) (.slice p4 C.td.ws.length pc4) (.slice p5 C.td.bs.length pc5))) := hm.all _ rfl
    have hn : ∀ v ps b, OwnP w3 b v ps → v.ownBlock ≠ some w3.heap.size := fun v ps b h => h.blk (Nat.le_refl _)
    have k1 := hr.below ha
    have HRw3 : Hid (∃ b, Rows ((w3.alloc (.cells #[.int .u64 0, .int .u64 0, .int .u8 0, .string ⟨#[]⟩, .int .i64 0, .int .i64 0, .int .i64 0, .slice none 0 0, .slice none 0 0, .string ⟨#[]⟩, .int .i64 0, .int .i64 0, .int .i64 0, .slice none 0 0, .slice none 0 0, .string ⟨#[]⟩, .string ⟨#[]⟩, .int .i64 0, .string ⟨#[]⟩, .string ⟨#[]⟩, .int .u64 0] 33)).setCells w3.heap.size 0 (cdC C (.slice p2 C.nd.ls.length pc2) (.slice p3 C.nd.ts.length pc3) (.slice p4 C.td.ws.length pc4) (.slice p5 C.td.bs.length pc5))) b C (.slice p2 C.nd.ls.length pc2) (.slice p3 C.nd.ts.length pc3) (.slice p4 C.td.ws.length pc4) (.slice p5 C.td.bs.length pc5)) := ⟨_, k1.1.only ho (hn _ _ _ hr.1), k1.2.1.only ho (hn _ _ _ hr.2.1), k1.2.2.1.only ho (hn _ _ _ hr.2.2.1), k1.2.2.2.only ho (hn _ _ _ hr.2.2.2)⟩
    clear hn k1
    clear hb hm ha ho hbb hlt hr
    dsimp only
    refine ‹∀ (a : Act) (w : World), wpList Try.prog _ _ _ a w → _› _ _ ?_
    refine wpList_plain rfl fun K hK => ?_
    go_simp
    refine hK _ _ ?_
    clear hK K
    refine wpList_plain rfl fun K hK => ?_
    go_simp
    refine hK _ _ ?_
    clear hK K
    refine wpList_plain rfl fun K hK => ?_
    go_simp
    refine hK _ _ ?_
    clear hK K
    refine wpList_plain rfl fun K hK => ?_
    go_simp
    refine hK _ _ ?_
    clear hK K
    refine wpList_store_mid rfl 33 (.tmp 9) (.tmp 33) rfl w3.heap.size 0 (cdC C (.slice p2 C.nd.ls.length pc2) (.slice p3 C.nd.ts.length pc3) (.slice p4 C.td.ws.length pc4) (.slice p5 C.td.bs.length pc5)).toArray rfl rfl hth rfl (all_oneCell_toArray (cdC_one C (.slice p2 C.nd.ls.length pc2) (.slice p3 C.nd.ts.length pc3) (.slice p4 C.td.ws.length pc4) (.slice p5 C.td.bs.length pc5) rfl rfl rfl rfl)) ?_
    clear hth
    rw [show (cdC C (.slice p2 C.nd.ls.length pc2) (.slice p3 C.nd.ts.length pc3) (.slice p4 C.td.ws.length pc4) (.slice p5 C.td.bs.length pc5)).toArray.toList = cdC C (.slice p2 C.nd.ls.length pc2) (.slice p3 C.nd.ts.length pc3) (.slice p4 C.td.ws.length pc4) (.slice p5 C.td.bs.length pc5) from rfl]
    generalize ((w3.alloc (.cells #[.int .u64 0, .int .u64 0, .int .u8 0, .string ⟨#[]⟩, .int .i64 0, .int .i64 0, .int .i64 0, .slice none 0 0, .slice none 0 0, .string ⟨#[]⟩, .int .i64 0, .int .i64 0, .int .i64 0, .slice none 0 0, .slice none 0 0, .string ⟨#[]⟩, .string ⟨#[]⟩, .int .i64 0, .string ⟨#[]⟩, .string ⟨#[]⟩, .int .u64 0] 33)).setCells w3.heap.size 0 (cdC C (.slice p2 C.nd.ls.length pc2) (.slice p3 C.nd.ts.length pc3) (.slice p4 C.td.ws.length pc4) (.slice p5 C.td.bs.length pc5))) = Vw3 at *
    generalize w3.heap.size = Nw3 at *
    go_wp2_with fail
    refine (KD2.out _).mono ?_
    rintro e w4 ⟨u2, u3, u4, u5, rfl, hr, hb⟩
    obtain ⟨e2, ec2, rfl⟩ := hr.1.slice
    obtain ⟨e3, ec3, rfl⟩ := hr.2.1.slice
    obtain ⟨e4, ec4, rfl⟩ := hr.2.2.1.slice
    obtain ⟨e5, ec5, rfl⟩ := hr.2.2.2.slice
    have hm : Bxn (w4.alloc (.cells #[.int .u64 0, .int .u64 0, .int .u8 0, .string ⟨#[]⟩, .int .i64 0, .int .i64 0, .int .i64 0, .slice none 0 0, .slice none 0 0, .string ⟨#[]⟩, .int .i64 0, .int .i64 0, .int .i64 0, .slice none 0 0, .slice none 0 0, .string ⟨#[]⟩, .string ⟨#[]⟩, .int .i64 0, .string ⟨#[]⟩, .string ⟨#[]⟩, .int .u64 0] 33)) w4.heap.size [.int .u64 0, .int .u64 0, .int .u8 0, .string ⟨#[]⟩, .int .i64 0, .int .i64 0, .int .i64 0, .slice none 0 0, .slice none 0 0, .string ⟨#[]⟩, .int .i64 0, .int .i64 0, .int .i64 0, .slice none 0 0, .slice none 0 0, .string ⟨#[]⟩, .string ⟨#[]⟩, .int .i64 0, .string ⟨#[]⟩, .string ⟨#[]⟩, .int .u64 0] := Bxn.made _ _ _
    have hth := hm.there 21 rfl
    have ha : Below w4.heap.size w4 (w4.alloc (.cells #[.int .u64 0, .int .u64 0, .int .u8 0, .string ⟨#[]⟩, .int .i64 0, .int .i64 0, .int .i64 0, .slice none 0 0, .slice none 0 0, .string ⟨#[]⟩, .int .i64 0, .int .i64 0, .int .i64 0, .slice none 0 0, .slice none 0 0, .string ⟨#[]⟩, .string ⟨#[]⟩, .int .i64 0, .string ⟨#[]⟩, .string ⟨#[]⟩, .int .u64 0] 33)) := (Below.refl _ _).alloc (Nat.le_refl _) _
    have ho := only_setCells w4.heap.size (cdC (cd0 0 0 0) (.slice e2 (cd0 0 0 0).nd.ls.length ec2) (.slice e3 (cd0 0 0 0).nd.ts.length ec3) (.slice e4 (cd0 0 0 0).td.ws.length ec4) (.slice e5 (cd0 0 0 0).td.bs.length ec5)) 0 (w4.alloc (.cells #[.int .u64 0, .int .u64 0, .int .u8 0, .string ⟨#[]⟩, .int .i64 0, .int .i64 0, .int .i64 0, .slice none 0 0, .slice none 0 0, .string ⟨#[]⟩, .int .i64 0, .int .i64 0, .int .i64 0, .slice none 0 0, .slice none 0 0, .string ⟨#[]⟩, .string ⟨#[]⟩, .int .i64 0, .string ⟨#[]⟩, .string ⟨#[]⟩, .int .u64 0] 33))
    have hbb := HBw3.out.below hb
    have hlt := hbb.bz.lt
    have HBw4 : Hid (Bb w (cdC C v2 v3 v4 v5) [.int .i64 why, .string ts] ((w4.alloc (.cells #[.int .u64 0, .int .u64 0, .int .u8 0, .string ⟨#[]⟩, .int .i64 0, .int .i64 0, .int .i64 0, .slice none 0 0, .slice none 0 0, .string ⟨#[]⟩, .int .i64 0, .int .i64 0, .int .i64 0, .slice none 0 0, .slice none 0 0, .string ⟨#[]⟩, .string ⟨#[]⟩, .int .i64 0, .string ⟨#[]⟩, .string ⟨#[]⟩, .int .u64 0] 33)).setCells w4.heap.size 0 (cdC (cd0 0 0 0) (.slice e2 (cd0 0 0 0).nd.ls.length ec2) (.slice e3 (cd0 0 0 0).nd.ts.length ec3) (.slice e4 (cd0 0 0 0).td.ws.length ec4) (.slice e5 (cd0 0 0 0).td.bs.length ec5)))) := (hbb.below ha).off ho hlt
    have hld := HDw3.out.lt
    obtain ⟨bb, hrr⟩ := HRw3.out
    have hsz := hb.size
    have HDw3' : Hid (Bxn ((w4.alloc (.cells #[.int .u64 0, .int .u64 0, .int .u8 0, .string ⟨#[]⟩, .int .i64 0, .int .i64 0, .int .i64 0, .slice none 0 0, .slice none 0 0, .string ⟨#[]⟩, .int .i64 0, .int .i64 0, .int .i64 0, .slice none 0 0, .slice none 0 0, .string ⟨#[]⟩, .string ⟨#[]⟩, .int .i64 0, .string ⟨#[]⟩, .string ⟨#[]⟩, .int .u64 0] 33)).setCells w4.heap.size 0 (cdC (cd0 0 0 0) (.slice e2 (cd0 0 0 0).nd.ls.length ec2) (.slice e3 (cd0 0 0 0).nd.ts.length ec3) (.slice e4 (cd0 0 0 0).td.ws.length ec4) (.slice e5 (cd0 0 0 0).td.bs.length ec5))) Nw3 (cdC C (.slice p2 C.nd.ls.length pc2) (.slice p3 C.nd.ts.length pc3) (.slice p4 C.td.ws.length pc4) (.slice p5 C.td.bs.length pc5))) := ((HDw3.out.below hb).below ha).only ho (by omega)
    have hn : ∀ v ps b, OwnP w4 b v ps → v.ownBlock ≠ some w4.heap.size := fun v ps b h => h.blk (Nat.le_refl _)
    have k0 := hrr.below hb
    have k1 := k0.below ha
    have HRw3' : Hid (∃ b, Rows ((w4.alloc (.cells #[.int .u64 0, .int .u64 0, .int .u8 0, .string ⟨#[]⟩, .int .i64 0, .int .i64 0, .int .i64 0, .slice none 0 0, .slice none 0 0, .string ⟨#[]⟩, .int .i64 0, .int .i64 0, .int .i64 0, .slice none 0 0, .slice none 0 0, .string ⟨#[]⟩, .string ⟨#[]⟩, .int .i64 0, .string ⟨#[]⟩, .string ⟨#[]⟩, .int .u64 0] 33)).setCells w4.heap.size 0 (cdC (cd0 0 0 0) (.slice e2 (cd0 0 0 0).nd.ls.length ec2) (.slice e3 (cd0 0 0 0).nd.ts.length ec3) (.slice e4 (cd0 0 0 0).td.ws.length ec4) (.slice e5 (cd0 0 0 0).td.bs.length ec5))) b C (.slice p2 C.nd.ls.length pc2) (.slice p3 C.nd.ts.length pc3) (.slice p4 C.td.ws.length pc4) (.slice p5 C.td.bs.length pc5)) := ⟨_, k1.1.only ho (hn _ _ _ k0.1), k1.2.1.only ho (hn _ _ _ k0.2.1), k1.2.2.1.only ho (hn _ _ _ k0.2.2.1), k1.2.2.2.only ho (hn _ _ _ k0.2.2.2)⟩
    clear hn k1 k0 hld hrr hsz HDw3 HRw3
    have HDw3 := HDw3'
    have HRw3 := HRw3'
    clear HDw3' HRw3'
    clear hb hm ha ho hbb hlt hr
    dsimp only
    refine ‹∀ (a : Act) (w : World), wpList Try.prog _ _ _ a w → _› _ _ ?_
    refine wpList_plain rfl fun K hK => ?_
    go_simp
    refine hK _ _ ?_
    clear hK K
    refine wpList_plain rfl fun K hK => ?_
    go_simp
    refine hK _ _ ?_
    clear hK K
    refine wpList_plain rfl fun K hK => ?_
    go_simp
    refine hK _ _ ?_
    clear hK K
    refine wpList_plain rfl fun K hK => ?_
    go_simp
    refine hK _ _ ?_
    clear hK K
    refine wpList_store_mid rfl 33 (.tmp 11) (.tmp 39) rfl w4.heap.size 0 (cdC (cd0 0 0 0) (.slice e2 (cd0 0 0 0).nd.ls.length ec2) (.slice e3 (cd0 0 0 0).nd.ts.length ec3) (.slice e4 (cd0 0 0 0).td.ws.length ec4) (.slice e5 (cd0 0 0 0).td.bs.length ec5)).toArray rfl rfl hth rfl (all_oneCell_toArray (cdC_one (cd0 0 0 0) (.slice e2 (cd0 0 0 0).nd.ls.length ec2) (.slice e3 (cd0 0 0 0).nd.ts.length ec3) (.slice e4 (cd0 0 0 0).td.ws.length ec4) (.slice e5 (cd0 0 0 0).td.bs.length ec5) rfl rfl rfl rfl)) ?_
    clear hth
    rw [show (cdC (cd0 0 0 0) (.slice e2 (cd0 0 0 0).nd.ls.length ec2) (.slice e3 (cd0 0 0 0).nd.ts.length ec3) (.slice e4 (cd0 0 0 0).td.ws.length ec4) (.slice e5 (cd0 0 0 0).td.bs.length ec5)).toArray.toList = cdC (cd0 0 0 0) (.slice e2 (cd0 0 0 0).nd.ls.length ec2) (.slice e3 (cd0 0 0 0).nd.ts.length ec3) (.slice e4 (cd0 0 0 0).td.ws.length ec4) (.slice e5 (cd0 0 0 0).td.bs.length ec5) from rfl]
    generalize ((w4.alloc (.cells #[.int .u64 0, .int .u64 0, .int .u8 0, .string ⟨#[]⟩, .int .i64 0, .int .i64 0, .int .i64 0, .slice none 0 0, .slice none 0 0, .string ⟨#[]⟩, .int .i64 0, .int .i64 0, .int .i64 0, .slice none 0 0, .slice none 0 0, .string ⟨#[]⟩, .string ⟨#[]⟩, .int .i64 0, .string ⟨#[]⟩, .string ⟨#[]⟩, .int .u64 0] 33)).setCells w4.heap.size 0 (cdC (cd0 0 0 0) (.slice e2 (cd0 0 0 0).nd.ls.length ec2) (.slice e3 (cd0 0 0 0).nd.ts.length ec3) (.slice e4 (cd0 0 0 0).td.ws.length ec4) (.slice e5 (cd0 0 0 0).td.bs.length ec5))) = Vw4 at *
    go_wp2_with fail
    refine (KD4.out _).mono ?_
    rintro e w5 ⟨u2, u3, u4, u5, rfl, hr, hb⟩
    obtain ⟨f2, fc2, rfl⟩ := hr.1.slice
    obtain ⟨f3, fc3, rfl⟩ := hr.2.1.slice
    obtain ⟨f4, fc4, rfl⟩ := hr.2.2.1.slice
    obtain ⟨f5, fc5, rfl⟩ := hr.2.2.2.slice
    have hm : Bxn (w5.alloc (.cells #[.int .u64 0, .int .u64 0, .int .u8 0, .string ⟨#[]⟩, .int .i64 0, .int .i64 0, .int .i64 0, .slice none 0 0, .slice none 0 0, .string ⟨#[]⟩, .int .i64 0, .int .i64 0, .int .i64 0, .slice none 0 0, .slice none 0 0, .string ⟨#[]⟩, .string ⟨#[]⟩, .int .i64 0, .string ⟨#[]⟩, .string ⟨#[]⟩, .int .u64 0] 33)) w5.heap.size [.int .u64 0, .int .u64 0, .int .u8 0, .string ⟨#[]⟩, .int .i64 0, .int .i64 0, .int .i64 0, .slice none 0 0, .slice none 0 0, .string ⟨#[]⟩, .int .i64 0, .int .i64 0, .int .i64 0, .slice none 0 0, .slice none 0 0, .string ⟨#[]⟩, .string ⟨#[]⟩, .int .i64 0, .string ⟨#[]⟩, .string ⟨#[]⟩, .int .u64 0] := Bxn.made _ _ _
    have hth := hm.there 21 rfl
    have ha : Below w5.heap.size w5 (w5.alloc (.cells #[.int .u64 0, .int .u64 0, .int .u8 0, .string ⟨#[]⟩, .int .i64 0, .int .i64 0, .int .i64 0, .slice none 0 0, .slice none 0 0, .string ⟨#[]⟩, .int .i64 0, .int .i64 0, .int .i64 0, .slice none 0 0, .slice none 0 0, .string ⟨#[]⟩, .string ⟨#[]⟩, .int .i64 0, .string ⟨#[]⟩, .string ⟨#[]⟩, .int .u64 0] 33)) := (Below.refl _ _).alloc (Nat.le_refl _) _
    have ho := only_setCells w5.heap.size (cdC (cd0 0 0 0) (.slice f2 (cd0 0 0 0).nd.ls.length fc2) (.slice f3 (cd0 0 0 0).nd.ts.length fc3) (.slice f4 (cd0 0 0 0).td.ws.length fc4) (.slice f5 (cd0 0 0 0).td.bs.length fc5)) 0 (w5.alloc (.cells #[.int .u64 0, .int .u64 0, .int .u8 0, .string ⟨#[]⟩, .int .i64 0, .int .i64 0, .int .i64 0, .slice none 0 0, .slice none 0 0, .string ⟨#[]⟩, .int .i64 0, .int .i64 0, .int .i64 0, .slice none 0 0, .slice none 0 0, .string ⟨#[]⟩, .string ⟨#[]⟩, .int .i64 0, .string ⟨#[]⟩, .string ⟨#[]⟩, .int .u64 0] 33))
    have hbb := HBw4.out.below hb
    have hlt := hbb.bz.lt
    have HBw5 : Hid (Bb w (cdC C v2 v3 v4 v5) [.int .i64 why, .string ts] ((w5.alloc (.cells #[.int .u64 0, .int .u64 0, .int .u8 0, .string ⟨#[]⟩, .int .i64 0, .int .i64 0, .int .i64 0, .slice none 0 0, .slice none 0 0, .string ⟨#[]⟩, .int .i64 0, .int .i64 0, .int .i64 0, .slice none 0 0, .slice none 0 0, .string ⟨#[]⟩, .string ⟨#[]⟩, .int .i64 0, .string ⟨#[]⟩, .string ⟨#[]⟩, .int .u64 0] 33)).setCells w5.heap.size 0 (cdC (cd0 0 0 0) (.slice f2 (cd0 0 0 0).nd.ls.length fc2) (.slice f3 (cd0 0 0 0).nd.ts.length fc3) (.slice f4 (cd0 0 0 0).td.ws.length fc4) (.slice f5 (cd0 0 0 0).td.bs.length fc5)))) := (hbb.below ha).off ho hlt
    have hld := HDw3.out.lt
    obtain ⟨bb, hrr⟩ := HRw3.out
    have hsz := hb.size
    have HDw3' : Hid (Bxn ((w5.alloc (.cells #[.int .u64 0, .int .u64 0, .int .u8 0, .string ⟨#[]⟩, .int .i64 0, .int .i64 0, .int .i64 0, .slice none 0 0, .slice none 0 0, .string ⟨#[]⟩, .int .i64 0, .int .i64 0, .int .i64 0, .slice none 0 0, .slice none 0 0, .string ⟨#[]⟩, .string ⟨#[]⟩, .int .i64 0, .string ⟨#[]⟩, .string ⟨#[]⟩, .int .u64 0] 33)).setCells w5.heap.size 0 (cdC (cd0 0 0 0) (.slice f2 (cd0 0 0 0).nd.ls.length fc2) (.slice f3 (cd0 0 0 0).nd.ts.length fc3) (.slice f4 (cd0 0 0 0).td.ws.length fc4) (.slice f5 (cd0 0 0 0).td.bs.length fc5))) Nw3 (cdC C (.slice p2 C.nd.ls.length pc2) (.slice p3 C.nd.ts.length pc3) (.slice p4 C.td.ws.length pc4) (.slice p5 C.td.bs.length pc5))) := ((HDw3.out.below hb).below ha).only ho (by omega)
    have hn : ∀ v ps b, OwnP w5 b v ps → v.ownBlock ≠ some w5.heap.size := fun v ps b h => h.blk (Nat.le_refl _)
    have k0 := hrr.below hb
    have k1 := k0.below ha
    have HRw3' : Hid (∃ b, Rows ((w5.alloc (.cells #[.int .u64 0, .int .u64 0, .int .u8 0, .string ⟨#[]⟩, .int .i64 0, .int .i64 0, .int .i64 0, .slice none 0 0, .slice none 0 0, .string ⟨#[]⟩, .int .i64 0, .int .i64 0, .int .i64 0, .slice none 0 0, .slice none 0 0, .string ⟨#[]⟩, .string ⟨#[]⟩, .int .i64 0, .string ⟨#[]⟩, .string ⟨#[]⟩, .int .u64 0] 33)).setCells w5.heap.size 0 (cdC (cd0 0 0 0) (.slice f2 (cd0 0 0 0).nd.ls.length fc2) (.slice f3 (cd0 0 0 0).nd.ts.length fc3) (.slice f4 (cd0 0 0 0).td.ws.length fc4) (.slice f5 (cd0 0 0 0).td.bs.length fc5))) b C (.slice p2 C.nd.ls.length pc2) (.slice p3 C.nd.ts.length pc3) (.slice p4 C.td.ws.length pc4) (.slice p5 C.td.bs.length pc5)) := ⟨_, k1.1.only ho (hn _ _ _ k0.1), k1.2.1.only ho (hn _ _ _ k0.2.1), k1.2.2.1.only ho (hn _ _ _ k0.2.2.1), k1.2.2.2.only ho (hn _ _ _ k0.2.2.2)⟩
    clear hn k1 k0 hld hrr hsz HDw3 HRw3
    have HDw3 := HDw3'
    have HRw3 := HRw3'
    clear HDw3' HRw3'
    clear hb hm ha ho hbb hlt hr
    dsimp only
    refine ‹∀ (a : Act) (w : World), wpList Try.prog _ _ _ a w → _› _ _ ?_
    refine wpList_plain rfl fun K hK => ?_
    go_simp
    refine hK _ _ ?_
    clear hK K
    refine wpList_plain rfl fun K hK => ?_
    go_simp
    refine hK _ _ ?_
    clear hK K
    refine wpList_plain rfl fun K hK => ?_
    go_simp
    refine hK _ _ ?_
    clear hK K
    refine wpList_plain rfl fun K hK => ?_
    go_simp
    refine hK _ _ ?_
    clear hK K
    refine wpList_store_mid rfl 33 (.tmp 13) (.tmp 48) rfl w5.heap.size 0 (cdC (cd0 0 0 0) (.slice f2 (cd0 0 0 0).nd.ls.length fc2) (.slice f3 (cd0 0 0 0).nd.ts.length fc3) (.slice f4 (cd0 0 0 0).td.ws.length fc4) (.slice f5 (cd0 0 0 0).td.bs.length fc5)).toArray rfl rfl hth rfl (all_oneCell_toArray (cdC_one (cd0 0 0 0) (.slice f2 (cd0 0 0 0).nd.ls.length fc2) (.slice f3 (cd0 0 0 0).nd.ts.length fc3) (.slice f4 (cd0 0 0 0).td.ws.length fc4) (.slice f5 (cd0 0 0 0).td.bs.length fc5) rfl rfl rfl rfl)) ?_
    clear hth
    rw [show (cdC (cd0 0 0 0) (.slice f2 (cd0 0 0 0).nd.ls.length fc2) (.slice f3 (cd0 0 0 0).nd.ts.length fc3) (.slice f4 (cd0 0 0 0).td.ws.length fc4) (.slice f5 (cd0 0 0 0).td.bs.length fc5)).toArray.toList = cdC (cd0 0 0 0) (.slice f2 (cd0 0 0 0).nd.ls.length fc2) (.slice f3 (cd0 0 0 0).nd.ts.length fc3) (.slice f4 (cd0 0 0 0).td.ws.length fc4) (.slice f5 (cd0 0 0 0).td.bs.length fc5) from rfl]
    generalize ((w5.alloc (.cells #[.int .u64 0, .int .u64 0, .int .u8 0, .string ⟨#[]⟩, .int .i64 0, .int .i64 0, .int .i64 0, .slice none 0 0, .slice none 0 0, .string ⟨#[]⟩, .int .i64 0, .int .i64 0, .int .i64 0, .slice none 0 0, .slice none 0 0, .string ⟨#[]⟩, .string ⟨#[]⟩, .int .i64 0, .string ⟨#[]⟩, .string ⟨#[]⟩, .int .u64 0] 33)).setCells w5.heap.size 0 (cdC (cd0 0 0 0) (.slice f2 (cd0 0 0 0).nd.ls.length fc2) (.slice f3 (cd0 0 0 0).nd.ts.length fc3) (.slice f4 (cd0 0 0 0).td.ws.length fc4) (.slice f5 (cd0 0 0 0).td.bs.length fc5))) = Vw5 at *
    obtain ⟨bb, hrr⟩ := HRw3.out
    have HP5 := Lib.hid (hrr.prs HT1.out)
    have R5 := Lib.hid (HBw5.out.bx.range 0)
    have R6 := Lib.hid (HDw3.out.range 0)
    clear hrr
    go_upto_region 8 with fail
    refine wp_region_list ?_
    refine wpList_plain rfl fun K hK => ?_
    go_simp
    refine hK _ _ ?_
    clear hK K
    refine wpList_plain rfl fun K hK => ?_
    go_simp
    refine hK _ _ ?_
    clear hK K
    refine wpList_plain rfl fun K hK => ?_
    go_simp
    refine hK _ _ ?_
    clear hK K
    refine wl_load_want rfl 33 (.tmp 3) rfl w.heap.size 0 rfl (cdC C v2 v3 v4 v5) _ R5.out Try.underlying33 rfl rfl ?_
    refine wl_load_want rfl 33 (.tmp 9) rfl Nw3 0 rfl (cdC C (.slice p2 C.nd.ls.length pc2) (.slice p3 C.nd.ts.length pc3) (.slice p4 C.td.ws.length pc4) (.slice p5 C.td.bs.length pc5)) _ R6.out Try.underlying33 rfl rfl ?_
    go_wp2_with fail
    refine (KS.out _ _ _ _ _ HBw5.out.be HP5.out).mono ?_
    rintro e x6 ⟨rfl, hb⟩
    have HBx6 := Lib.hid (HBw5.out.below hb)
    clear hb HP5 R5 R6 HRw3 HDw3 KD1 KD2 KD4 KE KS tq tz mq h1
    have c0 : x6.cell? ⟨w.heap.size + 1, 0, none⟩ = some (.int .i64 why) := HBx6.out.bz.cell 0
    have c1 : x6.cell? ⟨w.heap.size + 1, 1, none⟩ = some (.string ts) := HBx6.out.bz.cell 1
    cases htk : tdOk why ts with
    | false =>
      have KT := Lib.hid (tenc_no why ts htk)
      clear htk
      go_wp2_with fail
      refine (KT.out _).mono ?_
      rintro e w7 ⟨rfl, hb⟩
      have HB7 := Lib.hid (HBx6.out.below hb)
      clear hb c0 c1
      cases hds : dcOk s.data.toList with
      | false =>
        have KD3 : Hid (∀ z, Calls Try.prog 12 #[.string s] z fun e w' => ∃ v2 v3 v4 v5, e = .returned (.tuple #[.agg (cdC (cd0 0 0 0) v2 v3 v4 v5).toArray, .int .i64 4]) ∧ Rows w' z.heap.size (cd0 0 0 0) v2 v3 v4 v5 ∧ Below z.heap.size z w') := fun z => by
          have := dec_no s.data.toList (by exact hs) hds z
          rw [bs_of] at this
          exact this
        clear hds hs
        go_wp2_with fail
        refine (KD3.out _).mono ?_
        rintro e w9 ⟨u2, u3, u4, u5, rfl, hr, hb⟩
        obtain ⟨r2, rc2, rfl⟩ := hr.1.slice
        obtain ⟨r3, rc3, rfl⟩ := hr.2.1.slice
        obtain ⟨r4, rc4, rfl⟩ := hr.2.2.1.slice
        obtain ⟨r5, rc5, rfl⟩ := hr.2.2.2.slice
        have hm : Bxn (w9.alloc (.cells #[.int .u64 0, .int .u64 0, .int .u8 0, .string ⟨#[]⟩, .int .i64 0, .int .i64 0, .int .i64 0, .slice none 0 0, .slice none 0 0, .string ⟨#[]⟩, .int .i64 0, .int .i64 0, .int .i64 0, .slice none 0 0, .slice none 0 0, .string ⟨#[]⟩, .string ⟨#[]⟩, .int .i64 0, .string ⟨#[]⟩, .string ⟨#[]⟩, .int .u64 0] 33)) w9.heap.size [.int .u64 0, .int .u64 0, .int .u8 0, .string ⟨#[]⟩, .int .i64 0, .int .i64 0, .int .i64 0, .slice none 0 0, .slice none 0 0, .string ⟨#[]⟩, .int .i64 0, .int .i64 0, .int .i64 0, .slice none 0 0, .slice none 0 0, .string ⟨#[]⟩, .string ⟨#[]⟩, .int .i64 0, .string ⟨#[]⟩, .string ⟨#[]⟩, .int .u64 0] := Bxn.made _ _ _
        have hth := hm.there 21 rfl
        have ha : Below w9.heap.size w9 (w9.alloc (.cells #[.int .u64 0, .int .u64 0, .int .u8 0, .string ⟨#[]⟩, .int .i64 0, .int .i64 0, .int .i64 0, .slice none 0 0, .slice none 0 0, .string ⟨#[]⟩, .int .i64 0, .int .i64 0, .int .i64 0, .slice none 0 0, .slice none 0 0, .string ⟨#[]⟩, .string ⟨#[]⟩, .int .i64 0, .string ⟨#[]⟩, .string ⟨#[]⟩, .int .u64 0] 33)) := (Below.refl _ _).alloc (Nat.le_refl _) _
        have ho := only_setCells w9.heap.size (cdC (cd0 0 0 0) (.slice r2 (cd0 0 0 0).nd.ls.length rc2) (.slice r3 (cd0 0 0 0).nd.ts.length rc3) (.slice r4 (cd0 0 0 0).td.ws.length rc4) (.slice r5 (cd0 0 0 0).td.bs.length rc5)) 0 (w9.alloc (.cells #[.int .u64 0, .int .u64 0, .int .u8 0, .string ⟨#[]⟩, .int .i64 0, .int .i64 0, .int .i64 0, .slice none 0 0, .slice none 0 0, .string ⟨#[]⟩, .int .i64 0, .int .i64 0, .int .i64 0, .slice none 0 0, .slice none 0 0, .string ⟨#[]⟩, .string ⟨#[]⟩, .int .i64 0, .string ⟨#[]⟩, .string ⟨#[]⟩, .int .u64 0] 33))
        have hbb := HB7.out.below hb
        have hlt := hbb.bz.lt
        have HBw9 : Hid (Bb w (cdC C v2 v3 v4 v5) [.int .i64 why, .string ts] ((w9.alloc (.cells #[.int .u64 0, .int .u64 0, .int .u8 0, .string ⟨#[]⟩, .int .i64 0, .int .i64 0, .int .i64 0, .slice none 0 0, .slice none 0 0, .string ⟨#[]⟩, .int .i64 0, .int .i64 0, .int .i64 0, .slice none 0 0, .slice none 0 0, .string ⟨#[]⟩, .string ⟨#[]⟩, .int .i64 0, .string ⟨#[]⟩, .string ⟨#[]⟩, .int .u64 0] 33)).setCells w9.heap.size 0 (cdC (cd0 0 0 0) (.slice r2 (cd0 0 0 0).nd.ls.length rc2) (.slice r3 (cd0 0 0 0).nd.ts.length rc3) (.slice r4 (cd0 0 0 0).td.ws.length rc4) (.slice r5 (cd0 0 0 0).td.bs.length rc5)))) := (hbb.below ha).off ho hlt
        have HDw9 : Hid (Bxn ((w9.alloc (.cells #[.int .u64 0, .int .u64 0, .int .u8 0, .string ⟨#[]⟩, .int .i64 0, .int .i64 0, .int .i64 0, .slice none 0 0, .slice none 0 0, .string ⟨#[]⟩, .int .i64 0, .int .i64 0, .int .i64 0, .slice none 0 0, .slice none 0 0, .string ⟨#[]⟩, .string ⟨#[]⟩, .int .i64 0, .string ⟨#[]⟩, .string ⟨#[]⟩, .int .u64 0] 33)).setCells w9.heap.size 0 (cdC (cd0 0 0 0) (.slice r2 (cd0 0 0 0).nd.ls.length rc2) (.slice r3 (cd0 0 0 0).nd.ts.length rc3) (.slice r4 (cd0 0 0 0).td.ws.length rc4) (.slice r5 (cd0 0 0 0).td.bs.length rc5))) w9.heap.size (cdC (cd0 0 0 0) (.slice r2 (cd0 0 0 0).nd.ls.length rc2) (.slice r3 (cd0 0 0 0).nd.ts.length rc3) (.slice r4 (cd0 0 0 0).td.ws.length rc4) (.slice r5 (cd0 0 0 0).td.bs.length rc5))) := hm.all _ rfl
        have hn : ∀ v ps b, OwnP w9 b v ps → v.ownBlock ≠ some w9.heap.size := fun v ps b h => h.blk (Nat.le_refl _)
        have k1 := hr.below ha
        have HRw9 : Hid (∃ b, Rows ((w9.alloc (.cells #[.int .u64 0, .int .u64 0, .int .u8 0, .string ⟨#[]⟩, .int .i64 0, .int .i64 0, .int .i64 0, .slice none 0 0, .slice none 0 0, .string ⟨#[]⟩, .int .i64 0, .int .i64 0, .int .i64 0, .slice none 0 0, .slice none 0 0, .string ⟨#[]⟩, .string ⟨#[]⟩, .int .i64 0, .string ⟨#[]⟩, .string ⟨#[]⟩, .int .u64 0] 33)).setCells w9.heap.size 0 (cdC (cd0 0 0 0) (.slice r2 (cd0 0 0 0).nd.ls.length rc2) (.slice r3 (cd0 0 0 0).nd.ts.length rc3) (.slice r4 (cd0 0 0 0).td.ws.length rc4) (.slice r5 (cd0 0 0 0).td.bs.length rc5))) b (cd0 0 0 0) (.slice r2 (cd0 0 0 0).nd.ls.length rc2) (.slice r3 (cd0 0 0 0).nd.ts.length rc3) (.slice r4 (cd0 0 0 0).td.ws.length rc4) (.slice r5 (cd0 0 0 0).td.bs.length rc5)) := ⟨_, k1.1.only ho (hn _ _ _ hr.1), k1.2.1.only ho (hn _ _ _ hr.2.1), k1.2.2.1.only ho (hn _ _ _ hr.2.2.1), k1.2.2.2.only ho (hn _ _ _ hr.2.2.2)⟩
        clear hn k1
        clear hb hm ha ho hbb hlt hr
        dsimp only
        refine ‹∀ (a : Act) (w : World), wpList Try.prog _ _ _ a w → _› _ _ ?_
        refine wpList_plain rfl fun K hK => ?_
        go_simp
        refine hK _ _ ?_
        clear hK K
        refine wpList_plain rfl fun K hK => ?_
        go_simp
        refine hK _ _ ?_
        clear hK K
        refine wpList_plain rfl fun K hK => ?_
        go_simp
        refine hK _ _ ?_
        clear hK K
        refine wpList_plain rfl fun K hK => ?_
        go_simp
        refine hK _ _ ?_
        clear hK K
        refine wpList_store_mid rfl 33 (.tmp 18) (.tmp 88) rfl w9.heap.size 0 (cdC (cd0 0 0 0) (.slice r2 (cd0 0 0 0).nd.ls.length rc2) (.slice r3 (cd0 0 0 0).nd.ts.length rc3) (.slice r4 (cd0 0 0 0).td.ws.length rc4) (.slice r5 (cd0 0 0 0).td.bs.length rc5)).toArray rfl rfl hth rfl (all_oneCell_toArray (cdC_one (cd0 0 0 0) (.slice r2 (cd0 0 0 0).nd.ls.length rc2) (.slice r3 (cd0 0 0 0).nd.ts.length rc3) (.slice r4 (cd0 0 0 0).td.ws.length rc4) (.slice r5 (cd0 0 0 0).td.bs.length rc5) rfl rfl rfl rfl)) ?_
        clear hth
        rw [show (cdC (cd0 0 0 0) (.slice r2 (cd0 0 0 0).nd.ls.length rc2) (.slice r3 (cd0 0 0 0).nd.ts.length rc3) (.slice r4 (cd0 0 0 0).td.ws.length rc4) (.slice r5 (cd0 0 0 0).td.bs.length rc5)).toArray.toList = cdC (cd0 0 0 0) (.slice r2 (cd0 0 0 0).nd.ls.length rc2) (.slice r3 (cd0 0 0 0).nd.ts.length rc3) (.slice r4 (cd0 0 0 0).td.ws.length rc4) (.slice r5 (cd0 0 0 0).td.bs.length rc5) from rfl]
        generalize ((w9.alloc (.cells #[.int .u64 0, .int .u64 0, .int .u8 0, .string ⟨#[]⟩, .int .i64 0, .int .i64 0, .int .i64 0, .slice none 0 0, .slice none 0 0, .string ⟨#[]⟩, .int .i64 0, .int .i64 0, .int .i64 0, .slice none 0 0, .slice none 0 0, .string ⟨#[]⟩, .string ⟨#[]⟩, .int .i64 0, .string ⟨#[]⟩, .string ⟨#[]⟩, .int .u64 0] 33)).setCells w9.heap.size 0 (cdC (cd0 0 0 0) (.slice r2 (cd0 0 0 0).nd.ls.length rc2) (.slice r3 (cd0 0 0 0).nd.ts.length rc3) (.slice r4 (cd0 0 0 0).td.ws.length rc4) (.slice r5 (cd0 0 0 0).td.bs.length rc5))) = Vw9 at *
        generalize w9.heap.size = Nw9 at *
        obtain ⟨bb, hrr⟩ := HRw9.out
        have HP9 := Lib.hid (hrr.prs ⟨nil_took _, nil_took _, nil_took _, nil_took _⟩)
        have R9 := Lib.hid (HDw9.out.range 0)
        clear hrr
        go_upto_region 17 with fail
        refine wp_region_list ?_
        refine wpList_load_mid rfl 33 (.tmp 18) rfl Nw9 0 rfl (cdC (cd0 0 0 0) (.slice r2 (cd0 0 0 0).nd.ls.length rc2) (.slice r3 (cd0 0 0 0).nd.ts.length rc3) (.slice r4 (cd0 0 0 0).td.ws.length rc4) (.slice r5 (cd0 0 0 0).td.bs.length rc5)) _ R9.out Try.underlying33 rfl rfl ?_
        refine wpList_plain rfl fun K hK => ?_
        go_simp
        refine hK _ _ ?_
        clear hK K
        go_wp2_with fail
        refine (same_cmd (cd0 0 0 0) (cd0 0 0 0) _ _ _ _ nilS nilS nilS nilS _ HP9.out ⟨Rg.Pairs.none_ _ _, Rg.Pairs.none_ _ _, Rg.Pairs.none_ _ _, Rg.Pairs.none_ _ _⟩).mono ?_
        rintro e w10 ⟨rfl, hb⟩
        have HB10 := Lib.hid (HBw9.out.below hb)
        rw [smC_iff.2 rfl]
        clear hb
        go_wp2
        go_ret
        exact ⟨rfl, HB10.out.be⟩
      | true =>
        have ht3 := cmT_took s.data.toList (by exact hs)
        have HT3 := Lib.hid ht3
        have hf3 := cm_forth hds
        have KD3 : Hid (∀ z, Calls Try.prog 12 #[.string s] z fun e w' => ∃ v2 v3 v4 v5, e = .returned (.tuple #[.agg (cdC (cmT s.data.toList) v2 v3 v4 v5).toArray, .int .i64 0]) ∧ Rows w' z.heap.size (cmT s.data.toList) v2 v3 v4 v5 ∧ Below z.heap.size z w') := fun z => by
          have := dec_yes s.data.toList (by exact hs) hds z
          rw [bs_of] at this
          exact this
        have KE3 : Hid (∀ z u2 u3 u4 u5, PrsIn z z.heap.size (cmT s.data.toList) u2 u3 u4 u5 → Calls Try.prog 10 #[.agg (cdC (cmT s.data.toList) u2 u3 u4 u5).toArray] z fun e w' => e = .returned (.tuple #[.string s, .int .i64 0]) ∧ Below z.heap.size z w') := fun z u2 u3 u4 u5 hu => by
          have := enc_yes hu ht3.2.1 ht3.2.2 hf3.2 z (Below.refl _ _)
          rw [hf3.1, bs_of] at this
          exact this
        clear hds hs ht3 hf3
        generalize cmT s.data.toList = D at *
        go_wp2_with fail
        refine (KD3.out _).mono ?_
        rintro e w9 ⟨u2, u3, u4, u5, rfl, hr, hb⟩
        obtain ⟨r2, rc2, rfl⟩ := hr.1.slice
        obtain ⟨r3, rc3, rfl⟩ := hr.2.1.slice
        obtain ⟨r4, rc4, rfl⟩ := hr.2.2.1.slice
        obtain ⟨r5, rc5, rfl⟩ := hr.2.2.2.slice
        have hm : Bxn (w9.alloc (.cells #[.int .u64 0, .int .u64 0, .int .u8 0, .string ⟨#[]⟩, .int .i64 0, .int .i64 0, .int .i64 0, .slice none 0 0, .slice none 0 0, .string ⟨#[]⟩, .int .i64 0, .int .i64 0, .int .i64 0, .slice none 0 0, .slice none 0 0, .string ⟨#[]⟩, .string ⟨#[]⟩, .int .i64 0, .string ⟨#[]⟩, .string ⟨#[]⟩, .int .u64 0] 33)) w9.heap.size [.int .u64 0, .int .u64 0, .int .u8 0, .string ⟨#[]⟩, .int .i64 0, .int .i64 0, .int .i64 0, .slice none 0 0, .slice none 0 0, .string ⟨#[]⟩, .int .i64 0, .int .i64 0, .int .i64 0, .slice none 0 0, .slice none 0 0, .string ⟨#[]⟩, .string ⟨#[]⟩, .int .i64 0, .string ⟨#[]⟩, .string ⟨#[]⟩, .int .u64 0] := Bxn.made _ _ _
        have hth := hm.there 21 rfl
        have ha : Below w9.heap.size w9 (w9.alloc (.cells #[.int .u64 0, .int .u64 0, .int .u8 0, .string ⟨#[]⟩, .int .i64 0, .int .i64 0, .int .i64 0, .slice none 0 0, .slice none 0 0, .string ⟨#[]⟩, .int .i64 0, .int .i64 0, .int .i64 0, .slice none 0 0, .slice none 0 0, .string ⟨#[]⟩, .string ⟨#[]⟩, .int .i64 0, .string ⟨#[]⟩, .string ⟨#[]⟩, .int .u64 0] 33)) := (Below.refl _ _).alloc (Nat.le_refl _) _
        have ho := only_setCells w9.heap.size (cdC D (.slice r2 D.nd.ls.length rc2) (.slice r3 D.nd.ts.length rc3) (.slice r4 D.td.ws.length rc4) (.slice r5 D.td.bs.length rc5)) 0 (w9.alloc (.cells #[.int .u64 0, .int .u64 0, .int .u8 0, .string ⟨#[]⟩, .int .i64 0, .int .i64 0, .int .i64 0, .slice none 0 0, .slice none 0 0, .string ⟨#[]⟩, .int .i64 0, .int .i64 0, .int .i64 0, .slice none 0 0, .slice none 0 0, .string ⟨#[]⟩, .string ⟨#[]⟩, .int .i64 0, .string ⟨#[]⟩, .string ⟨#[]⟩, .int .u64 0] 33))
        have hbb := HB7.out.below hb
        have hlt := hbb.bz.lt
        have HBw9 : Hid (Bb w (cdC C v2 v3 v4 v5) [.int .i64 why, .string ts] ((w9.alloc (.cells #[.int .u64 0, .int .u64 0, .int .u8 0, .string ⟨#[]⟩, .int .i64 0, .int .i64 0, .int .i64 0, .slice none 0 0, .slice none 0 0, .string ⟨#[]⟩, .int .i64 0, .int .i64 0, .int .i64 0, .slice none 0 0, .slice none 0 0, .string ⟨#[]⟩, .string ⟨#[]⟩, .int .i64 0, .string ⟨#[]⟩, .string ⟨#[]⟩, .int .u64 0] 33)).setCells w9.heap.size 0 (cdC D (.slice r2 D.nd.ls.length rc2) (.slice r3 D.nd.ts.length rc3) (.slice r4 D.td.ws.length rc4) (.slice r5 D.td.bs.length rc5)))) := (hbb.below ha).off ho hlt
        have HDw9 : Hid (Bxn ((w9.alloc (.cells #[.int .u64 0, .int .u64 0, .int .u8 0, .string ⟨#[]⟩, .int .i64 0, .int .i64 0, .int .i64 0, .slice none 0 0, .slice none 0 0, .string ⟨#[]⟩, .int .i64 0, .int .i64 0, .int .i64 0, .slice none 0 0, .slice none 0 0, .string ⟨#[]⟩, .string ⟨#[]⟩, .int .i64 0, .string ⟨#[]⟩, .string ⟨#[]⟩, .int .u64 0] 33)).setCells w9.heap.size 0 (cdC D (.slice r2 D.nd.ls.length rc2) (.slice r3 D.nd.ts.length rc3) (.slice r4 D.td.ws.length rc4) (.slice r5 D.td.bs.length rc5))) w9.heap.size (cdC D (.slice r2 D.nd.ls.length rc2) (.slice r3 D.nd.ts.length rc3) (.slice r4 D.td.ws.length rc4) (.slice r5 D.td.bs.length rc5))) := hm.all _ rfl
        have hn : ∀ v ps b, OwnP w9 b v ps → v.ownBlock ≠ some w9.heap.size := fun v ps b h => h.blk (Nat.le_refl _)
        have k1 := hr.below ha
        have HRw9 : Hid (∃ b, Rows ((w9.alloc (.cells #[.int .u64 0, .int .u64 0, .int .u8 0, .string ⟨#[]⟩, .int .i64 0, .int .i64 0, .int .i64 0, .slice none 0 0, .slice none 0 0, .string ⟨#[]⟩, .int .i64 0, .int .i64 0, .int .i64 0, .slice none 0 0, .slice none 0 0, .string ⟨#[]⟩, .string ⟨#[]⟩, .int .i64 0, .string ⟨#[]⟩, .string ⟨#[]⟩, .int .u64 0] 33)).setCells w9.heap.size 0 (cdC D (.slice r2 D.nd.ls.length rc2) (.slice r3 D.nd.ts.length rc3) (.slice r4 D.td.ws.length rc4) (.slice r5 D.td.bs.length rc5))) b D (.slice r2 D.nd.ls.length rc2) (.slice r3 D.nd.ts.length rc3) (.slice r4 D.td.ws.length rc4) (.slice r5 D.td.bs.length rc5)) := ⟨_, k1.1.only ho (hn _ _ _ hr.1), k1.2.1.only ho (hn _ _ _ hr.2.1), k1.2.2.1.only ho (hn _ _ _ hr.2.2.1), k1.2.2.2.only ho (hn _ _ _ hr.2.2.2)⟩
        clear hn k1
        clear hb hm ha ho hbb hlt hr
        dsimp only
        refine ‹∀ (a : Act) (w : World), wpList Try.prog _ _ _ a w → _› _ _ ?_
        refine wpList_plain rfl fun K hK => ?_
        go_simp
        refine hK _ _ ?_
        clear hK K
        refine wpList_plain rfl fun K hK => ?_
        go_simp
        refine hK _ _ ?_
        clear hK K
        refine wpList_plain rfl fun K hK => ?_
        go_simp
        refine hK _ _ ?_
        clear hK K
        refine wpList_plain rfl fun K hK => ?_
        go_simp
        refine hK _ _ ?_
        clear hK K
        refine wpList_store_mid rfl 33 (.tmp 18) (.tmp 88) rfl w9.heap.size 0 (cdC D (.slice r2 D.nd.ls.length rc2) (.slice r3 D.nd.ts.length rc3) (.slice r4 D.td.ws.length rc4) (.slice r5 D.td.bs.length rc5)).toArray rfl rfl hth rfl (all_oneCell_toArray (cdC_one D (.slice r2 D.nd.ls.length rc2) (.slice r3 D.nd.ts.length rc3) (.slice r4 D.td.ws.length rc4) (.slice r5 D.td.bs.length rc5) rfl rfl rfl rfl)) ?_
        clear hth
        rw [show (cdC D (.slice r2 D.nd.ls.length rc2) (.slice r3 D.nd.ts.length rc3) (.slice r4 D.td.ws.length rc4) (.slice r5 D.td.bs.length rc5)).toArray.toList = cdC D (.slice r2 D.nd.ls.length rc2) (.slice r3 D.nd.ts.length rc3) (.slice r4 D.td.ws.length rc4) (.slice r5 D.td.bs.length rc5) from rfl]
        generalize ((w9.alloc (.cells #[.int .u64 0, .int .u64 0, .int .u8 0, .string ⟨#[]⟩, .int .i64 0, .int .i64 0, .int .i64 0, .slice none 0 0, .slice none 0 0, .string ⟨#[]⟩, .int .i64 0, .int .i64 0, .int .i64 0, .slice none 0 0, .slice none 0 0, .string ⟨#[]⟩, .string ⟨#[]⟩, .int .i64 0, .string ⟨#[]⟩, .string ⟨#[]⟩, .int .u64 0] 33)).setCells w9.heap.size 0 (cdC D (.slice r2 D.nd.ls.length rc2) (.slice r3 D.nd.ts.length rc3) (.slice r4 D.td.ws.length rc4) (.slice r5 D.td.bs.length rc5))) = Vw9 at *
        generalize w9.heap.size = Nw9 at *
        obtain ⟨bb, hrr⟩ := HRw9.out
        have HP9 := Lib.hid (hrr.prs HT3.out.1)
        have R9 := Lib.hid (HDw9.out.range 0)
        clear hrr
        go_upto_region 18 with fail
        refine wp_region_list ?_
        refine wpList_load_mid rfl 33 (.tmp 18) rfl Nw9 0 rfl (cdC D (.slice r2 D.nd.ls.length rc2) (.slice r3 D.nd.ts.length rc3) (.slice r4 D.td.ws.length rc4) (.slice r5 D.td.bs.length rc5)) _ R9.out Try.underlying33 rfl rfl ?_
        go_wp2_with fail
        refine (KE3.out _ _ _ _ _ HP9.out).mono ?_
        rintro e w10 ⟨rfl, hb⟩
        have HB10 := Lib.hid (HBw9.out.below hb)
        clear hb
        go_wp2
        go_ret
        exact ⟨rfl, HB10.out.be⟩
    | true =>
      obtain ⟨n, rfl, hn, hts⟩ := td_small htk
      have KT := Lib.hid (tenc_yes n ts htk)
      have KU := Lib.hid (tdec_yes n ts hn hts)
      clear htk hn hts
      generalize bs (tlB n ts) = qy at *
      go_wp2_with fail
      refine (KT.out _).mono ?_
      rintro e w6 ⟨rfl, hb⟩
      have HB6 := Lib.hid (HBx6.out.below hb)
      clear hb c0 c1
      go_wp2_with fail
      refine (KU.out _).mono ?_
      rintro e w7 ⟨rfl, hb⟩
      have ha7 : Below w7.heap.size w7 (w7.alloc (.cells #[.int .i64 (n : Nat), .string ts] 44)) := (Below.refl _ _).alloc (Nat.le_refl _) _
      have HB7 := Lib.hid ((HB6.out.below hb).below ha7)
      have HU7 := Lib.hid (Bx2.made w7 (.int .i64 (n : Nat)) (.string ts) 44)
      clear hb ha7
      go_upto_region 13 with fail
      generalize w7.alloc (.cells #[.int .i64 (n : Nat), .string ts] 44) = W7 at *
      have c0 : W7.cell? ⟨w.heap.size + 1, 0, none⟩ = some (.int .i64 (n : Nat)) := HB7.out.bz.cell 0
      have c1 : W7.cell? ⟨w.heap.size + 1, 1, none⟩ = some (.string ts) := HB7.out.bz.cell 1
      obtain ⟨d0, d1⟩ := HU7.out.cells
      have gf := guard_told
      have hq := neq_told (n : Nat) (n : Nat) ts ts
      rw [show (!((((n : Nat) : Int) == ((n : Nat) : Int)) && (ts.toList == ts.toList))) = false by simp] at hq
      go_upto_region 15 with fail
      clear c0 c1 d0 d1 gf hq
      cases hds : dcOk s.data.toList with
      | false =>
        have KD3 : Hid (∀ z, Calls Try.prog 12 #[.string s] z fun e w' => ∃ v2 v3 v4 v5, e = .returned (.tuple #[.agg (cdC (cd0 0 0 0) v2 v3 v4 v5).toArray, .int .i64 4]) ∧ Rows w' z.heap.size (cd0 0 0 0) v2 v3 v4 v5 ∧ Below z.heap.size z w') := fun z => by
          have := dec_no s.data.toList (by exact hs) hds z
          rw [bs_of] at this
          exact this
        clear hds hs
        go_wp2_with fail
        refine (KD3.out _).mono ?_
        rintro e w9 ⟨u2, u3, u4, u5, rfl, hr, hb⟩
        obtain ⟨r2, rc2, rfl⟩ := hr.1.slice
        obtain ⟨r3, rc3, rfl⟩ := hr.2.1.slice
        obtain ⟨r4, rc4, rfl⟩ := hr.2.2.1.slice
        obtain ⟨r5, rc5, rfl⟩ := hr.2.2.2.slice
        have hm : Bxn (w9.alloc (.cells #[.int .u64 0, .int .u64 0, .int .u8 0, .string ⟨#[]⟩, .int .i64 0, .int .i64 0, .int .i64 0, .slice none 0 0, .slice none 0 0, .string ⟨#[]⟩, .int .i64 0, .int .i64 0, .int .i64 0, .slice none 0 0, .slice none 0 0, .string ⟨#[]⟩, .string ⟨#[]⟩, .int .i64 0, .string ⟨#[]⟩, .string ⟨#[]⟩, .int .u64 0] 33)) w9.heap.size [.int .u64 0, .int .u64 0, .int .u8 0, .string ⟨#[]⟩, .int .i64 0, .int .i64 0, .int .i64 0, .slice none 0 0, .slice none 0 0, .string ⟨#[]⟩, .int .i64 0, .int .i64 0, .int .i64 0, .slice none 0 0, .slice none 0 0, .string ⟨#[]⟩, .string ⟨#[]⟩, .int .i64 0, .string ⟨#[]⟩, .string ⟨#[]⟩, .int .u64 0] := Bxn.made _ _ _
        have hth := hm.there 21 rfl
        have ha : Below w9.heap.size w9 (w9.alloc (.cells #[.int .u64 0, .int .u64 0, .int .u8 0, .string ⟨#[]⟩, .int .i64 0, .int .i64 0, .int .i64 0, .slice none 0 0, .slice none 0 0, .string ⟨#[]⟩, .int .i64 0, .int .i64 0, .int .i64 0, .slice none 0 0, .slice none 0 0, .string ⟨#[]⟩, .string ⟨#[]⟩, .int .i64 0, .string ⟨#[]⟩, .string ⟨#[]⟩, .int .u64 0] 33)) := (Below.refl _ _).alloc (Nat.le_refl _) _
        have ho := only_setCells w9.heap.size (cdC (cd0 0 0 0) (.slice r2 (cd0 0 0 0).nd.ls.length rc2) (.slice r3 (cd0 0 0 0).nd.ts.length rc3) (.slice r4 (cd0 0 0 0).td.ws.length rc4) (.slice r5 (cd0 0 0 0).td.bs.length rc5)) 0 (w9.alloc (.cells #[.int .u64 0, .int .u64 0, .int .u8 0, .string ⟨#[]⟩, .int .i64 0, .int .i64 0, .int .i64 0, .slice none 0 0, .slice none 0 0, .string ⟨#[]⟩, .int .i64 0, .int .i64 0, .int .i64 0, .slice none 0 0, .slice none 0 0, .string ⟨#[]⟩, .string ⟨#[]⟩, .int .i64 0, .string ⟨#[]⟩, .string ⟨#[]⟩, .int .u64 0] 33))
        have hbb := HB7.out.below hb
        have hlt := hbb.bz.lt
        have HBw9 : Hid (Bb w (cdC C v2 v3 v4 v5) [.int .i64 (n : Nat), .string ts] ((w9.alloc (.cells #[.int .u64 0, .int .u64 0, .int .u8 0, .string ⟨#[]⟩, .int .i64 0, .int .i64 0, .int .i64 0, .slice none 0 0, .slice none 0 0, .string ⟨#[]⟩, .int .i64 0, .int .i64 0, .int .i64 0, .slice none 0 0, .slice none 0 0, .string ⟨#[]⟩, .string ⟨#[]⟩, .int .i64 0, .string ⟨#[]⟩, .string ⟨#[]⟩, .int .u64 0] 33)).setCells w9.heap.size 0 (cdC (cd0 0 0 0) (.slice r2 (cd0 0 0 0).nd.ls.length rc2) (.slice r3 (cd0 0 0 0).nd.ts.length rc3) (.slice r4 (cd0 0 0 0).td.ws.length rc4) (.slice r5 (cd0 0 0 0).td.bs.length rc5)))) := (hbb.below ha).off ho hlt
        have HDw9 : Hid (Bxn ((w9.alloc (.cells #[.int .u64 0, .int .u64 0, .int .u8 0, .string ⟨#[]⟩, .int .i64 0, .int .i64 0, .int .i64 0, .slice none 0 0, .slice none 0 0, .string ⟨#[]⟩, .int .i64 0, .int .i64 0, .int .i64 0, .slice none 0 0, .slice none 0 0, .string ⟨#[]⟩, .string ⟨#[]⟩, .int .i64 0, .string ⟨#[]⟩, .string ⟨#[]⟩, .int .u64 0] 33)).setCells w9.heap.size 0 (cdC (cd0 0 0 0) (.slice r2 (cd0 0 0 0).nd.ls.length rc2) (.slice r3 (cd0 0 0 0).nd.ts.length rc3) (.slice r4 (cd0 0 0 0).td.ws.length rc4) (.slice r5 (cd0 0 0 0).td.bs.length rc5))) w9.heap.size (cdC (cd0 0 0 0) (.slice r2 (cd0 0 0 0).nd.ls.length rc2) (.slice r3 (cd0 0 0 0).nd.ts.length rc3) (.slice r4 (cd0 0 0 0).td.ws.length rc4) (.slice r5 (cd0 0 0 0).td.bs.length rc5))) := hm.all _ rfl
        have hn : ∀ v ps b, OwnP w9 b v ps → v.ownBlock ≠ some w9.heap.size := fun v ps b h => h.blk (Nat.le_refl _)
        have k1 := hr.below ha
        have HRw9 : Hid (∃ b, Rows ((w9.alloc (.cells #[.int .u64 0, .int .u64 0, .int .u8 0, .string ⟨#[]⟩, .int .i64 0, .int .i64 0, .int .i64 0, .slice none 0 0, .slice none 0 0, .string ⟨#[]⟩, .int .i64 0, .int .i64 0, .int .i64 0, .slice none 0 0, .slice none 0 0, .string ⟨#[]⟩, .string ⟨#[]⟩, .int .i64 0, .string ⟨#[]⟩, .string ⟨#[]⟩, .int .u64 0] 33)).setCells w9.heap.size 0 (cdC (cd0 0 0 0) (.slice r2 (cd0 0 0 0).nd.ls.length rc2) (.slice r3 (cd0 0 0 0).nd.ts.length rc3) (.slice r4 (cd0 0 0 0).td.ws.length rc4) (.slice r5 (cd0 0 0 0).td.bs.length rc5))) b (cd0 0 0 0) (.slice r2 (cd0 0 0 0).nd.ls.length rc2) (.slice r3 (cd0 0 0 0).nd.ts.length rc3) (.slice r4 (cd0 0 0 0).td.ws.length rc4) (.slice r5 (cd0 0 0 0).td.bs.length rc5)) := ⟨_, k1.1.only ho (hn _ _ _ hr.1), k1.2.1.only ho (hn _ _ _ hr.2.1), k1.2.2.1.only ho (hn _ _ _ hr.2.2.1), k1.2.2.2.only ho (hn _ _ _ hr.2.2.2)⟩
        clear hn k1
        clear hb hm ha ho hbb hlt hr
        dsimp only
        refine ‹∀ (a : Act) (w : World), wpList Try.prog _ _ _ a w → _› _ _ ?_
        refine wpList_plain rfl fun K hK => ?_
        go_simp
        refine hK _ _ ?_
        clear hK K
        refine wpList_plain rfl fun K hK => ?_
        go_simp
        refine hK _ _ ?_
        clear hK K
        refine wpList_plain rfl fun K hK => ?_
        go_simp
        refine hK _ _ ?_
        clear hK K
        refine wpList_plain rfl fun K hK => ?_
        go_simp
        refine hK _ _ ?_
        clear hK K
        refine wpList_store_mid rfl 33 (.tmp 18) (.tmp 88) rfl w9.heap.size 0 (cdC (cd0 0 0 0) (.slice r2 (cd0 0 0 0).nd.ls.length rc2) (.slice r3 (cd0 0 0 0).nd.ts.length rc3) (.slice r4 (cd0 0 0 0).td.ws.length rc4) (.slice r5 (cd0 0 0 0).td.bs.length rc5)).toArray rfl rfl hth rfl (all_oneCell_toArray (cdC_one (cd0 0 0 0) (.slice r2 (cd0 0 0 0).nd.ls.length rc2) (.slice r3 (cd0 0 0 0).nd.ts.length rc3) (.slice r4 (cd0 0 0 0).td.ws.length rc4) (.slice r5 (cd0 0 0 0).td.bs.length rc5) rfl rfl rfl rfl)) ?_
        clear hth
        rw [show (cdC (cd0 0 0 0) (.slice r2 (cd0 0 0 0).nd.ls.length rc2) (.slice r3 (cd0 0 0 0).nd.ts.length rc3) (.slice r4 (cd0 0 0 0).td.ws.length rc4) (.slice r5 (cd0 0 0 0).td.bs.length rc5)).toArray.toList = cdC (cd0 0 0 0) (.slice r2 (cd0 0 0 0).nd.ls.length rc2) (.slice r3 (cd0 0 0 0).nd.ts.length rc3) (.slice r4 (cd0 0 0 0).td.ws.length rc4) (.slice r5 (cd0 0 0 0).td.bs.length rc5) from rfl]
        generalize ((w9.alloc (.cells #[.int .u64 0, .int .u64 0, .int .u8 0, .string ⟨#[]⟩, .int .i64 0, .int .i64 0, .int .i64 0, .slice none 0 0, .slice none 0 0, .string ⟨#[]⟩, .int .i64 0, .int .i64 0, .int .i64 0, .slice none 0 0, .slice none 0 0, .string ⟨#[]⟩, .string ⟨#[]⟩, .int .i64 0, .string ⟨#[]⟩, .string ⟨#[]⟩, .int .u64 0] 33)).setCells w9.heap.size 0 (cdC (cd0 0 0 0) (.slice r2 (cd0 0 0 0).nd.ls.length rc2) (.slice r3 (cd0 0 0 0).nd.ts.length rc3) (.slice r4 (cd0 0 0 0).td.ws.length rc4) (.slice r5 (cd0 0 0 0).td.bs.length rc5))) = Vw9 at *
        generalize w9.heap.size = Nw9 at *
        obtain ⟨bb, hrr⟩ := HRw9.out
        have HP9 := Lib.hid (hrr.prs ⟨nil_took _, nil_took _, nil_took _, nil_took _⟩)
        have R9 := Lib.hid (HDw9.out.range 0)
        clear hrr
        go_upto_region 17 with fail
        refine wp_region_list ?_
        refine wpList_load_mid rfl 33 (.tmp 18) rfl Nw9 0 rfl (cdC (cd0 0 0 0) (.slice r2 (cd0 0 0 0).nd.ls.length rc2) (.slice r3 (cd0 0 0 0).nd.ts.length rc3) (.slice r4 (cd0 0 0 0).td.ws.length rc4) (.slice r5 (cd0 0 0 0).td.bs.length rc5)) _ R9.out Try.underlying33 rfl rfl ?_
        refine wpList_plain rfl fun K hK => ?_
        go_simp
        refine hK _ _ ?_
        clear hK K
        go_wp2_with fail
        refine (same_cmd (cd0 0 0 0) (cd0 0 0 0) _ _ _ _ nilS nilS nilS nilS _ HP9.out ⟨Rg.Pairs.none_ _ _, Rg.Pairs.none_ _ _, Rg.Pairs.none_ _ _, Rg.Pairs.none_ _ _⟩).mono ?_
        rintro e w10 ⟨rfl, hb⟩
        have HB10 := Lib.hid (HBw9.out.below hb)
        rw [smC_iff.2 rfl]
        clear hb
        go_wp2
        go_ret
        exact ⟨rfl, HB10.out.be⟩
      | true =>
        have ht3 := cmT_took s.data.toList (by exact hs)
        have HT3 := Lib.hid ht3
        have hf3 := cm_forth hds
        have KD3 : Hid (∀ z, Calls Try.prog 12 #[.string s] z fun e w' => ∃ v2 v3 v4 v5, e = .returned (.tuple #[.agg (cdC (cmT s.data.toList) v2 v3 v4 v5).toArray, .int .i64 0]) ∧ Rows w' z.heap.size (cmT s.data.toList) v2 v3 v4 v5 ∧ Below z.heap.size z w') := fun z => by
          have := dec_yes s.data.toList (by exact hs) hds z
          rw [bs_of] at this
          exact this
        have KE3 : Hid (∀ z u2 u3 u4 u5, PrsIn z z.heap.size (cmT s.data.toList) u2 u3 u4 u5 → Calls Try.prog 10 #[.agg (cdC (cmT s.data.toList) u2 u3 u4 u5).toArray] z fun e w' => e = .returned (.tuple #[.string s, .int .i64 0]) ∧ Below z.heap.size z w') := fun z u2 u3 u4 u5 hu => by
          have := enc_yes hu ht3.2.1 ht3.2.2 hf3.2 z (Below.refl _ _)
          rw [hf3.1, bs_of] at this
          exact this
        clear hds hs ht3 hf3
        generalize cmT s.data.toList = D at *
        go_wp2_with fail
        refine (KD3.out _).mono ?_
        rintro e w9 ⟨u2, u3, u4, u5, rfl, hr, hb⟩
        obtain ⟨r2, rc2, rfl⟩ := hr.1.slice
        obtain ⟨r3, rc3, rfl⟩ := hr.2.1.slice
        obtain ⟨r4, rc4, rfl⟩ := hr.2.2.1.slice
        obtain ⟨r5, rc5, rfl⟩ := hr.2.2.2.slice
        have hm : Bxn (w9.alloc (.cells #[.int .u64 0, .int .u64 0, .int .u8 0, .string ⟨#[]⟩, .int .i64 0, .int .i64 0, .int .i64 0, .slice none 0 0, .slice none 0 0, .string ⟨#[]⟩, .int .i64 0, .int .i64 0, .int .i64 0, .slice none 0 0, .slice none 0 0, .string ⟨#[]⟩, .string ⟨#[]⟩, .int .i64 0, .string ⟨#[]⟩, .string ⟨#[]⟩, .int .u64 0] 33)) w9.heap.size [.int .u64 0, .int .u64 0, .int .u8 0, .string ⟨#[]⟩, .int .i64 0, .int .i64 0, .int .i64 0, .slice none 0 0, .slice none 0 0, .string ⟨#[]⟩, .int .i64 0, .int .i64 0, .int .i64 0, .slice none 0 0, .slice none 0 0, .string ⟨#[]⟩, .string ⟨#[]⟩, .int .i64 0, .string ⟨#[]⟩, .string ⟨#[]⟩, .int .u64 0] := Bxn.made _ _ _
        have hth := hm.there 21 rfl
        have ha : Below w9.heap.size w9 (w9.alloc (.cells #[.int .u64 0, .int .u64 0, .int .u8 0, .string ⟨#[]⟩, .int .i64 0, .int .i64 0, .int .i64 0, .slice none 0 0, .slice none 0 0, .string ⟨#[]⟩, .int .i64 0, .int .i64 0, .int .i64 0, .slice none 0 0, .slice none 0 0, .string ⟨#[]⟩, .string ⟨#[]⟩, .int .i64 0, .string ⟨#[]⟩, .string ⟨#[]⟩, .int .u64 0] 33)) := (Below.refl _ _).alloc (Nat.le_refl _) _
        have ho := only_setCells w9.heap.size (cdC D (.slice r2 D.nd.ls.length rc2) (.slice r3 D.nd.ts.length rc3) (.slice r4 D.td.ws.length rc4) (.slice r5 D.td.bs.length rc5)) 0 (w9.alloc (.cells #[.int .u64 0, .int .u64 0, .int .u8 0, .string ⟨#[]⟩, .int .i64 0, .int .i64 0, .int .i64 0, .slice none 0 0, .slice none 0 0, .string ⟨#[]⟩, .int .i64 0, .int .i64 0, .int .i64 0, .slice none 0 0, .slice none 0 0, .string ⟨#[]⟩, .string ⟨#[]⟩, .int .i64 0, .string ⟨#[]⟩, .string ⟨#[]⟩, .int .u64 0] 33))
        have hbb := HB7.out.below hb
        have hlt := hbb.bz.lt
        have HBw9 : Hid (Bb w (cdC C v2 v3 v4 v5) [.int .i64 (n : Nat), .string ts] ((w9.alloc (.cells #[.int .u64 0, .int .u64 0, .int .u8 0, .string ⟨#[]⟩, .int .i64 0, .int .i64 0, .int .i64 0, .slice none 0 0, .slice none 0 0, .string ⟨#[]⟩, .int .i64 0, .int .i64 0, .int .i64 0, .slice none 0 0, .slice none 0 0, .string ⟨#[]⟩, .string ⟨#[]⟩, .int .i64 0, .string ⟨#[]⟩, .string ⟨#[]⟩, .int .u64 0] 33)).setCells w9.heap.size 0 (cdC D (.slice r2 D.nd.ls.length rc2) (.slice r3 D.nd.ts.length rc3) (.slice r4 D.td.ws.length rc4) (.slice r5 D.td.bs.length rc5)))) := (hbb.below ha).off ho hlt
        have HDw9 : Hid (Bxn ((w9.alloc (.cells #[.int .u64 0, .int .u64 0, .int .u8 0, .string ⟨#[]⟩, .int .i64 0, .int .i64 0, .int .i64 0, .slice none 0 0, .slice none 0 0, .string ⟨#[]⟩, .int .i64 0, .int .i64 0, .int .i64 0, .slice none 0 0, .slice none 0 0, .string ⟨#[]⟩, .string ⟨#[]⟩, .int .i64 0, .string ⟨#[]⟩, .string ⟨#[]⟩, .int .u64 0] 33)).setCells w9.heap.size 0 (cdC D (.slice r2 D.nd.ls.length rc2) (.slice r3 D.nd.ts.length rc3) (.slice r4 D.td.ws.length rc4) (.slice r5 D.td.bs.length rc5))) w9.heap.size (cdC D (.slice r2 D.nd.ls.length rc2) (.slice r3 D.nd.ts.length rc3) (.slice r4 D.td.ws.length rc4) (.slice r5 D.td.bs.length rc5))) := hm.all _ rfl
        have hn : ∀ v ps b, OwnP w9 b v ps → v.ownBlock ≠ some w9.heap.size := fun v ps b h => h.blk (Nat.le_refl _)
        have k1 := hr.below ha
        have HRw9 : Hid (∃ b, Rows ((w9.alloc (.cells #[.int .u64 0, .int .u64 0, .int .u8 0, .string ⟨#[]⟩, .int .i64 0, .int .i64 0, .int .i64 0, .slice none 0 0, .slice none 0 0, .string ⟨#[]⟩, .int .i64 0, .int .i64 0, .int .i64 0, .slice none 0 0, .slice none 0 0, .string ⟨#[]⟩, .string ⟨#[]⟩, .int .i64 0, .string ⟨#[]⟩, .string ⟨#[]⟩, .int .u64 0] 33)).setCells w9.heap.size 0 (cdC D (.slice r2 D.nd.ls.length rc2) (.slice r3 D.nd.ts.length rc3) (.slice r4 D.td.ws.length rc4) (.slice r5 D.td.bs.length rc5))) b D (.slice r2 D.nd.ls.length rc2) (.slice r3 D.nd.ts.length rc3) (.slice r4 D.td.ws.length rc4) (.slice r5 D.td.bs.length rc5)) := ⟨_, k1.1.only ho (hn _ _ _ hr.1), k1.2.1.only ho (hn _ _ _ hr.2.1), k1.2.2.1.only ho (hn _ _ _ hr.2.2.1), k1.2.2.2.only ho (hn _ _ _ hr.2.2.2)⟩
        clear hn k1
        clear hb hm ha ho hbb hlt hr
        dsimp only
        refine ‹∀ (a : Act) (w : World), wpList Try.prog _ _ _ a w → _› _ _ ?_
        refine wpList_plain rfl fun K hK => ?_
        go_simp
        refine hK _ _ ?_
        clear hK K
        refine wpList_plain rfl fun K hK => ?_
        go_simp
        refine hK _ _ ?_
        clear hK K
        refine wpList_plain rfl fun K hK => ?_
        go_simp
        refine hK _ _ ?_
        clear hK K
        refine wpList_plain rfl fun K hK => ?_
        go_simp
        refine hK _ _ ?_
        clear hK K
        refine wpList_store_mid rfl 33 (.tmp 18) (.tmp 88) rfl w9.heap.size 0 (cdC D (.slice r2 D.nd.ls.length rc2) (.slice r3 D.nd.ts.length rc3) (.slice r4 D.td.ws.length rc4) (.slice r5 D.td.bs.length rc5)).toArray rfl rfl hth rfl (all_oneCell_toArray (cdC_one D (.slice r2 D.nd.ls.length rc2) (.slice r3 D.nd.ts.length rc3) (.slice r4 D.td.ws.length rc4) (.slice r5 D.td.bs.length rc5) rfl rfl rfl rfl)) ?_
        clear hth
        rw [show (cdC D (.slice r2 D.nd.ls.length rc2) (.slice r3 D.nd.ts.length rc3) (.slice r4 D.td.ws.length rc4) (.slice r5 D.td.bs.length rc5)).toArray.toList = cdC D (.slice r2 D.nd.ls.length rc2) (.slice r3 D.nd.ts.length rc3) (.slice r4 D.td.ws.length rc4) (.slice r5 D.td.bs.length rc5) from rfl]
        generalize ((w9.alloc (.cells #[.int .u64 0, .int .u64 0, .int .u8 0, .string ⟨#[]⟩, .int .i64 0, .int .i64 0, .int .i64 0, .slice none 0 0, .slice none 0 0, .string ⟨#[]⟩, .int .i64 0, .int .i64 0, .int .i64 0, .slice none 0 0, .slice none 0 0, .string ⟨#[]⟩, .string ⟨#[]⟩, .int .i64 0, .string ⟨#[]⟩, .string ⟨#[]⟩, .int .u64 0] 33)).setCells w9.heap.size 0 (cdC D (.slice r2 D.nd.ls.length rc2) (.slice r3 D.nd.ts.length rc3) (.slice r4 D.td.ws.length rc4) (.slice r5 D.td.bs.length rc5))) = Vw9 at *
        generalize w9.heap.size = Nw9 at *
        obtain ⟨bb, hrr⟩ := HRw9.out
        have HP9 := Lib.hid (hrr.prs HT3.out.1)
        have R9 := Lib.hid (HDw9.out.range 0)
        clear hrr
        go_upto_region 18 with fail
        refine wp_region_list ?_
        refine wpList_load_mid rfl 33 (.tmp 18) rfl Nw9 0 rfl (cdC D (.slice r2 D.nd.ls.length rc2) (.slice r3 D.nd.ts.length rc3) (.slice r4 D.td.ws.length rc4) (.slice r5 D.td.bs.length rc5)) _ R9.out Try.underlying33 rfl rfl ?_
        go_wp2_with fail
        refine (KE3.out _ _ _ _ _ HP9.out).mono ?_
        rintro e w10 ⟨rfl, hb⟩
        have HB10 := Lib.hid (HBw9.out.below hb)
        clear hb
        go_wp2
        go_ret
        exact ⟨rfl, HB10.out.be⟩
end Hd
end Go.Proofs.Ythlchdlgafincaa
