/-
  THE FENCE: gafferlaw08.BookFenced.
-/
import Derived.Test.YtaipbaegbpebkaaGreatBoRightL
import Derived.Deep.LoopGhost
namespace Go.Proofs.YtaipbaegbpebkaaGreat
open Go.RowKit Go.Lib
namespace Bo
open Rw
set_option linter.unusedVariables false
theorem fence_plain {c : Bk} (h : chkB c = true) (C : Hd.Cd) {t : Nat} (ht : t ≤ c.fe) : (C.k = 5 ∧ C.fe < t ∧ ∃ r s, (r = 14 ∨ r = 4) ∧ doF c C = (c, r, s)) ∨ (¬ (C.k = 5 ∧ C.fe < t) ∧ ∃ c2 r s, doF c C = (c2, r, s) ∧ chkB c2 = true ∧ c2.fe = c.fe) := by
  have hd : doF c C = doV c C := by unfold doF; rw [if_pos h]
  rw [hd]
  by_cases hk : C.k = 5 ∧ C.fe < t
  · refine .inl ⟨hk.1, hk.2, ?_⟩
    unfold doV
    by_cases hb : Hd.coB C = true
    · rw [if_pos hb, if_neg (by omega)]
      refine ⟨14, ByteArray.empty, .inl rfl, ?_⟩
      unfold chV
      rw [if_neg (by omega), if_neg (by omega), if_neg (by omega), if_neg (by omega), if_pos hk.1]
      unfold biB
      rw [if_pos (show C.fe < c.fe by omega)]
    · rw [if_neg hb]; exact ⟨4, ByteArray.empty, .inr rfl, rfl⟩
  · exact .inr ⟨hk, _, _, _, rfl, chk_of_rb ((rb_of_chk h).doV C), doV_fe c C⟩
theorem lead_plain (b : Bk) (t : Nat) : (∃ c r, r ≠ 0 ∧ ldF b t = (c, r)) ∨ (∃ c, ldF b t = (c, 0) ∧ chkB c = true ∧ t ≤ c.fe) := by
  unfold ldF
  by_cases hc : chkB b = true
  · rw [if_pos hc]
    exact .inr ⟨_, rfl, chk_of_rb ((rb_of_chk hc).fence _), Nat.le_max_right _ _⟩
  · rw [if_neg hc]
    exact .inl ⟨_, 10, by decide, rfl⟩
/-- The loop's state: a right book in the first box, its fence at least t. -/
def FS (t : Nat) (w wx : World) : Prop := ∃ (c : Bk) (vn vt vb : Value), Hd.Bxn wx w.heap.size [vn, vt, vb, .int .u64 (c.fe : Nat)] ∧ Books wx wx.heap.size vn vt vb c ∧ chkB c = true ∧ Below w.heap.size w wx ∧ t ≤ c.fe
set_option maxRecDepth 100000 in
set_option maxHeartbeats 4000000 in
theorem fence_law (b : Bk) (t : Nat) (l : List OdM) (vb0 vl : Value) (w : World) (hb : BookArg w vb0 b) (ht : t < 18446744073709551616) (hl : OrdersArg w vl l) :
    Calls Tryz.prog 6 #[vb0, .int .u64 (t : Nat), vl] w fun e w' => e = .returned (.bool true) ∧ Below w.heap.size w w' := by
  obtain ⟨vn, vt, vb, rfl, hB⟩ := hb
  obtain ⟨⟨a0, c0, rfl⟩, ⟨b0, d0, rfl⟩, ⟨e0, f0, rfl⟩⟩ := And.intro hB.hn.slice (And.intro hB.ht.slice hB.hb.slice)
  obtain ⟨⟨al, cl, rfl, -, -, hll, hlc⟩, hld, -⟩ := hl
  obtain ⟨W0, hW0⟩ : ∃ W0, W0 = w.alloc (.cells #[.slice a0 (b).ns.length c0, .slice b0 (b).ts.length d0, .slice e0 (b).bs.length f0, .int .u64 ((b).fe : Nat)] 27) := ⟨_, rfl⟩
  have hb0 : Below w.heap.size w W0 := by rw [hW0]; exact Rw.al w _
  have hx0 : Hd.Bxn W0 w.heap.size [.slice a0 (b).ns.length c0, .slice b0 (b).ts.length d0, .slice e0 (b).bs.length f0, .int .u64 ((b).fe : Nat)] := by rw [hW0]; exact Hd.Bxn.made w _ _
  have HL : Hid (Calls Tryz.prog 13 #[] W0 fun e w' => e = .returned (.bool true) ∧ Below W0.heap.size W0 w') := lives_any W0
  have HBK : Hid (∀ z, Hid (Below w.heap.size w z) → Hid (Books z z.heap.size (.slice a0 (b).ns.length c0) (.slice b0 (b).ts.length d0) (.slice e0 (b).bs.length f0) (b))) := fun z hz => hB.on hz.out
  have HLC := Lib.hid hlc
  have HLD := Lib.hid hld
  have HW := Lib.hid hW0
  have HX0 := Lib.hid hx0
  have HB0 := Lib.hid hb0
  clear hW0 hx0 hb0 hB hlc hld
  rcases lead_plain b t with ⟨c, r, hr0, hld1⟩ | ⟨c, hld1, hck, hft⟩
  · have HLD1 : Hid (∀ z, Hid (Below w.heap.size w z) → Calls Tryz.prog 19 #[.agg #[.slice a0 (b).ns.length c0, .slice b0 (b).ts.length d0, .slice e0 (b).bs.length f0, .int .u64 ((b).fe : Nat)], .int .u64 (t : Nat)] z fun e w' => ∃ vn' vt' vb', e = .returned (.tuple #[.agg #[vn', vt', vb', .int .u64 ((c).fe : Nat)], .int .i64 (r : Nat)]) ∧ Kept z w' (c) vn' vt' vb' ∧ Below z.heap.size z w') := fun z hz => lead_use (b) (c) _ t _ _ _ z (HBK.out z hz).out ht hld1
    clear hld1
    have t5 : ((r : Int) != 0) = true := by simp; omega
    have t6 : ¬ (r : Int) = 0 := by omega
    go_enter Tryz.func6, Tryz.ntmps6
    go_upto_region 1 with fail
    rw [← HW.out]
    go_wp2_with fail
    refine HL.out.mono ?_
    rintro e w1 ⟨rfl, hb⟩
    have HP1 := Lib.hid (HX0.out.below hb)
    have HB1 : Hid (Below w.heap.size w w1) := HB0.out.trans (hb.mono HB0.out.size)
    clear hb HX0 HL HB0
    go_upto_region 3 with fail
    refine wp_region_list ?_
    refine wpList_load_mid rfl 27 (.tmp 3) rfl (w.heap.size) (0) rfl [.slice a0 (b).ns.length c0, .slice b0 (b).ts.length d0, .slice e0 (b).bs.length f0, .int .u64 ((b).fe : Nat)] _ (HP1.out.range 0) Tryz.underlying27 rfl rfl ?_
    refine wpList_plain rfl fun K hK => ?_
    go_simp
    refine hK _ _ ?_
    clear hK K
    refine wpList_plain rfl fun K hK => ?_
    go_wp2_with fail
    refine (HLD1.out w1 HB1).mono ?_
    rintro e w2 ⟨v1, v2, v3, rfl, hkp, hb⟩
    obtain ⟨⟨a1, c1, rfl⟩, ⟨b1, d1, rfl⟩, ⟨e1, f1, rfl⟩⟩ := hkp.slices
    refine hK _ _ ?_
    clear hK K
    have HP2 := Lib.hid (HP1.out.below hb)
    have HB2 : Hid (Below w.heap.size w w2) := HB1.out.trans (hb.mono HB1.out.size)
    have HK2 := Lib.hid hkp
    have HLP1 : Hid (w.heap.size < w1.heap.size) := HP1.out.lt
    clear hb hkp HP1 HB1 HLD1
    refine wpList_plain rfl fun K hK => ?_
    go_simp
    refine hK _ _ ?_
    clear hK K
    refine wpList_plain rfl fun K hK => ?_
    go_simp
    refine hK _ _ ?_
    clear hK K
    refine wpList_plain rfl fun K hK => ?_
    go_simp
    refine hK _ _ ?_
    clear hK K
    have thP := HP2.out.there 4 rfl
    refine wpList_store_mid rfl 27 (.tmp 3) (.tmp 18) rfl (w.heap.size) 0 #[.slice a1 (c).ns.length c1, .slice b1 (c).ts.length d1, .slice e1 (c).bs.length f1, .int .u64 ((c).fe : Nat)] rfl rfl thP rfl (all_oneCell_toArray (List.all_eq_true.1 (show List.all ([.slice a1 (c).ns.length c1, .slice b1 (c).ts.length d1, .slice e1 (c).bs.length f1, .int .u64 ((c).fe : Nat)] : List Value) (fun v => v.oneCell') = true from rfl))) ?_
    rw [show (#[.slice a1 (c).ns.length c1, .slice b1 (c).ts.length d1, .slice e1 (c).bs.length f1, .int .u64 ((c).fe : Nat)] : Array Value).toList = [.slice a1 (c).ns.length c1, .slice b1 (c).ts.length d1, .slice e1 (c).bs.length f1, .int .u64 ((c).fe : Nat)] from rfl]
    have HP : Hid (Hd.Bxn (w2.setCells w.heap.size 0 [.slice a1 (c).ns.length c1, .slice b1 (c).ts.length d1, .slice e1 (c).bs.length f1, .int .u64 ((c).fe : Nat)]) w.heap.size [.slice a1 (c).ns.length c1, .slice b1 (c).ts.length d1, .slice e1 (c).bs.length f1, .int .u64 ((c).fe : Nat)]) := HP2.out.all _ rfl
    have HB3 : Hid (Below w.heap.size w (w2.setCells w.heap.size 0 [.slice a1 (c).ns.length c1, .slice b1 (c).ts.length d1, .slice e1 (c).bs.length f1, .int .u64 ((c).fe : Nat)])) := below_setCells HB2.out (Nat.le_refl _) _ _
    have HK3 := Lib.hid (HK2.out.far (P := w.heap.size) HLP1.out 0 [.slice a1 (c).ns.length c1, .slice b1 (c).ts.length d1, .slice e1 (c).bs.length f1, .int .u64 ((c).fe : Nat)])
    clear thP HP2 HB2 HK2
    generalize w2.setCells w.heap.size 0 [.slice a1 (c).ns.length c1, .slice b1 (c).ts.length d1, .slice e1 (c).bs.length f1, .int .u64 ((c).fe : Nat)] = w3 at *
    refine wpList_plain rfl fun K hK => ?_
    go_simp
    refine hK _ _ ?_
    clear hK K
    refine wpList_nil ?_
    go_wp2
    go_ret
    exact ⟨rfl, HB3.out⟩
  · have HLD1 : Hid (∀ z, Hid (Below w.heap.size w z) → Calls Tryz.prog 19 #[.agg #[.slice a0 (b).ns.length c0, .slice b0 (b).ts.length d0, .slice e0 (b).bs.length f0, .int .u64 ((b).fe : Nat)], .int .u64 (t : Nat)] z fun e w' => ∃ vn' vt' vb', e = .returned (.tuple #[.agg #[vn', vt', vb', .int .u64 ((c).fe : Nat)], .int .i64 0]) ∧ Kept z w' (c) vn' vt' vb' ∧ Below z.heap.size z w') := fun z hz => lead_use (b) (c) _ t _ _ _ z (HBK.out z hz).out ht hld1
    clear hld1
    go_enter Tryz.func6, Tryz.ntmps6
    go_upto_region 1 with fail
    rw [← HW.out]
    go_wp2_with fail
    refine HL.out.mono ?_
    rintro e w1 ⟨rfl, hb⟩
    have HP1 := Lib.hid (HX0.out.below hb)
    have HB1 : Hid (Below w.heap.size w w1) := HB0.out.trans (hb.mono HB0.out.size)
    clear hb HX0 HL HB0
    go_upto_region 3 with fail
    refine wp_region_list ?_
    refine wpList_load_mid rfl 27 (.tmp 3) rfl (w.heap.size) (0) rfl [.slice a0 (b).ns.length c0, .slice b0 (b).ts.length d0, .slice e0 (b).bs.length f0, .int .u64 ((b).fe : Nat)] _ (HP1.out.range 0) Tryz.underlying27 rfl rfl ?_
    refine wpList_plain rfl fun K hK => ?_
    go_simp
    refine hK _ _ ?_
    clear hK K
    refine wpList_plain rfl fun K hK => ?_
    go_wp2_with fail
    refine (HLD1.out w1 HB1).mono ?_
    rintro e w2 ⟨v1, v2, v3, rfl, hkp, hb⟩
    obtain ⟨⟨a1, c1, rfl⟩, ⟨b1, d1, rfl⟩, ⟨e1, f1, rfl⟩⟩ := hkp.slices
    refine hK _ _ ?_
    clear hK K
    have HP2 := Lib.hid (HP1.out.below hb)
    have HB2 : Hid (Below w.heap.size w w2) := HB1.out.trans (hb.mono HB1.out.size)
    have HK2 := Lib.hid hkp
    have HLP1 : Hid (w.heap.size < w1.heap.size) := HP1.out.lt
    clear hb hkp HP1 HB1 HLD1
    refine wpList_plain rfl fun K hK => ?_
    go_simp
    refine hK _ _ ?_
    clear hK K
    refine wpList_plain rfl fun K hK => ?_
    go_simp
    refine hK _ _ ?_
    clear hK K
    refine wpList_plain rfl fun K hK => ?_
    go_simp
    refine hK _ _ ?_
    clear hK K
    have thP := HP2.out.there 4 rfl
    refine wpList_store_mid rfl 27 (.tmp 3) (.tmp 18) rfl (w.heap.size) 0 #[.slice a1 (c).ns.length c1, .slice b1 (c).ts.length d1, .slice e1 (c).bs.length f1, .int .u64 ((c).fe : Nat)] rfl rfl thP rfl (all_oneCell_toArray (List.all_eq_true.1 (show List.all ([.slice a1 (c).ns.length c1, .slice b1 (c).ts.length d1, .slice e1 (c).bs.length f1, .int .u64 ((c).fe : Nat)] : List Value) (fun v => v.oneCell') = true from rfl))) ?_
    rw [show (#[.slice a1 (c).ns.length c1, .slice b1 (c).ts.length d1, .slice e1 (c).bs.length f1, .int .u64 ((c).fe : Nat)] : Array Value).toList = [.slice a1 (c).ns.length c1, .slice b1 (c).ts.length d1, .slice e1 (c).bs.length f1, .int .u64 ((c).fe : Nat)] from rfl]
    have HP : Hid (Hd.Bxn (w2.setCells w.heap.size 0 [.slice a1 (c).ns.length c1, .slice b1 (c).ts.length d1, .slice e1 (c).bs.length f1, .int .u64 ((c).fe : Nat)]) w.heap.size [.slice a1 (c).ns.length c1, .slice b1 (c).ts.length d1, .slice e1 (c).bs.length f1, .int .u64 ((c).fe : Nat)]) := HP2.out.all _ rfl
    have HB3 : Hid (Below w.heap.size w (w2.setCells w.heap.size 0 [.slice a1 (c).ns.length c1, .slice b1 (c).ts.length d1, .slice e1 (c).bs.length f1, .int .u64 ((c).fe : Nat)])) := below_setCells HB2.out (Nat.le_refl _) _ _
    have HK3 := Lib.hid (HK2.out.far (P := w.heap.size) HLP1.out 0 [.slice a1 (c).ns.length c1, .slice b1 (c).ts.length d1, .slice e1 (c).bs.length f1, .int .u64 ((c).fe : Nat)])
    clear thP HP2 HB2 HK2
    generalize w2.setCells w.heap.size 0 [.slice a1 (c).ns.length c1, .slice b1 (c).ts.length d1, .slice e1 (c).bs.length f1, .int .u64 ((c).fe : Nat)] = w3 at *
    refine wpList_plain rfl fun K hK => ?_
    go_simp
    refine hK _ _ ?_
    clear hK K
    refine wpList_nil ?_
    go_wp2
    go_loopg [24] l.length (fun gg i wx => ∃ k : Nat, k + gg = l.length ∧ i = .int .i64 k ∧ Aside (FS t w wx))
    case atStart => exact ⟨0, by omega, rfl, ⟨c, _, _, _, HP.out, HK3.out.books, hck, HB3.out, hft⟩⟩
    case round =>
      obtain ⟨k, hkg, rfl, HA⟩ := hrel
      clear HP HB3 HK3 hck hft
      cases gk with
      | zero =>
        obtain rfl : k = l.length := by omega
        clear hkg
        obtain ⟨c, vn, vt, vb, hp, hbk, hck, hb, hft⟩ := HA.out
        have HE := Lib.hid hb
        clear hp hbk hck hb hft HA
        go_wp2
        go_ret
        exact ⟨rfl, HE.out⟩
      | succ gg =>
        have hlk : k < l.length := by omega
        have t2 : (k : Int) < (l.length : Int) := by omega
        have t3 : IntKind.i64.wrap ((k : Int) + 1) = (k : Int) + 1 := by rw [IntKind.wrap_i64]; omega
        have t4 : (0 : Int) ≤ (k : Int) := by omega
        obtain ⟨c, vn, vt, vb, hp, hbk, hck, hb, hft⟩ := HA.out
        obtain ⟨⟨a1, c1, rfl⟩, ⟨b1, d1, rfl⟩, ⟨e1, f1, rfl⟩⟩ := And.intro hbk.hn.slice (And.intro hbk.ht.slice hbk.hb.slice)
        have HPr : Hid (Hd.Bxn wr w.heap.size [.slice a1 (c).ns.length c1, .slice b1 (c).ts.length d1, .slice e1 (c).bs.length f1, .int .u64 ((c).fe : Nat)]) := hp
        have HBr : Hid (Below w.heap.size w wr) := hb
        have HKr : Hid (Books wr wr.heap.size (.slice a1 (c).ns.length c1) (.slice b1 (c).ts.length d1) (.slice e1 (c).bs.length f1) (c)) := hbk
        obtain ⟨g, o, rfl, -, hgl, hcc⟩ := HLC.out (by omega)
        obtain ⟨x, hxe⟩ : ∃ x, x = l[k] := ⟨_, rfl⟩
        have hdx := (HLD.out l[k] (List.getElem_mem hlk)).1
        have hfx := (HLD.out l[k] (List.getElem_mem hlk)).2
        have hrow0 : At wr g (o + k * 19) l[k] := (hcc k hlk).keep hb hgl
        rw [← hxe] at hdx hfx hrow0
        have hrow : wr.rangeAt g (o + k * 19) [.int .u8 (x.C.k : Nat), .string x.C.nd.n, .int .i64 x.C.nd.z0, .int .i64 x.C.nd.z1, .int .i64 x.C.nd.z2, .slice x.a2 x.C.nd.ls.length x.c2, .slice x.a3 x.C.nd.ts.length x.c3, .string x.C.td.n, .int .i64 x.C.td.z0, .int .i64 x.C.td.z1, .int .i64 x.C.td.z2, .slice x.a4 x.C.td.ws.length x.c4, .slice x.a5 x.C.td.bs.length x.c5, .string x.C.td.g, .string x.C.td.a, .int .i64 x.C.td.r, .string x.C.na, .string x.C.on, .int .u64 (x.C.fe : Nat)] := rng_at hrow0
        have HDX : Hid (∀ z, Hid (Below w.heap.size w z) → DeepO z z.heap.size x) := fun z hz => hdx.on hz.out
        have HFX := Lib.hid hfx
        clear hp hbk hb hcc hxe hdx hfx hrow0 HA HBK
        by_cases h60 : k = 60
        · subst h60
          go_upto_region 8 with fail
          refine wp_region_list ?_
          refine wpList_plain rfl fun K hK => ?_
          go_simp
          refine hK _ _ ?_
          clear hK K
          refine wpList_plain rfl fun K hK => ?_
          go_simp
          refine hK _ _ ?_
          clear hK K
          refine wpList_load_mid rfl 36 (.tmp 27) rfl (g) (o + 60 * 19) rfl [.int .u8 (x.C.k : Nat), .string x.C.nd.n, .int .i64 x.C.nd.z0, .int .i64 x.C.nd.z1, .int .i64 x.C.nd.z2, .slice x.a2 x.C.nd.ls.length x.c2, .slice x.a3 x.C.nd.ts.length x.c3, .string x.C.td.n, .int .i64 x.C.td.z0, .int .i64 x.C.td.z1, .int .i64 x.C.td.z2, .slice x.a4 x.C.td.ws.length x.c4, .slice x.a5 x.C.td.bs.length x.c5, .string x.C.td.g, .string x.C.td.a, .int .i64 x.C.td.r, .string x.C.na, .string x.C.on, .int .u64 (x.C.fe : Nat)] _ (hrow) Tryz.underlying36 rfl rfl ?_
          refine wpList_plain rfl fun K hK => ?_
          go_simp
          refine hK _ _ ?_
          clear hK K
          refine wpList_plain rfl fun K hK => ?_
          go_simp
          refine hK _ _ ?_
          clear hK K
          obtain ⟨th1, hbz, hx1⟩ := one_made wr [.int .u8 0, .string ⟨#[]⟩, .int .i64 0, .int .i64 0, .int .i64 0, .slice none 0 0, .slice none 0 0, .string ⟨#[]⟩, .int .i64 0, .int .i64 0, .int .i64 0, .slice none 0 0, .slice none 0 0, .string ⟨#[]⟩, .string ⟨#[]⟩, .int .i64 0, .string ⟨#[]⟩, .string ⟨#[]⟩, .int .u64 0] [.int .u8 (x.C.k : Nat), .string x.C.nd.n, .int .i64 x.C.nd.z0, .int .i64 x.C.nd.z1, .int .i64 x.C.nd.z2, .slice x.a2 x.C.nd.ls.length x.c2, .slice x.a3 x.C.nd.ts.length x.c3, .string x.C.td.n, .int .i64 x.C.td.z0, .int .i64 x.C.td.z1, .int .i64 x.C.td.z2, .slice x.a4 x.C.td.ws.length x.c4, .slice x.a5 x.C.td.bs.length x.c5, .string x.C.td.g, .string x.C.td.a, .int .i64 x.C.td.r, .string x.C.na, .string x.C.on, .int .u64 (x.C.fe : Nat)] 36 rfl
          refine wpList_store_mid rfl 36 (.tmp 9) (.tmp 28) rfl (wr.heap.size) 0 #[.int .u8 (x.C.k : Nat), .string x.C.nd.n, .int .i64 x.C.nd.z0, .int .i64 x.C.nd.z1, .int .i64 x.C.nd.z2, .slice x.a2 x.C.nd.ls.length x.c2, .slice x.a3 x.C.nd.ts.length x.c3, .string x.C.td.n, .int .i64 x.C.td.z0, .int .i64 x.C.td.z1, .int .i64 x.C.td.z2, .slice x.a4 x.C.td.ws.length x.c4, .slice x.a5 x.C.td.bs.length x.c5, .string x.C.td.g, .string x.C.td.a, .int .i64 x.C.td.r, .string x.C.na, .string x.C.on, .int .u64 (x.C.fe : Nat)] rfl rfl th1 rfl (all_oneCell_toArray (List.all_eq_true.1 (show List.all ([.int .u8 (x.C.k : Nat), .string x.C.nd.n, .int .i64 x.C.nd.z0, .int .i64 x.C.nd.z1, .int .i64 x.C.nd.z2, .slice x.a2 x.C.nd.ls.length x.c2, .slice x.a3 x.C.nd.ts.length x.c3, .string x.C.td.n, .int .i64 x.C.td.z0, .int .i64 x.C.td.z1, .int .i64 x.C.td.z2, .slice x.a4 x.C.td.ws.length x.c4, .slice x.a5 x.C.td.bs.length x.c5, .string x.C.td.g, .string x.C.td.a, .int .i64 x.C.td.r, .string x.C.na, .string x.C.on, .int .u64 (x.C.fe : Nat)] : List Value) (fun v => v.oneCell') = true from rfl))) ?_
          rw [show (#[.int .u8 (x.C.k : Nat), .string x.C.nd.n, .int .i64 x.C.nd.z0, .int .i64 x.C.nd.z1, .int .i64 x.C.nd.z2, .slice x.a2 x.C.nd.ls.length x.c2, .slice x.a3 x.C.nd.ts.length x.c3, .string x.C.td.n, .int .i64 x.C.td.z0, .int .i64 x.C.td.z1, .int .i64 x.C.td.z2, .slice x.a4 x.C.td.ws.length x.c4, .slice x.a5 x.C.td.bs.length x.c5, .string x.C.td.g, .string x.C.td.a, .int .i64 x.C.td.r, .string x.C.na, .string x.C.on, .int .u64 (x.C.fe : Nat)] : Array Value).toList = [.int .u8 (x.C.k : Nat), .string x.C.nd.n, .int .i64 x.C.nd.z0, .int .i64 x.C.nd.z1, .int .i64 x.C.nd.z2, .slice x.a2 x.C.nd.ls.length x.c2, .slice x.a3 x.C.nd.ts.length x.c3, .string x.C.td.n, .int .i64 x.C.td.z0, .int .i64 x.C.td.z1, .int .i64 x.C.td.z2, .slice x.a4 x.C.td.ws.length x.c4, .slice x.a5 x.C.td.bs.length x.c5, .string x.C.td.g, .string x.C.td.a, .int .i64 x.C.td.r, .string x.C.na, .string x.C.on, .int .u64 (x.C.fe : Nat)] from rfl]
          clear th1 hrow
          generalize (wr.alloc (.cells #[.int .u8 0, .string ⟨#[]⟩, .int .i64 0, .int .i64 0, .int .i64 0, .slice none 0 0, .slice none 0 0, .string ⟨#[]⟩, .int .i64 0, .int .i64 0, .int .i64 0, .slice none 0 0, .slice none 0 0, .string ⟨#[]⟩, .string ⟨#[]⟩, .int .i64 0, .string ⟨#[]⟩, .string ⟨#[]⟩, .int .u64 0] 36)).setCells wr.heap.size 0 [.int .u8 (x.C.k : Nat), .string x.C.nd.n, .int .i64 x.C.nd.z0, .int .i64 x.C.nd.z1, .int .i64 x.C.nd.z2, .slice x.a2 x.C.nd.ls.length x.c2, .slice x.a3 x.C.nd.ts.length x.c3, .string x.C.td.n, .int .i64 x.C.td.z0, .int .i64 x.C.td.z1, .int .i64 x.C.td.z2, .slice x.a4 x.C.td.ws.length x.c4, .slice x.a5 x.C.td.bs.length x.c5, .string x.C.td.g, .string x.C.td.a, .int .i64 x.C.td.r, .string x.C.na, .string x.C.on, .int .u64 (x.C.fe : Nat)] = w3 at *
          have HP := Lib.hid (HPr.out.below hbz)
          have HQ := Lib.hid hx1
          have HB3 : Hid (Below w.heap.size w w3) := HBr.out.trans (hbz.mono HBr.out.size)
          have HBC := Lib.hid (HKr.out.on hbz)
          clear hbz hx1 HPr HBr HKr
          refine wpList_nil ?_
          go_wp2
          go_ret
          exact ⟨rfl, HB3.out⟩
        · have t9 : ((k : Int) == 60) = false := by simp; omega
          have t10 : ¬ (k : Int) = 60 := by omega
          go_upto_region 8 with fail
          refine wp_region_list ?_
          refine wpList_plain rfl fun K hK => ?_
          go_simp
          refine hK _ _ ?_
          clear hK K
          refine wpList_plain rfl fun K hK => ?_
          go_simp
          refine hK _ _ ?_
          clear hK K
          refine wpList_load_mid rfl 36 (.tmp 27) rfl (g) (o + k * 19) rfl [.int .u8 (x.C.k : Nat), .string x.C.nd.n, .int .i64 x.C.nd.z0, .int .i64 x.C.nd.z1, .int .i64 x.C.nd.z2, .slice x.a2 x.C.nd.ls.length x.c2, .slice x.a3 x.C.nd.ts.length x.c3, .string x.C.td.n, .int .i64 x.C.td.z0, .int .i64 x.C.td.z1, .int .i64 x.C.td.z2, .slice x.a4 x.C.td.ws.length x.c4, .slice x.a5 x.C.td.bs.length x.c5, .string x.C.td.g, .string x.C.td.a, .int .i64 x.C.td.r, .string x.C.na, .string x.C.on, .int .u64 (x.C.fe : Nat)] _ (hrow) Tryz.underlying36 rfl rfl ?_
          refine wpList_plain rfl fun K hK => ?_
          go_simp
          refine hK _ _ ?_
          clear hK K
          refine wpList_plain rfl fun K hK => ?_
          go_simp
          refine hK _ _ ?_
          clear hK K
          obtain ⟨th1, hbz, hx1⟩ := one_made wr [.int .u8 0, .string ⟨#[]⟩, .int .i64 0, .int .i64 0, .int .i64 0, .slice none 0 0, .slice none 0 0, .string ⟨#[]⟩, .int .i64 0, .int .i64 0, .int .i64 0, .slice none 0 0, .slice none 0 0, .string ⟨#[]⟩, .string ⟨#[]⟩, .int .i64 0, .string ⟨#[]⟩, .string ⟨#[]⟩, .int .u64 0] [.int .u8 (x.C.k : Nat), .string x.C.nd.n, .int .i64 x.C.nd.z0, .int .i64 x.C.nd.z1, .int .i64 x.C.nd.z2, .slice x.a2 x.C.nd.ls.length x.c2, .slice x.a3 x.C.nd.ts.length x.c3, .string x.C.td.n, .int .i64 x.C.td.z0, .int .i64 x.C.td.z1, .int .i64 x.C.td.z2, .slice x.a4 x.C.td.ws.length x.c4, .slice x.a5 x.C.td.bs.length x.c5, .string x.C.td.g, .string x.C.td.a, .int .i64 x.C.td.r, .string x.C.na, .string x.C.on, .int .u64 (x.C.fe : Nat)] 36 rfl
          refine wpList_store_mid rfl 36 (.tmp 9) (.tmp 28) rfl (wr.heap.size) 0 #[.int .u8 (x.C.k : Nat), .string x.C.nd.n, .int .i64 x.C.nd.z0, .int .i64 x.C.nd.z1, .int .i64 x.C.nd.z2, .slice x.a2 x.C.nd.ls.length x.c2, .slice x.a3 x.C.nd.ts.length x.c3, .string x.C.td.n, .int .i64 x.C.td.z0, .int .i64 x.C.td.z1, .int .i64 x.C.td.z2, .slice x.a4 x.C.td.ws.length x.c4, .slice x.a5 x.C.td.bs.length x.c5, .string x.C.td.g, .string x.C.td.a, .int .i64 x.C.td.r, .string x.C.na, .string x.C.on, .int .u64 (x.C.fe : Nat)] rfl rfl th1 rfl (all_oneCell_toArray (List.all_eq_true.1 (show List.all ([.int .u8 (x.C.k : Nat), .string x.C.nd.n, .int .i64 x.C.nd.z0, .int .i64 x.C.nd.z1, .int .i64 x.C.nd.z2, .slice x.a2 x.C.nd.ls.length x.c2, .slice x.a3 x.C.nd.ts.length x.c3, .string x.C.td.n, .int .i64 x.C.td.z0, .int .i64 x.C.td.z1, .int .i64 x.C.td.z2, .slice x.a4 x.C.td.ws.length x.c4, .slice x.a5 x.C.td.bs.length x.c5, .string x.C.td.g, .string x.C.td.a, .int .i64 x.C.td.r, .string x.C.na, .string x.C.on, .int .u64 (x.C.fe : Nat)] : List Value) (fun v => v.oneCell') = true from rfl))) ?_
          rw [show (#[.int .u8 (x.C.k : Nat), .string x.C.nd.n, .int .i64 x.C.nd.z0, .int .i64 x.C.nd.z1, .int .i64 x.C.nd.z2, .slice x.a2 x.C.nd.ls.length x.c2, .slice x.a3 x.C.nd.ts.length x.c3, .string x.C.td.n, .int .i64 x.C.td.z0, .int .i64 x.C.td.z1, .int .i64 x.C.td.z2, .slice x.a4 x.C.td.ws.length x.c4, .slice x.a5 x.C.td.bs.length x.c5, .string x.C.td.g, .string x.C.td.a, .int .i64 x.C.td.r, .string x.C.na, .string x.C.on, .int .u64 (x.C.fe : Nat)] : Array Value).toList = [.int .u8 (x.C.k : Nat), .string x.C.nd.n, .int .i64 x.C.nd.z0, .int .i64 x.C.nd.z1, .int .i64 x.C.nd.z2, .slice x.a2 x.C.nd.ls.length x.c2, .slice x.a3 x.C.nd.ts.length x.c3, .string x.C.td.n, .int .i64 x.C.td.z0, .int .i64 x.C.td.z1, .int .i64 x.C.td.z2, .slice x.a4 x.C.td.ws.length x.c4, .slice x.a5 x.C.td.bs.length x.c5, .string x.C.td.g, .string x.C.td.a, .int .i64 x.C.td.r, .string x.C.na, .string x.C.on, .int .u64 (x.C.fe : Nat)] from rfl]
          clear th1 hrow
          generalize (wr.alloc (.cells #[.int .u8 0, .string ⟨#[]⟩, .int .i64 0, .int .i64 0, .int .i64 0, .slice none 0 0, .slice none 0 0, .string ⟨#[]⟩, .int .i64 0, .int .i64 0, .int .i64 0, .slice none 0 0, .slice none 0 0, .string ⟨#[]⟩, .string ⟨#[]⟩, .int .i64 0, .string ⟨#[]⟩, .string ⟨#[]⟩, .int .u64 0] 36)).setCells wr.heap.size 0 [.int .u8 (x.C.k : Nat), .string x.C.nd.n, .int .i64 x.C.nd.z0, .int .i64 x.C.nd.z1, .int .i64 x.C.nd.z2, .slice x.a2 x.C.nd.ls.length x.c2, .slice x.a3 x.C.nd.ts.length x.c3, .string x.C.td.n, .int .i64 x.C.td.z0, .int .i64 x.C.td.z1, .int .i64 x.C.td.z2, .slice x.a4 x.C.td.ws.length x.c4, .slice x.a5 x.C.td.bs.length x.c5, .string x.C.td.g, .string x.C.td.a, .int .i64 x.C.td.r, .string x.C.na, .string x.C.on, .int .u64 (x.C.fe : Nat)] = w3 at *
          have HP := Lib.hid (HPr.out.below hbz)
          have HQ := Lib.hid hx1
          have HB3 : Hid (Below w.heap.size w w3) := HBr.out.trans (hbz.mono HBr.out.size)
          have HBC := Lib.hid (HKr.out.on hbz)
          clear hbz hx1 HPr HBr HKr
          refine wpList_nil ?_
          have HLP : Hid (w.heap.size < w3.heap.size) := HP.out.lt
          rcases fence_plain hck x.C hft with ⟨hk5, hlo, r, s, hr | hr, h1⟩ | ⟨hno, cq, r, s, h1, hck2, hfe2⟩
          · subst hr
            have HD1 : Hid (∀ z g1 n1 g2 n2 g3 n3, Hid (Below w.heap.size w z) → Hid (Books z z.heap.size (.slice g1 (c).ns.length n1) (.slice g2 (c).ts.length n2) (.slice g3 (c).bs.length n3) (c)) → Calls Tryz.prog 11 #[.agg #[.slice g1 (c).ns.length n1, .slice g2 (c).ts.length n2, .slice g3 (c).bs.length n3, .int .u64 ((c).fe : Nat)], .agg #[.int .u8 (x.C.k : Nat), .string x.C.nd.n, .int .i64 x.C.nd.z0, .int .i64 x.C.nd.z1, .int .i64 x.C.nd.z2, .slice x.a2 x.C.nd.ls.length x.c2, .slice x.a3 x.C.nd.ts.length x.c3, .string x.C.td.n, .int .i64 x.C.td.z0, .int .i64 x.C.td.z1, .int .i64 x.C.td.z2, .slice x.a4 x.C.td.ws.length x.c4, .slice x.a5 x.C.td.bs.length x.c5, .string x.C.td.g, .string x.C.td.a, .int .i64 x.C.td.r, .string x.C.na, .string x.C.on, .int .u64 (x.C.fe : Nat)]] z fun e w' => ∃ vn' vt' vb', e = .returned (.tuple #[.agg #[vn', vt', vb', .int .u64 ((c).fe : Nat)], .agg #[.int .i64 14, .string s]]) ∧ Kept z w' (c) vn' vt' vb' ∧ Below z.heap.size z w') := fun z g1 n1 g2 n2 g3 n3 hwz hz => do_use (c) (c) _ _ _ _ _ x.C _ _ _ _ _ _ _ _ z hz.out (HDX.out z hwz).hn HFX.out.fn (HDX.out z hwz).ht HFX.out.ft HFX.out.fb h1
            clear h1
            have t20 : ¬ ((c).fe : Int) < (t : Int) := by omega
            have t21 : (x.C.fe : Int) < (t : Int) := by omega
            have HKN := Lib.hid hk5
            clear hk5
            go_upto_region 10 with fail
            refine wp_region_list ?_
            refine wpList_load_mid rfl 27 (.tmp 3) rfl (w.heap.size) (0) rfl [.slice a1 (c).ns.length c1, .slice b1 (c).ts.length d1, .slice e1 (c).bs.length f1, .int .u64 ((c).fe : Nat)] _ (HP.out.range 0) Tryz.underlying27 rfl rfl ?_
            refine wpList_load_mid rfl 36 (.tmp 9) rfl (wr.heap.size) (0) rfl [.int .u8 (x.C.k : Nat), .string x.C.nd.n, .int .i64 x.C.nd.z0, .int .i64 x.C.nd.z1, .int .i64 x.C.nd.z2, .slice x.a2 x.C.nd.ls.length x.c2, .slice x.a3 x.C.nd.ts.length x.c3, .string x.C.td.n, .int .i64 x.C.td.z0, .int .i64 x.C.td.z1, .int .i64 x.C.td.z2, .slice x.a4 x.C.td.ws.length x.c4, .slice x.a5 x.C.td.bs.length x.c5, .string x.C.td.g, .string x.C.td.a, .int .i64 x.C.td.r, .string x.C.na, .string x.C.on, .int .u64 (x.C.fe : Nat)] _ (HQ.out.range 0) Tryz.underlying36 rfl rfl ?_
            refine wpList_plain rfl fun K hK => ?_
            go_wp2_with fail
            refine (HD1.out w3 _ _ _ _ _ _ HB3 HBC).mono ?_
            rintro e x1m ⟨v1, v2, v3, rfl, hkp, hb⟩
            obtain ⟨⟨a2, c2, rfl⟩, ⟨b2, d2, rfl⟩, ⟨e2, f2, rfl⟩⟩ := hkp.slices
            refine hK _ _ ?_
            clear hK K
            have HPm := Lib.hid (HP.out.below hb)
            have HQm := Lib.hid (HQ.out.below hb)
            have HBx1m : Hid (Below w.heap.size w x1m) := HB3.out.trans (hb.mono HB3.out.size)
            have HUx1m : Hid (Below w3.heap.size w3 x1m) := hb
            have HKx1 := Lib.hid hkp
            clear hb hkp
            refine wpList_plain rfl fun K hK => ?_
            go_simp
            refine hK _ _ ?_
            clear hK K
            refine wpList_plain rfl fun K hK => ?_
            go_simp
            refine hK _ _ ?_
            clear hK K
            refine wpList_plain rfl fun K hK => ?_
            go_simp
            refine hK _ _ ?_
            clear hK K
            refine wpList_plain rfl fun K hK => ?_
            go_simp
            refine hK _ _ ?_
            clear hK K
            refine wpList_plain rfl fun K hK => ?_
            go_simp
            refine hK _ _ ?_
            clear hK K
            obtain ⟨th1, th2, hbz, hx1, hx2⟩ := two_made x1m [.slice none 0 0, .slice none 0 0, .slice none 0 0, .int .u64 0] [.int .i64 0, .string ⟨#[]⟩] [.slice a2 (c).ns.length c2, .slice b2 (c).ts.length d2, .slice e2 (c).bs.length f2, .int .u64 ((c).fe : Nat)] [.int .i64 14, .string s] 27 40 rfl rfl
            refine wpList_store_mid rfl 27 (.tmp 10) (.tmp 35) rfl (x1m.heap.size) 0 #[.slice a2 (c).ns.length c2, .slice b2 (c).ts.length d2, .slice e2 (c).bs.length f2, .int .u64 ((c).fe : Nat)] rfl rfl th1 rfl (all_oneCell_toArray (List.all_eq_true.1 (show List.all ([.slice a2 (c).ns.length c2, .slice b2 (c).ts.length d2, .slice e2 (c).bs.length f2, .int .u64 ((c).fe : Nat)] : List Value) (fun v => v.oneCell') = true from rfl))) ?_
            rw [show (#[.slice a2 (c).ns.length c2, .slice b2 (c).ts.length d2, .slice e2 (c).bs.length f2, .int .u64 ((c).fe : Nat)] : Array Value).toList = [.slice a2 (c).ns.length c2, .slice b2 (c).ts.length d2, .slice e2 (c).bs.length f2, .int .u64 ((c).fe : Nat)] from rfl]
            refine wpList_store_mid rfl 40 (.tmp 11) (.tmp 36) rfl (x1m.heap.size + 1) 0 #[.int .i64 14, .string s] rfl rfl th2 rfl (all_oneCell_toArray (List.all_eq_true.1 (show List.all ([.int .i64 14, .string s] : List Value) (fun v => v.oneCell') = true from rfl))) ?_
            rw [show (#[.int .i64 14, .string s] : Array Value).toList = [.int .i64 14, .string s] from rfl]
            clear th1 th2
            generalize (((x1m.alloc (.cells #[.slice none 0 0, .slice none 0 0, .slice none 0 0, .int .u64 0] 27)).alloc (.cells #[.int .i64 0, .string ⟨#[]⟩] 40)).setCells x1m.heap.size 0 [.slice a2 (c).ns.length c2, .slice b2 (c).ts.length d2, .slice e2 (c).bs.length f2, .int .u64 ((c).fe : Nat)]).setCells (x1m.heap.size + 1) 0 [.int .i64 14, .string s] = x1 at *
            refine wpList_nil ?_
            have HP2 := Lib.hid (HPm.out.below hbz)
            clear HP HPm
            have HP := HP2
            clear HP2
            have HQ2 := Lib.hid (HQm.out.below hbz)
            clear HQ HQm
            have HQ := HQ2
            clear HQ2
            have HBx1 : Hid (Below w.heap.size w x1) := HBx1m.out.trans (hbz.mono HBx1m.out.size)
            have HUx1 : Hid (Below w3.heap.size w3 x1) := HUx1m.out.trans (hbz.mono HUx1m.out.size)
            have HKNx1 := Lib.hid (HKx1.out.keep hbz)
            have HXx1 := Lib.hid hx1
            have HTx1 := Lib.hid hx2
            clear hbz hx1 hx2 HKx1 HBx1m HUx1m
            have HPs := Lib.hid HP.out
            have HXs := Lib.hid HXx1.out
            have HTs := Lib.hid HTx1.out
            have HQs := Lib.hid HQ.out
            have HBs := Lib.hid (HBC.out.on HUx1.out)
            have HKs := Lib.hid HKNx1.out.books
            have HKKs := Lib.hid HKNx1.out
            have HEs : Hid (Below w.heap.size w x1) := HBx1.out
            clear HBC HD1 HP HXx1 HTx1 HQ HKNx1 HBx1
            have u0 : x1.cell? ⟨x1m.heap.size, 3, none⟩ = some (.int .u64 ((c).fe : Nat)) := HXs.out.cell 3
            have u1 : x1.cell? ⟨w.heap.size, 3, none⟩ = some (.int .u64 ((c).fe : Nat)) := HPs.out.cell 3
            go_upto_region 13 with fail
            clear u0 u1
            have t0 : x1.cell? ⟨x1m.heap.size + 1, 0, none⟩ = some (.int .i64 14) := HTs.out.cell 0
            have o0 : x1.cell? ⟨wr.heap.size, 0, none⟩ = some (.int .u8 5) := by have h := HQs.out.cell 0; rw [HKN.out] at h; exact h
            have o5 : x1.cell? ⟨wr.heap.size, 18, none⟩ = some (.int .u64 (x.C.fe : Nat)) := HQs.out.cell 18
            have p0 : x1.cell? ⟨w.heap.size, 0, none⟩ = some (.slice a1 (c).ns.length c1) := HPs.out.cell 0
            have p1 : x1.cell? ⟨w.heap.size, 1, none⟩ = some (.slice b1 (c).ts.length d1) := HPs.out.cell 1
            have p2 : x1.cell? ⟨w.heap.size, 2, none⟩ = some (.slice e1 (c).bs.length f1) := HPs.out.cell 2
            have p3 : x1.cell? ⟨w.heap.size, 3, none⟩ = some (.int .u64 ((c).fe : Nat)) := HPs.out.cell 3
            have q0 : x1.cell? ⟨x1m.heap.size, 0, none⟩ = some (.slice a2 (c).ns.length c2) := HXs.out.cell 0
            have q1 : x1.cell? ⟨x1m.heap.size, 1, none⟩ = some (.slice b2 (c).ts.length d2) := HXs.out.cell 1
            have q2 : x1.cell? ⟨x1m.heap.size, 2, none⟩ = some (.slice e2 (c).bs.length f2) := HXs.out.cell 2
            have q3 : x1.cell? ⟨x1m.heap.size, 3, none⟩ = some (.int .u64 ((c).fe : Nat)) := HXs.out.cell 3
            have HSM := Lib.hid (same_true c _ _ _ _ _ _ x1 HBs.out HKs.out)
            go_wp2_with fail
            refine HSM.out.mono ?_
            rintro e w6 ⟨rfl, hb⟩
            have HPt := Lib.hid (HPs.out.below hb)
            have HXt := Lib.hid (HXs.out.below hb)
            have HTt := Lib.hid (HTs.out.below hb)
            have HQt := Lib.hid (HQs.out.below hb)
            have HBt := Lib.hid (HBs.out.on hb)
            have HKt := Lib.hid (HKs.out.on hb)
            have HKKt := Lib.hid (HKKs.out.keep hb)
            have HEt : Hid (Below w.heap.size w w6) := HEs.out.trans (hb.mono HEs.out.size)
            clear hb p0 p1 p2 p3 q0 q1 q2 q3 HSM HPs HXs HTs HQs HBs HKs HKKs HEs t0 o0 o5
            have HPs := HPt
            clear HPt
            have HXs := HXt
            clear HXt
            have HTs := HTt
            clear HTt
            have HQs := HQt
            clear HQt
            have HBs := HBt
            clear HBt
            have HKs := HKt
            clear HKt
            have HKKs := HKKt
            clear HKKt
            have HEs := HEt
            clear HEt
            go_upto_region 15 with fail
            refine wp_region_list ?_
            refine wpList_load_mid rfl 27 (.tmp 10) rfl (x1m.heap.size) (0) rfl [.slice a2 (c).ns.length c2, .slice b2 (c).ts.length d2, .slice e2 (c).bs.length f2, .int .u64 ((c).fe : Nat)] _ (HXs.out.range 0) Tryz.underlying27 rfl rfl ?_
            have thP := HPs.out.there 4 rfl
            refine wpList_store_mid rfl 27 (.tmp 3) (.tmp 73) rfl (w.heap.size) 0 #[.slice a2 (c).ns.length c2, .slice b2 (c).ts.length d2, .slice e2 (c).bs.length f2, .int .u64 ((c).fe : Nat)] rfl rfl thP rfl (all_oneCell_toArray (List.all_eq_true.1 (show List.all ([.slice a2 (c).ns.length c2, .slice b2 (c).ts.length d2, .slice e2 (c).bs.length f2, .int .u64 ((c).fe : Nat)] : List Value) (fun v => v.oneCell') = true from rfl))) ?_
            rw [show (#[.slice a2 (c).ns.length c2, .slice b2 (c).ts.length d2, .slice e2 (c).bs.length f2, .int .u64 ((c).fe : Nat)] : Array Value).toList = [.slice a2 (c).ns.length c2, .slice b2 (c).ts.length d2, .slice e2 (c).bs.length f2, .int .u64 ((c).fe : Nat)] from rfl]
            have HP7 : Hid (Hd.Bxn (w6.setCells w.heap.size 0 [.slice a2 (c).ns.length c2, .slice b2 (c).ts.length d2, .slice e2 (c).bs.length f2, .int .u64 ((c).fe : Nat)]) w.heap.size [.slice a2 (c).ns.length c2, .slice b2 (c).ts.length d2, .slice e2 (c).bs.length f2, .int .u64 ((c).fe : Nat)]) := HPs.out.all _ rfl
            have HB7 : Hid (Below w.heap.size w (w6.setCells w.heap.size 0 [.slice a2 (c).ns.length c2, .slice b2 (c).ts.length d2, .slice e2 (c).bs.length f2, .int .u64 ((c).fe : Nat)])) := below_setCells HEs.out (Nat.le_refl _) _ _
            have HK7 := Lib.hid (HKKs.out.far (P := w.heap.size) HLP.out 0 [.slice a2 (c).ns.length c2, .slice b2 (c).ts.length d2, .slice e2 (c).bs.length f2, .int .u64 ((c).fe : Nat)])
            clear thP
            generalize w6.setCells w.heap.size 0 [.slice a2 (c).ns.length c2, .slice b2 (c).ts.length d2, .slice e2 (c).bs.length f2, .int .u64 ((c).fe : Nat)] = w8 at *
            refine wpList_nil ?_
            go_wp2
            go_roundg gg
            case measure => omega
            case rel => exact ⟨k + 1, by omega, by simp, ⟨_, _, _, _, HP7.out, HK7.out.books, hck, HB7.out, hft⟩⟩
          · subst hr
            have HD1 : Hid (∀ z g1 n1 g2 n2 g3 n3, Hid (Below w.heap.size w z) → Hid (Books z z.heap.size (.slice g1 (c).ns.length n1) (.slice g2 (c).ts.length n2) (.slice g3 (c).bs.length n3) (c)) → Calls Tryz.prog 11 #[.agg #[.slice g1 (c).ns.length n1, .slice g2 (c).ts.length n2, .slice g3 (c).bs.length n3, .int .u64 ((c).fe : Nat)], .agg #[.int .u8 (x.C.k : Nat), .string x.C.nd.n, .int .i64 x.C.nd.z0, .int .i64 x.C.nd.z1, .int .i64 x.C.nd.z2, .slice x.a2 x.C.nd.ls.length x.c2, .slice x.a3 x.C.nd.ts.length x.c3, .string x.C.td.n, .int .i64 x.C.td.z0, .int .i64 x.C.td.z1, .int .i64 x.C.td.z2, .slice x.a4 x.C.td.ws.length x.c4, .slice x.a5 x.C.td.bs.length x.c5, .string x.C.td.g, .string x.C.td.a, .int .i64 x.C.td.r, .string x.C.na, .string x.C.on, .int .u64 (x.C.fe : Nat)]] z fun e w' => ∃ vn' vt' vb', e = .returned (.tuple #[.agg #[vn', vt', vb', .int .u64 ((c).fe : Nat)], .agg #[.int .i64 4, .string s]]) ∧ Kept z w' (c) vn' vt' vb' ∧ Below z.heap.size z w') := fun z g1 n1 g2 n2 g3 n3 hwz hz => do_use (c) (c) _ _ _ _ _ x.C _ _ _ _ _ _ _ _ z hz.out (HDX.out z hwz).hn HFX.out.fn (HDX.out z hwz).ht HFX.out.ft HFX.out.fb h1
            clear h1
            have t20 : ¬ ((c).fe : Int) < (t : Int) := by omega
            have t21 : (x.C.fe : Int) < (t : Int) := by omega
            have HKN := Lib.hid hk5
            clear hk5
            go_upto_region 10 with fail
            refine wp_region_list ?_
            refine wpList_load_mid rfl 27 (.tmp 3) rfl (w.heap.size) (0) rfl [.slice a1 (c).ns.length c1, .slice b1 (c).ts.length d1, .slice e1 (c).bs.length f1, .int .u64 ((c).fe : Nat)] _ (HP.out.range 0) Tryz.underlying27 rfl rfl ?_
            refine wpList_load_mid rfl 36 (.tmp 9) rfl (wr.heap.size) (0) rfl [.int .u8 (x.C.k : Nat), .string x.C.nd.n, .int .i64 x.C.nd.z0, .int .i64 x.C.nd.z1, .int .i64 x.C.nd.z2, .slice x.a2 x.C.nd.ls.length x.c2, .slice x.a3 x.C.nd.ts.length x.c3, .string x.C.td.n, .int .i64 x.C.td.z0, .int .i64 x.C.td.z1, .int .i64 x.C.td.z2, .slice x.a4 x.C.td.ws.length x.c4, .slice x.a5 x.C.td.bs.length x.c5, .string x.C.td.g, .string x.C.td.a, .int .i64 x.C.td.r, .string x.C.na, .string x.C.on, .int .u64 (x.C.fe : Nat)] _ (HQ.out.range 0) Tryz.underlying36 rfl rfl ?_
            refine wpList_plain rfl fun K hK => ?_
            go_wp2_with fail
            refine (HD1.out w3 _ _ _ _ _ _ HB3 HBC).mono ?_
            rintro e x1m ⟨v1, v2, v3, rfl, hkp, hb⟩
            obtain ⟨⟨a2, c2, rfl⟩, ⟨b2, d2, rfl⟩, ⟨e2, f2, rfl⟩⟩ := hkp.slices
            refine hK _ _ ?_
            clear hK K
            have HPm := Lib.hid (HP.out.below hb)
            have HQm := Lib.hid (HQ.out.below hb)
            have HBx1m : Hid (Below w.heap.size w x1m) := HB3.out.trans (hb.mono HB3.out.size)
            have HUx1m : Hid (Below w3.heap.size w3 x1m) := hb
            have HKx1 := Lib.hid hkp
            clear hb hkp
            refine wpList_plain rfl fun K hK => ?_
            go_simp
            refine hK _ _ ?_
            clear hK K
            refine wpList_plain rfl fun K hK => ?_
            go_simp
            refine hK _ _ ?_
            clear hK K
            refine wpList_plain rfl fun K hK => ?_
            go_simp
            refine hK _ _ ?_
            clear hK K
            refine wpList_plain rfl fun K hK => ?_
            go_simp
            refine hK _ _ ?_
            clear hK K
            refine wpList_plain rfl fun K hK => ?_
            go_simp
            refine hK _ _ ?_
            clear hK K
            obtain ⟨th1, th2, hbz, hx1, hx2⟩ := two_made x1m [.slice none 0 0, .slice none 0 0, .slice none 0 0, .int .u64 0] [.int .i64 0, .string ⟨#[]⟩] [.slice a2 (c).ns.length c2, .slice b2 (c).ts.length d2, .slice e2 (c).bs.length f2, .int .u64 ((c).fe : Nat)] [.int .i64 4, .string s] 27 40 rfl rfl
            refine wpList_store_mid rfl 27 (.tmp 10) (.tmp 35) rfl (x1m.heap.size) 0 #[.slice a2 (c).ns.length c2, .slice b2 (c).ts.length d2, .slice e2 (c).bs.length f2, .int .u64 ((c).fe : Nat)] rfl rfl th1 rfl (all_oneCell_toArray (List.all_eq_true.1 (show List.all ([.slice a2 (c).ns.length c2, .slice b2 (c).ts.length d2, .slice e2 (c).bs.length f2, .int .u64 ((c).fe : Nat)] : List Value) (fun v => v.oneCell') = true from rfl))) ?_
            rw [show (#[.slice a2 (c).ns.length c2, .slice b2 (c).ts.length d2, .slice e2 (c).bs.length f2, .int .u64 ((c).fe : Nat)] : Array Value).toList = [.slice a2 (c).ns.length c2, .slice b2 (c).ts.length d2, .slice e2 (c).bs.length f2, .int .u64 ((c).fe : Nat)] from rfl]
            refine wpList_store_mid rfl 40 (.tmp 11) (.tmp 36) rfl (x1m.heap.size + 1) 0 #[.int .i64 4, .string s] rfl rfl th2 rfl (all_oneCell_toArray (List.all_eq_true.1 (show List.all ([.int .i64 4, .string s] : List Value) (fun v => v.oneCell') = true from rfl))) ?_
            rw [show (#[.int .i64 4, .string s] : Array Value).toList = [.int .i64 4, .string s] from rfl]
            clear th1 th2
            generalize (((x1m.alloc (.cells #[.slice none 0 0, .slice none 0 0, .slice none 0 0, .int .u64 0] 27)).alloc (.cells #[.int .i64 0, .string ⟨#[]⟩] 40)).setCells x1m.heap.size 0 [.slice a2 (c).ns.length c2, .slice b2 (c).ts.length d2, .slice e2 (c).bs.length f2, .int .u64 ((c).fe : Nat)]).setCells (x1m.heap.size + 1) 0 [.int .i64 4, .string s] = x1 at *
            refine wpList_nil ?_
            have HP2 := Lib.hid (HPm.out.below hbz)
            clear HP HPm
            have HP := HP2
            clear HP2
            have HQ2 := Lib.hid (HQm.out.below hbz)
            clear HQ HQm
            have HQ := HQ2
            clear HQ2
            have HBx1 : Hid (Below w.heap.size w x1) := HBx1m.out.trans (hbz.mono HBx1m.out.size)
            have HUx1 : Hid (Below w3.heap.size w3 x1) := HUx1m.out.trans (hbz.mono HUx1m.out.size)
            have HKNx1 := Lib.hid (HKx1.out.keep hbz)
            have HXx1 := Lib.hid hx1
            have HTx1 := Lib.hid hx2
            clear hbz hx1 hx2 HKx1 HBx1m HUx1m
            have HPs := Lib.hid HP.out
            have HXs := Lib.hid HXx1.out
            have HTs := Lib.hid HTx1.out
            have HQs := Lib.hid HQ.out
            have HBs := Lib.hid (HBC.out.on HUx1.out)
            have HKs := Lib.hid HKNx1.out.books
            have HKKs := Lib.hid HKNx1.out
            have HEs : Hid (Below w.heap.size w x1) := HBx1.out
            clear HBC HD1 HP HXx1 HTx1 HQ HKNx1 HBx1
            have u0 : x1.cell? ⟨x1m.heap.size, 3, none⟩ = some (.int .u64 ((c).fe : Nat)) := HXs.out.cell 3
            have u1 : x1.cell? ⟨w.heap.size, 3, none⟩ = some (.int .u64 ((c).fe : Nat)) := HPs.out.cell 3
            go_upto_region 13 with fail
            clear u0 u1
            have t0 : x1.cell? ⟨x1m.heap.size + 1, 0, none⟩ = some (.int .i64 4) := HTs.out.cell 0
            have o0 : x1.cell? ⟨wr.heap.size, 0, none⟩ = some (.int .u8 5) := by have h := HQs.out.cell 0; rw [HKN.out] at h; exact h
            have o5 : x1.cell? ⟨wr.heap.size, 18, none⟩ = some (.int .u64 (x.C.fe : Nat)) := HQs.out.cell 18
            have p0 : x1.cell? ⟨w.heap.size, 0, none⟩ = some (.slice a1 (c).ns.length c1) := HPs.out.cell 0
            have p1 : x1.cell? ⟨w.heap.size, 1, none⟩ = some (.slice b1 (c).ts.length d1) := HPs.out.cell 1
            have p2 : x1.cell? ⟨w.heap.size, 2, none⟩ = some (.slice e1 (c).bs.length f1) := HPs.out.cell 2
            have p3 : x1.cell? ⟨w.heap.size, 3, none⟩ = some (.int .u64 ((c).fe : Nat)) := HPs.out.cell 3
            have q0 : x1.cell? ⟨x1m.heap.size, 0, none⟩ = some (.slice a2 (c).ns.length c2) := HXs.out.cell 0
            have q1 : x1.cell? ⟨x1m.heap.size, 1, none⟩ = some (.slice b2 (c).ts.length d2) := HXs.out.cell 1
            have q2 : x1.cell? ⟨x1m.heap.size, 2, none⟩ = some (.slice e2 (c).bs.length f2) := HXs.out.cell 2
            have q3 : x1.cell? ⟨x1m.heap.size, 3, none⟩ = some (.int .u64 ((c).fe : Nat)) := HXs.out.cell 3
            have HSM := Lib.hid (same_true c _ _ _ _ _ _ x1 HBs.out HKs.out)
            go_wp2_with fail
            refine HSM.out.mono ?_
            rintro e w6 ⟨rfl, hb⟩
            have HPt := Lib.hid (HPs.out.below hb)
            have HXt := Lib.hid (HXs.out.below hb)
            have HTt := Lib.hid (HTs.out.below hb)
            have HQt := Lib.hid (HQs.out.below hb)
            have HBt := Lib.hid (HBs.out.on hb)
            have HKt := Lib.hid (HKs.out.on hb)
            have HKKt := Lib.hid (HKKs.out.keep hb)
            have HEt : Hid (Below w.heap.size w w6) := HEs.out.trans (hb.mono HEs.out.size)
            clear hb p0 p1 p2 p3 q0 q1 q2 q3 HSM HPs HXs HTs HQs HBs HKs HKKs HEs t0 o0 o5
            have HPs := HPt
            clear HPt
            have HXs := HXt
            clear HXt
            have HTs := HTt
            clear HTt
            have HQs := HQt
            clear HQt
            have HBs := HBt
            clear HBt
            have HKs := HKt
            clear HKt
            have HKKs := HKKt
            clear HKKt
            have HEs := HEt
            clear HEt
            go_upto_region 15 with fail
            refine wp_region_list ?_
            refine wpList_load_mid rfl 27 (.tmp 10) rfl (x1m.heap.size) (0) rfl [.slice a2 (c).ns.length c2, .slice b2 (c).ts.length d2, .slice e2 (c).bs.length f2, .int .u64 ((c).fe : Nat)] _ (HXs.out.range 0) Tryz.underlying27 rfl rfl ?_
            have thP := HPs.out.there 4 rfl
            refine wpList_store_mid rfl 27 (.tmp 3) (.tmp 73) rfl (w.heap.size) 0 #[.slice a2 (c).ns.length c2, .slice b2 (c).ts.length d2, .slice e2 (c).bs.length f2, .int .u64 ((c).fe : Nat)] rfl rfl thP rfl (all_oneCell_toArray (List.all_eq_true.1 (show List.all ([.slice a2 (c).ns.length c2, .slice b2 (c).ts.length d2, .slice e2 (c).bs.length f2, .int .u64 ((c).fe : Nat)] : List Value) (fun v => v.oneCell') = true from rfl))) ?_
            rw [show (#[.slice a2 (c).ns.length c2, .slice b2 (c).ts.length d2, .slice e2 (c).bs.length f2, .int .u64 ((c).fe : Nat)] : Array Value).toList = [.slice a2 (c).ns.length c2, .slice b2 (c).ts.length d2, .slice e2 (c).bs.length f2, .int .u64 ((c).fe : Nat)] from rfl]
            have HP7 : Hid (Hd.Bxn (w6.setCells w.heap.size 0 [.slice a2 (c).ns.length c2, .slice b2 (c).ts.length d2, .slice e2 (c).bs.length f2, .int .u64 ((c).fe : Nat)]) w.heap.size [.slice a2 (c).ns.length c2, .slice b2 (c).ts.length d2, .slice e2 (c).bs.length f2, .int .u64 ((c).fe : Nat)]) := HPs.out.all _ rfl
            have HB7 : Hid (Below w.heap.size w (w6.setCells w.heap.size 0 [.slice a2 (c).ns.length c2, .slice b2 (c).ts.length d2, .slice e2 (c).bs.length f2, .int .u64 ((c).fe : Nat)])) := below_setCells HEs.out (Nat.le_refl _) _ _
            have HK7 := Lib.hid (HKKs.out.far (P := w.heap.size) HLP.out 0 [.slice a2 (c).ns.length c2, .slice b2 (c).ts.length d2, .slice e2 (c).bs.length f2, .int .u64 ((c).fe : Nat)])
            clear thP
            generalize w6.setCells w.heap.size 0 [.slice a2 (c).ns.length c2, .slice b2 (c).ts.length d2, .slice e2 (c).bs.length f2, .int .u64 ((c).fe : Nat)] = w8 at *
            refine wpList_nil ?_
            go_wp2
            go_roundg gg
            case measure => omega
            case rel => exact ⟨k + 1, by omega, by simp, ⟨_, _, _, _, HP7.out, HK7.out.books, hck, HB7.out, hft⟩⟩
          · by_cases hk5 : x.C.k = 5
            · have HD1 : Hid (∀ z g1 n1 g2 n2 g3 n3, Hid (Below w.heap.size w z) → Hid (Books z z.heap.size (.slice g1 (c).ns.length n1) (.slice g2 (c).ts.length n2) (.slice g3 (c).bs.length n3) (c)) → Calls Tryz.prog 11 #[.agg #[.slice g1 (c).ns.length n1, .slice g2 (c).ts.length n2, .slice g3 (c).bs.length n3, .int .u64 ((c).fe : Nat)], .agg #[.int .u8 (x.C.k : Nat), .string x.C.nd.n, .int .i64 x.C.nd.z0, .int .i64 x.C.nd.z1, .int .i64 x.C.nd.z2, .slice x.a2 x.C.nd.ls.length x.c2, .slice x.a3 x.C.nd.ts.length x.c3, .string x.C.td.n, .int .i64 x.C.td.z0, .int .i64 x.C.td.z1, .int .i64 x.C.td.z2, .slice x.a4 x.C.td.ws.length x.c4, .slice x.a5 x.C.td.bs.length x.c5, .string x.C.td.g, .string x.C.td.a, .int .i64 x.C.td.r, .string x.C.na, .string x.C.on, .int .u64 (x.C.fe : Nat)]] z fun e w' => ∃ vn' vt' vb', e = .returned (.tuple #[.agg #[vn', vt', vb', .int .u64 ((cq).fe : Nat)], .agg #[.int .i64 (r : Nat), .string s]]) ∧ Kept z w' (cq) vn' vt' vb' ∧ Below z.heap.size z w') := fun z g1 n1 g2 n2 g3 n3 hwz hz => do_use (c) (cq) _ _ _ _ _ x.C _ _ _ _ _ _ _ _ z hz.out (HDX.out z hwz).hn HFX.out.fn (HDX.out z hwz).ht HFX.out.ft HFX.out.fb h1
              clear h1
              have t20 : ¬ ((cq).fe : Int) < (t : Int) := by omega
              have t21 : ¬ (x.C.fe : Int) < (t : Int) := by omega
              have HKN := Lib.hid hk5
              clear hk5
              have HFE := Lib.hid hfe2
              clear hfe2
              go_upto_region 10 with fail
              refine wp_region_list ?_
              refine wpList_load_mid rfl 27 (.tmp 3) rfl (w.heap.size) (0) rfl [.slice a1 (c).ns.length c1, .slice b1 (c).ts.length d1, .slice e1 (c).bs.length f1, .int .u64 ((c).fe : Nat)] _ (HP.out.range 0) Tryz.underlying27 rfl rfl ?_
              refine wpList_load_mid rfl 36 (.tmp 9) rfl (wr.heap.size) (0) rfl [.int .u8 (x.C.k : Nat), .string x.C.nd.n, .int .i64 x.C.nd.z0, .int .i64 x.C.nd.z1, .int .i64 x.C.nd.z2, .slice x.a2 x.C.nd.ls.length x.c2, .slice x.a3 x.C.nd.ts.length x.c3, .string x.C.td.n, .int .i64 x.C.td.z0, .int .i64 x.C.td.z1, .int .i64 x.C.td.z2, .slice x.a4 x.C.td.ws.length x.c4, .slice x.a5 x.C.td.bs.length x.c5, .string x.C.td.g, .string x.C.td.a, .int .i64 x.C.td.r, .string x.C.na, .string x.C.on, .int .u64 (x.C.fe : Nat)] _ (HQ.out.range 0) Tryz.underlying36 rfl rfl ?_
              refine wpList_plain rfl fun K hK => ?_
              go_wp2_with fail
              refine (HD1.out w3 _ _ _ _ _ _ HB3 HBC).mono ?_
              rintro e x1m ⟨v1, v2, v3, rfl, hkp, hb⟩
              obtain ⟨⟨a2, c2, rfl⟩, ⟨b2, d2, rfl⟩, ⟨e2, f2, rfl⟩⟩ := hkp.slices
              refine hK _ _ ?_
              clear hK K
              have HPm := Lib.hid (HP.out.below hb)
              have HQm := Lib.hid (HQ.out.below hb)
              have HBx1m : Hid (Below w.heap.size w x1m) := HB3.out.trans (hb.mono HB3.out.size)
              have HUx1m : Hid (Below w3.heap.size w3 x1m) := hb
              have HKx1 := Lib.hid hkp
              clear hb hkp
              refine wpList_plain rfl fun K hK => ?_
              go_simp
              refine hK _ _ ?_
              clear hK K
              refine wpList_plain rfl fun K hK => ?_
              go_simp
              refine hK _ _ ?_
              clear hK K
              refine wpList_plain rfl fun K hK => ?_
              go_simp
              refine hK _ _ ?_
              clear hK K
              refine wpList_plain rfl fun K hK => ?_
              go_simp
              refine hK _ _ ?_
              clear hK K
              refine wpList_plain rfl fun K hK => ?_
              go_simp
              refine hK _ _ ?_
              clear hK K
              obtain ⟨th1, th2, hbz, hx1, hx2⟩ := two_made x1m [.slice none 0 0, .slice none 0 0, .slice none 0 0, .int .u64 0] [.int .i64 0, .string ⟨#[]⟩] [.slice a2 (cq).ns.length c2, .slice b2 (cq).ts.length d2, .slice e2 (cq).bs.length f2, .int .u64 ((cq).fe : Nat)] [.int .i64 (r : Nat), .string s] 27 40 rfl rfl
              refine wpList_store_mid rfl 27 (.tmp 10) (.tmp 35) rfl (x1m.heap.size) 0 #[.slice a2 (cq).ns.length c2, .slice b2 (cq).ts.length d2, .slice e2 (cq).bs.length f2, .int .u64 ((cq).fe : Nat)] rfl rfl th1 rfl (all_oneCell_toArray (List.all_eq_true.1 (show List.all ([.slice a2 (cq).ns.length c2, .slice b2 (cq).ts.length d2, .slice e2 (cq).bs.length f2, .int .u64 ((cq).fe : Nat)] : List Value) (fun v => v.oneCell') = true from rfl))) ?_
              rw [show (#[.slice a2 (cq).ns.length c2, .slice b2 (cq).ts.length d2, .slice e2 (cq).bs.length f2, .int .u64 ((cq).fe : Nat)] : Array Value).toList = [.slice a2 (cq).ns.length c2, .slice b2 (cq).ts.length d2, .slice e2 (cq).bs.length f2, .int .u64 ((cq).fe : Nat)] from rfl]
              refine wpList_store_mid rfl 40 (.tmp 11) (.tmp 36) rfl (x1m.heap.size + 1) 0 #[.int .i64 (r : Nat), .string s] rfl rfl th2 rfl (all_oneCell_toArray (List.all_eq_true.1 (show List.all ([.int .i64 (r : Nat), .string s] : List Value) (fun v => v.oneCell') = true from rfl))) ?_
              rw [show (#[.int .i64 (r : Nat), .string s] : Array Value).toList = [.int .i64 (r : Nat), .string s] from rfl]
              clear th1 th2
              generalize (((x1m.alloc (.cells #[.slice none 0 0, .slice none 0 0, .slice none 0 0, .int .u64 0] 27)).alloc (.cells #[.int .i64 0, .string ⟨#[]⟩] 40)).setCells x1m.heap.size 0 [.slice a2 (cq).ns.length c2, .slice b2 (cq).ts.length d2, .slice e2 (cq).bs.length f2, .int .u64 ((cq).fe : Nat)]).setCells (x1m.heap.size + 1) 0 [.int .i64 (r : Nat), .string s] = x1 at *
              refine wpList_nil ?_
              have HP2 := Lib.hid (HPm.out.below hbz)
              clear HP HPm
              have HP := HP2
              clear HP2
              have HQ2 := Lib.hid (HQm.out.below hbz)
              clear HQ HQm
              have HQ := HQ2
              clear HQ2
              have HBx1 : Hid (Below w.heap.size w x1) := HBx1m.out.trans (hbz.mono HBx1m.out.size)
              have HUx1 : Hid (Below w3.heap.size w3 x1) := HUx1m.out.trans (hbz.mono HUx1m.out.size)
              have HKNx1 := Lib.hid (HKx1.out.keep hbz)
              have HXx1 := Lib.hid hx1
              have HTx1 := Lib.hid hx2
              clear hbz hx1 hx2 HKx1 HBx1m HUx1m
              have HPs := Lib.hid HP.out
              have HXs := Lib.hid HXx1.out
              have HTs := Lib.hid HTx1.out
              have HQs := Lib.hid HQ.out
              have HBs := Lib.hid (HBC.out.on HUx1.out)
              have HKs := Lib.hid HKNx1.out.books
              have HKKs := Lib.hid HKNx1.out
              have HEs : Hid (Below w.heap.size w x1) := HBx1.out
              clear HBC HD1 HP HXx1 HTx1 HQ HKNx1 HBx1
              have u0 : x1.cell? ⟨x1m.heap.size, 3, none⟩ = some (.int .u64 ((cq).fe : Nat)) := HXs.out.cell 3
              have u1 : x1.cell? ⟨w.heap.size, 3, none⟩ = some (.int .u64 ((c).fe : Nat)) := HPs.out.cell 3
              rw [← HFE.out] at u1
              go_upto_region 13 with fail
              clear u0 u1
              have t0 : x1.cell? ⟨x1m.heap.size + 1, 0, none⟩ = some (.int .i64 (r : Nat)) := HTs.out.cell 0
              have o0 : x1.cell? ⟨wr.heap.size, 0, none⟩ = some (.int .u8 5) := by have h := HQs.out.cell 0; rw [HKN.out] at h; exact h
              have o5 : x1.cell? ⟨wr.heap.size, 18, none⟩ = some (.int .u64 (x.C.fe : Nat)) := HQs.out.cell 18
              go_upto_region 15 with fail
              clear t0 o0 o5
              refine wp_region_list ?_
              refine wpList_load_mid rfl 27 (.tmp 10) rfl (x1m.heap.size) (0) rfl [.slice a2 (cq).ns.length c2, .slice b2 (cq).ts.length d2, .slice e2 (cq).bs.length f2, .int .u64 ((cq).fe : Nat)] _ (HXs.out.range 0) Tryz.underlying27 rfl rfl ?_
              have thP := HPs.out.there 4 rfl
              refine wpList_store_mid rfl 27 (.tmp 3) (.tmp 73) rfl (w.heap.size) 0 #[.slice a2 (cq).ns.length c2, .slice b2 (cq).ts.length d2, .slice e2 (cq).bs.length f2, .int .u64 ((cq).fe : Nat)] rfl rfl thP rfl (all_oneCell_toArray (List.all_eq_true.1 (show List.all ([.slice a2 (cq).ns.length c2, .slice b2 (cq).ts.length d2, .slice e2 (cq).bs.length f2, .int .u64 ((cq).fe : Nat)] : List Value) (fun v => v.oneCell') = true from rfl))) ?_
              rw [show (#[.slice a2 (cq).ns.length c2, .slice b2 (cq).ts.length d2, .slice e2 (cq).bs.length f2, .int .u64 ((cq).fe : Nat)] : Array Value).toList = [.slice a2 (cq).ns.length c2, .slice b2 (cq).ts.length d2, .slice e2 (cq).bs.length f2, .int .u64 ((cq).fe : Nat)] from rfl]
              have HP7 : Hid (Hd.Bxn (x1.setCells w.heap.size 0 [.slice a2 (cq).ns.length c2, .slice b2 (cq).ts.length d2, .slice e2 (cq).bs.length f2, .int .u64 ((cq).fe : Nat)]) w.heap.size [.slice a2 (cq).ns.length c2, .slice b2 (cq).ts.length d2, .slice e2 (cq).bs.length f2, .int .u64 ((cq).fe : Nat)]) := HPs.out.all _ rfl
              have HB7 : Hid (Below w.heap.size w (x1.setCells w.heap.size 0 [.slice a2 (cq).ns.length c2, .slice b2 (cq).ts.length d2, .slice e2 (cq).bs.length f2, .int .u64 ((cq).fe : Nat)])) := below_setCells HEs.out (Nat.le_refl _) _ _
              have HK7 := Lib.hid (HKKs.out.far (P := w.heap.size) HLP.out 0 [.slice a2 (cq).ns.length c2, .slice b2 (cq).ts.length d2, .slice e2 (cq).bs.length f2, .int .u64 ((cq).fe : Nat)])
              clear thP
              generalize x1.setCells w.heap.size 0 [.slice a2 (cq).ns.length c2, .slice b2 (cq).ts.length d2, .slice e2 (cq).bs.length f2, .int .u64 ((cq).fe : Nat)] = w8 at *
              refine wpList_nil ?_
              go_wp2
              go_roundg gg
              case measure => omega
              case rel => exact ⟨k + 1, by omega, by simp, ⟨_, _, _, _, HP7.out, HK7.out.books, hck2, HB7.out, by rw [HFE.out]; exact hft⟩⟩
            · have HD1 : Hid (∀ z g1 n1 g2 n2 g3 n3, Hid (Below w.heap.size w z) → Hid (Books z z.heap.size (.slice g1 (c).ns.length n1) (.slice g2 (c).ts.length n2) (.slice g3 (c).bs.length n3) (c)) → Calls Tryz.prog 11 #[.agg #[.slice g1 (c).ns.length n1, .slice g2 (c).ts.length n2, .slice g3 (c).bs.length n3, .int .u64 ((c).fe : Nat)], .agg #[.int .u8 (x.C.k : Nat), .string x.C.nd.n, .int .i64 x.C.nd.z0, .int .i64 x.C.nd.z1, .int .i64 x.C.nd.z2, .slice x.a2 x.C.nd.ls.length x.c2, .slice x.a3 x.C.nd.ts.length x.c3, .string x.C.td.n, .int .i64 x.C.td.z0, .int .i64 x.C.td.z1, .int .i64 x.C.td.z2, .slice x.a4 x.C.td.ws.length x.c4, .slice x.a5 x.C.td.bs.length x.c5, .string x.C.td.g, .string x.C.td.a, .int .i64 x.C.td.r, .string x.C.na, .string x.C.on, .int .u64 (x.C.fe : Nat)]] z fun e w' => ∃ vn' vt' vb', e = .returned (.tuple #[.agg #[vn', vt', vb', .int .u64 ((cq).fe : Nat)], .agg #[.int .i64 (r : Nat), .string s]]) ∧ Kept z w' (cq) vn' vt' vb' ∧ Below z.heap.size z w') := fun z g1 n1 g2 n2 g3 n3 hwz hz => do_use (c) (cq) _ _ _ _ _ x.C _ _ _ _ _ _ _ _ z hz.out (HDX.out z hwz).hn HFX.out.fn (HDX.out z hwz).ht HFX.out.ft HFX.out.fb h1
              clear h1
              have t20 : ¬ ((cq).fe : Int) < (t : Int) := by omega
              have t7 : ((x.C.k : Int) == 5) = false := by simp; omega
              have t8 : ¬ (x.C.k : Int) = 5 := by omega
              have HKN := Lib.hid hk5
              clear hk5
              have HFE := Lib.hid hfe2
              clear hfe2
              go_upto_region 10 with fail
              refine wp_region_list ?_
              refine wpList_load_mid rfl 27 (.tmp 3) rfl (w.heap.size) (0) rfl [.slice a1 (c).ns.length c1, .slice b1 (c).ts.length d1, .slice e1 (c).bs.length f1, .int .u64 ((c).fe : Nat)] _ (HP.out.range 0) Tryz.underlying27 rfl rfl ?_
              refine wpList_load_mid rfl 36 (.tmp 9) rfl (wr.heap.size) (0) rfl [.int .u8 (x.C.k : Nat), .string x.C.nd.n, .int .i64 x.C.nd.z0, .int .i64 x.C.nd.z1, .int .i64 x.C.nd.z2, .slice x.a2 x.C.nd.ls.length x.c2, .slice x.a3 x.C.nd.ts.length x.c3, .string x.C.td.n, .int .i64 x.C.td.z0, .int .i64 x.C.td.z1, .int .i64 x.C.td.z2, .slice x.a4 x.C.td.ws.length x.c4, .slice x.a5 x.C.td.bs.length x.c5, .string x.C.td.g, .string x.C.td.a, .int .i64 x.C.td.r, .string x.C.na, .string x.C.on, .int .u64 (x.C.fe : Nat)] _ (HQ.out.range 0) Tryz.underlying36 rfl rfl ?_
              refine wpList_plain rfl fun K hK => ?_
              go_wp2_with fail
              refine (HD1.out w3 _ _ _ _ _ _ HB3 HBC).mono ?_
              rintro e x1m ⟨v1, v2, v3, rfl, hkp, hb⟩
              obtain ⟨⟨a2, c2, rfl⟩, ⟨b2, d2, rfl⟩, ⟨e2, f2, rfl⟩⟩ := hkp.slices
              refine hK _ _ ?_
              clear hK K
              have HPm := Lib.hid (HP.out.below hb)
              have HQm := Lib.hid (HQ.out.below hb)
              have HBx1m : Hid (Below w.heap.size w x1m) := HB3.out.trans (hb.mono HB3.out.size)
              have HUx1m : Hid (Below w3.heap.size w3 x1m) := hb
              have HKx1 := Lib.hid hkp
              clear hb hkp
              refine wpList_plain rfl fun K hK => ?_
              go_simp
              refine hK _ _ ?_
              clear hK K
              refine wpList_plain rfl fun K hK => ?_
              go_simp
              refine hK _ _ ?_
              clear hK K
              refine wpList_plain rfl fun K hK => ?_
              go_simp
              refine hK _ _ ?_
              clear hK K
              refine wpList_plain rfl fun K hK => ?_
              go_simp
              refine hK _ _ ?_
              clear hK K
              refine wpList_plain rfl fun K hK => ?_
              go_simp
              refine hK _ _ ?_
              clear hK K
              obtain ⟨th1, th2, hbz, hx1, hx2⟩ := two_made x1m [.slice none 0 0, .slice none 0 0, .slice none 0 0, .int .u64 0] [.int .i64 0, .string ⟨#[]⟩] [.slice a2 (cq).ns.length c2, .slice b2 (cq).ts.length d2, .slice e2 (cq).bs.length f2, .int .u64 ((cq).fe : Nat)] [.int .i64 (r : Nat), .string s] 27 40 rfl rfl
              refine wpList_store_mid rfl 27 (.tmp 10) (.tmp 35) rfl (x1m.heap.size) 0 #[.slice a2 (cq).ns.length c2, .slice b2 (cq).ts.length d2, .slice e2 (cq).bs.length f2, .int .u64 ((cq).fe : Nat)] rfl rfl th1 rfl (all_oneCell_toArray (List.all_eq_true.1 (show List.all ([.slice a2 (cq).ns.length c2, .slice b2 (cq).ts.length d2, .slice e2 (cq).bs.length f2, .int .u64 ((cq).fe : Nat)] : List Value) (fun v => v.oneCell') = true from rfl))) ?_
              rw [show (#[.slice a2 (cq).ns.length c2, .slice b2 (cq).ts.length d2, .slice e2 (cq).bs.length f2, .int .u64 ((cq).fe : Nat)] : Array Value).toList = [.slice a2 (cq).ns.length c2, .slice b2 (cq).ts.length d2, .slice e2 (cq).bs.length f2, .int .u64 ((cq).fe : Nat)] from rfl]
              refine wpList_store_mid rfl 40 (.tmp 11) (.tmp 36) rfl (x1m.heap.size + 1) 0 #[.int .i64 (r : Nat), .string s] rfl rfl th2 rfl (all_oneCell_toArray (List.all_eq_true.1 (show List.all ([.int .i64 (r : Nat), .string s] : List Value) (fun v => v.oneCell') = true from rfl))) ?_
              rw [show (#[.int .i64 (r : Nat), .string s] : Array Value).toList = [.int .i64 (r : Nat), .string s] from rfl]
              clear th1 th2
              generalize (((x1m.alloc (.cells #[.slice none 0 0, .slice none 0 0, .slice none 0 0, .int .u64 0] 27)).alloc (.cells #[.int .i64 0, .string ⟨#[]⟩] 40)).setCells x1m.heap.size 0 [.slice a2 (cq).ns.length c2, .slice b2 (cq).ts.length d2, .slice e2 (cq).bs.length f2, .int .u64 ((cq).fe : Nat)]).setCells (x1m.heap.size + 1) 0 [.int .i64 (r : Nat), .string s] = x1 at *
              refine wpList_nil ?_
              have HP2 := Lib.hid (HPm.out.below hbz)
              clear HP HPm
              have HP := HP2
              clear HP2
              have HQ2 := Lib.hid (HQm.out.below hbz)
              clear HQ HQm
              have HQ := HQ2
              clear HQ2
              have HBx1 : Hid (Below w.heap.size w x1) := HBx1m.out.trans (hbz.mono HBx1m.out.size)
              have HUx1 : Hid (Below w3.heap.size w3 x1) := HUx1m.out.trans (hbz.mono HUx1m.out.size)
              have HKNx1 := Lib.hid (HKx1.out.keep hbz)
              have HXx1 := Lib.hid hx1
              have HTx1 := Lib.hid hx2
              clear hbz hx1 hx2 HKx1 HBx1m HUx1m
              have HPs := Lib.hid HP.out
              have HXs := Lib.hid HXx1.out
              have HTs := Lib.hid HTx1.out
              have HQs := Lib.hid HQ.out
              have HBs := Lib.hid (HBC.out.on HUx1.out)
              have HKs := Lib.hid HKNx1.out.books
              have HKKs := Lib.hid HKNx1.out
              have HEs : Hid (Below w.heap.size w x1) := HBx1.out
              clear HBC HD1 HP HXx1 HTx1 HQ HKNx1 HBx1
              have u0 : x1.cell? ⟨x1m.heap.size, 3, none⟩ = some (.int .u64 ((cq).fe : Nat)) := HXs.out.cell 3
              have u1 : x1.cell? ⟨w.heap.size, 3, none⟩ = some (.int .u64 ((c).fe : Nat)) := HPs.out.cell 3
              rw [← HFE.out] at u1
              go_upto_region 13 with fail
              clear u0 u1
              have t0 : x1.cell? ⟨x1m.heap.size + 1, 0, none⟩ = some (.int .i64 (r : Nat)) := HTs.out.cell 0
              have o0 : x1.cell? ⟨wr.heap.size, 0, none⟩ = some (.int .u8 (x.C.k : Nat)) := HQs.out.cell 0
              have o5 : x1.cell? ⟨wr.heap.size, 18, none⟩ = some (.int .u64 (x.C.fe : Nat)) := HQs.out.cell 18
              go_upto_region 15 with fail
              clear t0 o0 o5
              refine wp_region_list ?_
              refine wpList_load_mid rfl 27 (.tmp 10) rfl (x1m.heap.size) (0) rfl [.slice a2 (cq).ns.length c2, .slice b2 (cq).ts.length d2, .slice e2 (cq).bs.length f2, .int .u64 ((cq).fe : Nat)] _ (HXs.out.range 0) Tryz.underlying27 rfl rfl ?_
              have thP := HPs.out.there 4 rfl
              refine wpList_store_mid rfl 27 (.tmp 3) (.tmp 73) rfl (w.heap.size) 0 #[.slice a2 (cq).ns.length c2, .slice b2 (cq).ts.length d2, .slice e2 (cq).bs.length f2, .int .u64 ((cq).fe : Nat)] rfl rfl thP rfl (all_oneCell_toArray (List.all_eq_true.1 (show List.all ([.slice a2 (cq).ns.length c2, .slice b2 (cq).ts.length d2, .slice e2 (cq).bs.length f2, .int .u64 ((cq).fe : Nat)] : List Value) (fun v => v.oneCell') = true from rfl))) ?_
              rw [show (#[.slice a2 (cq).ns.length c2, .slice b2 (cq).ts.length d2, .slice e2 (cq).bs.length f2, .int .u64 ((cq).fe : Nat)] : Array Value).toList = [.slice a2 (cq).ns.length c2, .slice b2 (cq).ts.length d2, .slice e2 (cq).bs.length f2, .int .u64 ((cq).fe : Nat)] from rfl]
              have HP7 : Hid (Hd.Bxn (x1.setCells w.heap.size 0 [.slice a2 (cq).ns.length c2, .slice b2 (cq).ts.length d2, .slice e2 (cq).bs.length f2, .int .u64 ((cq).fe : Nat)]) w.heap.size [.slice a2 (cq).ns.length c2, .slice b2 (cq).ts.length d2, .slice e2 (cq).bs.length f2, .int .u64 ((cq).fe : Nat)]) := HPs.out.all _ rfl
              have HB7 : Hid (Below w.heap.size w (x1.setCells w.heap.size 0 [.slice a2 (cq).ns.length c2, .slice b2 (cq).ts.length d2, .slice e2 (cq).bs.length f2, .int .u64 ((cq).fe : Nat)])) := below_setCells HEs.out (Nat.le_refl _) _ _
              have HK7 := Lib.hid (HKKs.out.far (P := w.heap.size) HLP.out 0 [.slice a2 (cq).ns.length c2, .slice b2 (cq).ts.length d2, .slice e2 (cq).bs.length f2, .int .u64 ((cq).fe : Nat)])
              clear thP
              generalize x1.setCells w.heap.size 0 [.slice a2 (cq).ns.length c2, .slice b2 (cq).ts.length d2, .slice e2 (cq).bs.length f2, .int .u64 ((cq).fe : Nat)] = w8 at *
              refine wpList_nil ?_
              go_wp2
              go_roundg gg
              case measure => omega
              case rel => exact ⟨k + 1, by omega, by simp, ⟨_, _, _, _, HP7.out, HK7.out.books, hck2, HB7.out, by rw [HFE.out]; exact hft⟩⟩
theorem fence_law2 (b : Bk) (i : Int) (l : List OdM) (vb0 vl : Value) (w : World) (hb : BookArg w vb0 b) (hi : (Lit.int .u64 i).wf = true) (hl : OrdersArg w vl l) :
    Calls Tryz.prog 6 #[vb0, .int .u64 i, vl] w fun e w' => e = .returned (.bool true) ∧ Below w.heap.size w w' := by
  have h := bounds_u64 hi
  obtain ⟨t, rfl, ht⟩ : ∃ t : Nat, i = (t : Nat) ∧ t < 18446744073709551616 := ⟨i.toNat, by omega, by omega⟩
  exact fence_law b t l vb0 vl w hb ht hl
end Bo
end Go.Proofs.YtaipbaegbpebkaaGreat
