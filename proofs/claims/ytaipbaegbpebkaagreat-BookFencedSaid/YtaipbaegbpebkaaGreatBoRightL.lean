/-
  A RIGHT BOOK STAYS RIGHT: gafferlaw08.BookRight.
-/
import Derived.Test.YtaipbaegbpebkaaGreatBgZ
import Derived.Test.YtaipbaegbpebkaaGreatBoSame
import Derived.Test.YtaipbaegbpebkaaGreatBoArgO
import Derived.Deep.LoopGhost
namespace Go.Proofs.YtaipbaegbpebkaaGreat
open Go.RowKit Go.Lib
namespace Bo
open Rw
set_option linter.unusedVariables false
theorem chV_no {b : Bk} {C : Hd.Cd} (h : (chV b C).2 ≠ 0) : (chV b C).1 = b := by
  unfold chV adN doN adT doT biB frB at h ⊢
  repeat' split
  all_goals first
    | rfl
    | (exfalso; simp_all; done)
theorem right_plain {c : Bk} (h : chkB c = true) (C : Hd.Cd) : (C.k = 7 ∧ ∃ r s, doF c C = (c, r, s)) ∨ (C.k ≠ 7 ∧ ∃ r s, r ≠ 0 ∧ doF c C = (c, r, s)) ∨ (C.k ≠ 7 ∧ ∃ c2 s, doF c C = (c2, 0, s) ∧ chkB c2 = true) := by
  have hd : doF c C = doV c C := by unfold doF; rw [if_pos h]
  rw [hd]
  by_cases hk : C.k = 7
  · refine .inl ⟨hk, ?_⟩
    unfold doV
    by_cases hb : Hd.coB C = true
    · rw [if_pos hb, if_pos hk]; exact ⟨_, _, rfl⟩
    · rw [if_neg hb]; exact ⟨_, _, rfl⟩
  · refine .inr ?_
    unfold doV
    by_cases hb : Hd.coB C = true
    · rw [if_pos hb, if_neg hk]
      by_cases h0 : (chV c C).2 = 0
      · exact .inr ⟨hk, _, _, by rw [h0], chk_of_rb ((rb_of_chk h).chV C)⟩
      · exact .inl ⟨hk, _, _, h0, by rw [chV_no h0]⟩
    · rw [if_neg hb]
      exact .inl ⟨hk, 4, _, by decide, rfl⟩
theorem wrong_plain {b : Bk} (h : ¬ chkB b = true) (C : Hd.Cd) : doF b C = (bk0, 10, ByteArray.empty) := by unfold doF; rw [if_neg h]
/-- The loop's state: a right book in the first box. -/
def RS (w wx : World) : Prop := ∃ (c : Bk) (vn vt vb : Value), Hd.Bxn wx w.heap.size [vn, vt, vb, .int .u64 (c.fe : Nat)] ∧ Books wx wx.heap.size vn vt vb c ∧ chkB c = true ∧ Below w.heap.size w wx
theorem rng_at {w : World} {b o : Nat} {x : OdM} (h : At w b o x) : w.rangeAt b o (odE x) := fun j v hj => h j v hj
set_option maxRecDepth 100000 in
set_option maxHeartbeats 4000000 in
theorem right_law (b : Bk) (l : List OdM) (vb0 vl : Value) (w : World) (hb : BookArg w vb0 b) (hl : OrdersArg w vl l) :
    Calls Tryz.prog 5 #[vb0, vl] w fun e w' => e = .returned (.bool true) ∧ Below w.heap.size w w' := by
  obtain ⟨vn, vt, vb, rfl, hB⟩ := hb
  obtain ⟨⟨a0, c0, rfl⟩, ⟨b0, d0, rfl⟩, ⟨e0, f0, rfl⟩⟩ := And.intro hB.hn.slice (And.intro hB.ht.slice hB.hb.slice)
  obtain ⟨⟨al, cl, rfl, -, -, hll, hlc⟩, hld, -⟩ := hl
  obtain ⟨W0, hW0⟩ : ∃ W0, W0 = w.alloc (.cells #[.slice a0 (b).ns.length c0, .slice b0 (b).ts.length d0, .slice e0 (b).bs.length f0, .int .u64 ((b).fe : Nat)] 27) := ⟨_, rfl⟩
  have hb0 : Below w.heap.size w W0 := by rw [hW0]; exact Rw.al w _
  have hx0 : Hd.Bxn W0 w.heap.size [.slice a0 (b).ns.length c0, .slice b0 (b).ts.length d0, .slice e0 (b).bs.length f0, .int .u64 ((b).fe : Nat)] := by rw [hW0]; exact Hd.Bxn.made w _ _
  have HL : Hid (Calls Tryz.prog 13 #[] W0 fun e w' => e = .returned (.bool true) ∧ Below W0.heap.size W0 w') := lives_any W0
  have HBK : Hid (∀ z, Hid (Below w.heap.size w z) → Hid (Books z z.heap.size (.slice a0 (b).ns.length c0) (.slice b0 (b).ts.length d0) (.slice e0 (b).bs.length f0) (b))) := fun z hz => hB.on hz.out
  have HCT : Hid (∀ (c : Bk) z g1 n1 g2 n2 g3 n3, Hid (Books z z.heap.size (.slice g1 c.ns.length n1) (.slice g2 c.ts.length n2) (.slice g3 c.bs.length n3) c) → chkB c = true → Calls Tryz.prog 23 #[.agg #[.slice g1 c.ns.length n1, .slice g2 c.ts.length n2, .slice g3 c.bs.length n3, .int .u64 (c.fe : Nat)]] z fun e w' => e = .returned (.int .i64 0) ∧ Below z.heap.size z w') := fun c z g1 n1 g2 n2 g3 n3 hz hc => (check_any c _ _ _ z hz.out).mono fun e w' ⟨he, hb⟩ => ⟨by rw [hc] at he; exact he, hb⟩
  have HCF : Hid (∀ (c : Bk) z g1 n1 g2 n2 g3 n3, Hid (Books z z.heap.size (.slice g1 c.ns.length n1) (.slice g2 c.ts.length n2) (.slice g3 c.bs.length n3) c) → chkB c = false → Calls Tryz.prog 23 #[.agg #[.slice g1 c.ns.length n1, .slice g2 c.ts.length n2, .slice g3 c.bs.length n3, .int .u64 (c.fe : Nat)]] z fun e w' => e = .returned (.int .i64 10) ∧ Below z.heap.size z w') := fun c z g1 n1 g2 n2 g3 n3 hz hc => (check_any c _ _ _ z hz.out).mono fun e w' ⟨he, hb⟩ => ⟨by rw [hc] at he; exact he, hb⟩
  have HLC := Lib.hid hlc
  have HLD := Lib.hid hld
  have HW := Lib.hid hW0
  have HX0 := Lib.hid hx0
  have HB0 := Lib.hid hb0
  clear hW0 hx0 hb0 hB hlc hld
  by_cases hc : chkB b = true
  · have hcf : chkB b = true := hc
    go_enter Tryz.func5, Tryz.ntmps5
    go_upto_region 1 with fail
    rw [← HW.out]
    go_wp2_with fail
    refine HL.out.mono ?_
    rintro e w1 ⟨rfl, hb⟩
    have HP1 := Lib.hid (HX0.out.below hb)
    have HB1 : Hid (Below w.heap.size w w1) := HB0.out.trans (hb.mono HB0.out.size)
    clear hb HX0 HL HB0
    have p0 : w1.cell? ⟨w.heap.size, 0, none⟩ = some (.slice a0 (b).ns.length c0) := HP1.out.cell 0
    have p1 : w1.cell? ⟨w.heap.size, 1, none⟩ = some (.slice b0 (b).ts.length d0) := HP1.out.cell 1
    have p2 : w1.cell? ⟨w.heap.size, 2, none⟩ = some (.slice e0 (b).bs.length f0) := HP1.out.cell 2
    have p3 : w1.cell? ⟨w.heap.size, 3, none⟩ = some (.int .u64 ((b).fe : Nat)) := HP1.out.cell 3
    go_wp2_with fail
    refine (HCT.out (b) w1 _ _ _ _ _ _ (HBK.out w1 HB1) hcf).mono ?_
    rintro e w2 ⟨rfl, hb⟩
    have HP := Lib.hid (HP1.out.below hb)
    have HB2 : Hid (Below w.heap.size w w2) := HB1.out.trans (hb.mono HB1.out.size)
    clear hb p0 p1 p2 p3 HP1 HB1
    go_wp2
    go_loopg [27] l.length (fun gg i wx => ∃ k : Nat, k + gg = l.length ∧ i = .int .i64 k ∧ Aside (RS w wx))
    case atStart => exact ⟨0, by omega, rfl, ⟨b, _, _, _, HP.out, (HBK.out w2 HB2).out, hc, HB2.out⟩⟩
    case round =>
      obtain ⟨k, hkg, rfl, HA⟩ := hrel
      clear HP HB2
      cases gk with
      | zero =>
        obtain rfl : k = l.length := by omega
        clear hkg
        obtain ⟨c, vn, vt, vb, hp, hbk, hck, hb⟩ := HA.out
        have HE := Lib.hid hb
        clear hp hbk hck hb HA
        go_wp2
        go_ret
        exact ⟨rfl, HE.out⟩
      | succ gg =>
        have hlk : k < l.length := by omega
        have t2 : (k : Int) < (l.length : Int) := by omega
        have t3 : IntKind.i64.wrap ((k : Int) + 1) = (k : Int) + 1 := by rw [IntKind.wrap_i64]; omega
        have t4 : (0 : Int) ≤ (k : Int) := by omega
        obtain ⟨c, vn, vt, vb, hp, hbk, hck, hb⟩ := HA.out
        obtain ⟨⟨a1, c1, rfl⟩, ⟨b1, d1, rfl⟩, ⟨e1, f1, rfl⟩⟩ := And.intro hbk.hn.slice (And.intro hbk.ht.slice hbk.hb.slice)
        have HPr : Hid (Hd.Bxn wr w.heap.size [.slice a1 (c).ns.length c1, .slice b1 (c).ts.length d1, .slice e1 (c).bs.length f1, .int .u64 ((c).fe : Nat)]) := hp
        have HBr : Hid (Below w.heap.size w wr) := hb
        have HKr : Hid (Books wr wr.heap.size (.slice a1 (c).ns.length c1) (.slice b1 (c).ts.length d1) (.slice e1 (c).bs.length f1) (c)) := hbk
        obtain ⟨g, o, rfl, -, hgl, hcc⟩ := HLC.out (by omega)
        obtain ⟨x, hxe⟩ : ∃ x, x = l[k] := ⟨_, rfl⟩
        have hdx := (HLD.out l[k] (List.getElem_mem hlk)).1
        have hfx := (HLD.out l[k] (List.getElem_mem hlk)).2
        have hrow0 : At wr g (o + k * 19) l[k] := (hcc k hlk).keep hb hgl
        rw [← hxe] at hdx hfx hrow0
        have hrow : wr.rangeAt g (o + k * 19) [.int .u8 (x.C.k : Nat), .string x.C.nd.n, .int .i64 x.C.nd.z0, .int .i64 x.C.nd.z1, .int .i64 x.C.nd.z2, .slice x.a2 x.C.nd.ls.length x.c2, .slice x.a3 x.C.nd.ts.length x.c3, .string x.C.td.n, .int .i64 x.C.td.z0, .int .i64 x.C.td.z1, .int .i64 x.C.td.z2, .slice x.a4 x.C.td.ws.length x.c4, .slice x.a5 x.C.td.bs.length x.c5, .string x.C.td.g, .string x.C.td.a, .int .i64 x.C.td.r, .string x.C.na, .string x.C.on, .int .u64 (x.C.fe : Nat)] := rng_at hrow0
        have HDX : Hid (∀ z, Hid (Below w.heap.size w z) → DeepO z z.heap.size x) := fun z hz => hdx.on hz.out
        have HFX := Lib.hid hfx
        clear hp hbk hb hcc hxe hdx hfx hrow0 HA HBK
        by_cases h60 : k = 60
        · subst h60
          go_upto_region 8 with fail
          refine wp_region_list ?_
          refine wpList_plain rfl fun K hK => ?_
          go_simp
          refine hK _ _ ?_
          clear hK K
          refine wpList_plain rfl fun K hK => ?_
          go_simp
          refine hK _ _ ?_
          clear hK K
          refine wpList_load_mid rfl 36 (.tmp 30) rfl (g) (o + 60 * 19) rfl [.int .u8 (x.C.k : Nat), .string x.C.nd.n, .int .i64 x.C.nd.z0, .int .i64 x.C.nd.z1, .int .i64 x.C.nd.z2, .slice x.a2 x.C.nd.ls.length x.c2, .slice x.a3 x.C.nd.ts.length x.c3, .string x.C.td.n, .int .i64 x.C.td.z0, .int .i64 x.C.td.z1, .int .i64 x.C.td.z2, .slice x.a4 x.C.td.ws.length x.c4, .slice x.a5 x.C.td.bs.length x.c5, .string x.C.td.g, .string x.C.td.a, .int .i64 x.C.td.r, .string x.C.na, .string x.C.on, .int .u64 (x.C.fe : Nat)] _ (hrow) Tryz.underlying36 rfl rfl ?_
          refine wpList_plain rfl fun K hK => ?_
          go_simp
          refine hK _ _ ?_
          clear hK K
          refine wpList_plain rfl fun K hK => ?_
          go_simp
          refine hK _ _ ?_
          clear hK K
          obtain ⟨th1, hbz, hx1⟩ := one_made wr [.int .u8 0, .string ⟨#[]⟩, .int .i64 0, .int .i64 0, .int .i64 0, .slice none 0 0, .slice none 0 0, .string ⟨#[]⟩, .int .i64 0, .int .i64 0, .int .i64 0, .slice none 0 0, .slice none 0 0, .string ⟨#[]⟩, .string ⟨#[]⟩, .int .i64 0, .string ⟨#[]⟩, .string ⟨#[]⟩, .int .u64 0] [.int .u8 (x.C.k : Nat), .string x.C.nd.n, .int .i64 x.C.nd.z0, .int .i64 x.C.nd.z1, .int .i64 x.C.nd.z2, .slice x.a2 x.C.nd.ls.length x.c2, .slice x.a3 x.C.nd.ts.length x.c3, .string x.C.td.n, .int .i64 x.C.td.z0, .int .i64 x.C.td.z1, .int .i64 x.C.td.z2, .slice x.a4 x.C.td.ws.length x.c4, .slice x.a5 x.C.td.bs.length x.c5, .string x.C.td.g, .string x.C.td.a, .int .i64 x.C.td.r, .string x.C.na, .string x.C.on, .int .u64 (x.C.fe : Nat)] 36 rfl
          refine wpList_store_mid rfl 36 (.tmp 8) (.tmp 31) rfl (wr.heap.size) 0 #[.int .u8 (x.C.k : Nat), .string x.C.nd.n, .int .i64 x.C.nd.z0, .int .i64 x.C.nd.z1, .int .i64 x.C.nd.z2, .slice x.a2 x.C.nd.ls.length x.c2, .slice x.a3 x.C.nd.ts.length x.c3, .string x.C.td.n, .int .i64 x.C.td.z0, .int .i64 x.C.td.z1, .int .i64 x.C.td.z2, .slice x.a4 x.C.td.ws.length x.c4, .slice x.a5 x.C.td.bs.length x.c5, .string x.C.td.g, .string x.C.td.a, .int .i64 x.C.td.r, .string x.C.na, .string x.C.on, .int .u64 (x.C.fe : Nat)] rfl rfl th1 rfl (all_oneCell_toArray (List.all_eq_true.1 (show List.all ([.int .u8 (x.C.k : Nat), .string x.C.nd.n, .int .i64 x.C.nd.z0, .int .i64 x.C.nd.z1, .int .i64 x.C.nd.z2, .slice x.a2 x.C.nd.ls.length x.c2, .slice x.a3 x.C.nd.ts.length x.c3, .string x.C.td.n, .int .i64 x.C.td.z0, .int .i64 x.C.td.z1, .int .i64 x.C.td.z2, .slice x.a4 x.C.td.ws.length x.c4, .slice x.a5 x.C.td.bs.length x.c5, .string x.C.td.g, .string x.C.td.a, .int .i64 x.C.td.r, .string x.C.na, .string x.C.on, .int .u64 (x.C.fe : Nat)] : List Value) (fun v => v.oneCell') = true from rfl))) ?_
          rw [show (#[.int .u8 (x.C.k : Nat), .string x.C.nd.n, .int .i64 x.C.nd.z0, .int .i64 x.C.nd.z1, .int .i64 x.C.nd.z2, .slice x.a2 x.C.nd.ls.length x.c2, .slice x.a3 x.C.nd.ts.length x.c3, .string x.C.td.n, .int .i64 x.C.td.z0, .int .i64 x.C.td.z1, .int .i64 x.C.td.z2, .slice x.a4 x.C.td.ws.length x.c4, .slice x.a5 x.C.td.bs.length x.c5, .string x.C.td.g, .string x.C.td.a, .int .i64 x.C.td.r, .string x.C.na, .string x.C.on, .int .u64 (x.C.fe : Nat)] : Array Value).toList = [.int .u8 (x.C.k : Nat), .string x.C.nd.n, .int .i64 x.C.nd.z0, .int .i64 x.C.nd.z1, .int .i64 x.C.nd.z2, .slice x.a2 x.C.nd.ls.length x.c2, .slice x.a3 x.C.nd.ts.length x.c3, .string x.C.td.n, .int .i64 x.C.td.z0, .int .i64 x.C.td.z1, .int .i64 x.C.td.z2, .slice x.a4 x.C.td.ws.length x.c4, .slice x.a5 x.C.td.bs.length x.c5, .string x.C.td.g, .string x.C.td.a, .int .i64 x.C.td.r, .string x.C.na, .string x.C.on, .int .u64 (x.C.fe : Nat)] from rfl]
          clear th1 hrow
          generalize (wr.alloc (.cells #[.int .u8 0, .string ⟨#[]⟩, .int .i64 0, .int .i64 0, .int .i64 0, .slice none 0 0, .slice none 0 0, .string ⟨#[]⟩, .int .i64 0, .int .i64 0, .int .i64 0, .slice none 0 0, .slice none 0 0, .string ⟨#[]⟩, .string ⟨#[]⟩, .int .i64 0, .string ⟨#[]⟩, .string ⟨#[]⟩, .int .u64 0] 36)).setCells wr.heap.size 0 [.int .u8 (x.C.k : Nat), .string x.C.nd.n, .int .i64 x.C.nd.z0, .int .i64 x.C.nd.z1, .int .i64 x.C.nd.z2, .slice x.a2 x.C.nd.ls.length x.c2, .slice x.a3 x.C.nd.ts.length x.c3, .string x.C.td.n, .int .i64 x.C.td.z0, .int .i64 x.C.td.z1, .int .i64 x.C.td.z2, .slice x.a4 x.C.td.ws.length x.c4, .slice x.a5 x.C.td.bs.length x.c5, .string x.C.td.g, .string x.C.td.a, .int .i64 x.C.td.r, .string x.C.na, .string x.C.on, .int .u64 (x.C.fe : Nat)] = w3 at *
          have HP := Lib.hid (HPr.out.below hbz)
          have HQ := Lib.hid hx1
          have HB3 : Hid (Below w.heap.size w w3) := HBr.out.trans (hbz.mono HBr.out.size)
          have HBC := Lib.hid (HKr.out.on hbz)
          clear hbz hx1 HPr HBr HKr
          refine wpList_nil ?_
          go_wp2
          go_ret
          exact ⟨rfl, HB3.out⟩
        · have t9 : ((k : Int) == 60) = false := by simp; omega
          have t10 : ¬ (k : Int) = 60 := by omega
          have HLP0 : Hid (w.heap.size < wr.heap.size) := HPr.out.lt
          go_upto_region 8 with fail
          refine wp_region_list ?_
          refine wpList_plain rfl fun K hK => ?_
          go_simp
          refine hK _ _ ?_
          clear hK K
          refine wpList_plain rfl fun K hK => ?_
          go_simp
          refine hK _ _ ?_
          clear hK K
          refine wpList_load_mid rfl 36 (.tmp 30) rfl (g) (o + k * 19) rfl [.int .u8 (x.C.k : Nat), .string x.C.nd.n, .int .i64 x.C.nd.z0, .int .i64 x.C.nd.z1, .int .i64 x.C.nd.z2, .slice x.a2 x.C.nd.ls.length x.c2, .slice x.a3 x.C.nd.ts.length x.c3, .string x.C.td.n, .int .i64 x.C.td.z0, .int .i64 x.C.td.z1, .int .i64 x.C.td.z2, .slice x.a4 x.C.td.ws.length x.c4, .slice x.a5 x.C.td.bs.length x.c5, .string x.C.td.g, .string x.C.td.a, .int .i64 x.C.td.r, .string x.C.na, .string x.C.on, .int .u64 (x.C.fe : Nat)] _ (hrow) Tryz.underlying36 rfl rfl ?_
          refine wpList_plain rfl fun K hK => ?_
          go_simp
          refine hK _ _ ?_
          clear hK K
          refine wpList_plain rfl fun K hK => ?_
          go_simp
          refine hK _ _ ?_
          clear hK K
          obtain ⟨th1, hbz, hx1⟩ := one_made wr [.int .u8 0, .string ⟨#[]⟩, .int .i64 0, .int .i64 0, .int .i64 0, .slice none 0 0, .slice none 0 0, .string ⟨#[]⟩, .int .i64 0, .int .i64 0, .int .i64 0, .slice none 0 0, .slice none 0 0, .string ⟨#[]⟩, .string ⟨#[]⟩, .int .i64 0, .string ⟨#[]⟩, .string ⟨#[]⟩, .int .u64 0] [.int .u8 (x.C.k : Nat), .string x.C.nd.n, .int .i64 x.C.nd.z0, .int .i64 x.C.nd.z1, .int .i64 x.C.nd.z2, .slice x.a2 x.C.nd.ls.length x.c2, .slice x.a3 x.C.nd.ts.length x.c3, .string x.C.td.n, .int .i64 x.C.td.z0, .int .i64 x.C.td.z1, .int .i64 x.C.td.z2, .slice x.a4 x.C.td.ws.length x.c4, .slice x.a5 x.C.td.bs.length x.c5, .string x.C.td.g, .string x.C.td.a, .int .i64 x.C.td.r, .string x.C.na, .string x.C.on, .int .u64 (x.C.fe : Nat)] 36 rfl
          refine wpList_store_mid rfl 36 (.tmp 8) (.tmp 31) rfl (wr.heap.size) 0 #[.int .u8 (x.C.k : Nat), .string x.C.nd.n, .int .i64 x.C.nd.z0, .int .i64 x.C.nd.z1, .int .i64 x.C.nd.z2, .slice x.a2 x.C.nd.ls.length x.c2, .slice x.a3 x.C.nd.ts.length x.c3, .string x.C.td.n, .int .i64 x.C.td.z0, .int .i64 x.C.td.z1, .int .i64 x.C.td.z2, .slice x.a4 x.C.td.ws.length x.c4, .slice x.a5 x.C.td.bs.length x.c5, .string x.C.td.g, .string x.C.td.a, .int .i64 x.C.td.r, .string x.C.na, .string x.C.on, .int .u64 (x.C.fe : Nat)] rfl rfl th1 rfl (all_oneCell_toArray (List.all_eq_true.1 (show List.all ([.int .u8 (x.C.k : Nat), .string x.C.nd.n, .int .i64 x.C.nd.z0, .int .i64 x.C.nd.z1, .int .i64 x.C.nd.z2, .slice x.a2 x.C.nd.ls.length x.c2, .slice x.a3 x.C.nd.ts.length x.c3, .string x.C.td.n, .int .i64 x.C.td.z0, .int .i64 x.C.td.z1, .int .i64 x.C.td.z2, .slice x.a4 x.C.td.ws.length x.c4, .slice x.a5 x.C.td.bs.length x.c5, .string x.C.td.g, .string x.C.td.a, .int .i64 x.C.td.r, .string x.C.na, .string x.C.on, .int .u64 (x.C.fe : Nat)] : List Value) (fun v => v.oneCell') = true from rfl))) ?_
          rw [show (#[.int .u8 (x.C.k : Nat), .string x.C.nd.n, .int .i64 x.C.nd.z0, .int .i64 x.C.nd.z1, .int .i64 x.C.nd.z2, .slice x.a2 x.C.nd.ls.length x.c2, .slice x.a3 x.C.nd.ts.length x.c3, .string x.C.td.n, .int .i64 x.C.td.z0, .int .i64 x.C.td.z1, .int .i64 x.C.td.z2, .slice x.a4 x.C.td.ws.length x.c4, .slice x.a5 x.C.td.bs.length x.c5, .string x.C.td.g, .string x.C.td.a, .int .i64 x.C.td.r, .string x.C.na, .string x.C.on, .int .u64 (x.C.fe : Nat)] : Array Value).toList = [.int .u8 (x.C.k : Nat), .string x.C.nd.n, .int .i64 x.C.nd.z0, .int .i64 x.C.nd.z1, .int .i64 x.C.nd.z2, .slice x.a2 x.C.nd.ls.length x.c2, .slice x.a3 x.C.nd.ts.length x.c3, .string x.C.td.n, .int .i64 x.C.td.z0, .int .i64 x.C.td.z1, .int .i64 x.C.td.z2, .slice x.a4 x.C.td.ws.length x.c4, .slice x.a5 x.C.td.bs.length x.c5, .string x.C.td.g, .string x.C.td.a, .int .i64 x.C.td.r, .string x.C.na, .string x.C.on, .int .u64 (x.C.fe : Nat)] from rfl]
          clear th1 hrow
          generalize (wr.alloc (.cells #[.int .u8 0, .string ⟨#[]⟩, .int .i64 0, .int .i64 0, .int .i64 0, .slice none 0 0, .slice none 0 0, .string ⟨#[]⟩, .int .i64 0, .int .i64 0, .int .i64 0, .slice none 0 0, .slice none 0 0, .string ⟨#[]⟩, .string ⟨#[]⟩, .int .i64 0, .string ⟨#[]⟩, .string ⟨#[]⟩, .int .u64 0] 36)).setCells wr.heap.size 0 [.int .u8 (x.C.k : Nat), .string x.C.nd.n, .int .i64 x.C.nd.z0, .int .i64 x.C.nd.z1, .int .i64 x.C.nd.z2, .slice x.a2 x.C.nd.ls.length x.c2, .slice x.a3 x.C.nd.ts.length x.c3, .string x.C.td.n, .int .i64 x.C.td.z0, .int .i64 x.C.td.z1, .int .i64 x.C.td.z2, .slice x.a4 x.C.td.ws.length x.c4, .slice x.a5 x.C.td.bs.length x.c5, .string x.C.td.g, .string x.C.td.a, .int .i64 x.C.td.r, .string x.C.na, .string x.C.on, .int .u64 (x.C.fe : Nat)] = w3 at *
          have HP := Lib.hid (HPr.out.below hbz)
          have HQ := Lib.hid hx1
          have HB3 : Hid (Below w.heap.size w w3) := HBr.out.trans (hbz.mono HBr.out.size)
          have HBC := Lib.hid (HKr.out.on hbz)
          clear hbz hx1 HPr HBr HKr
          refine wpList_nil ?_
          have HLP : Hid (w.heap.size < w3.heap.size) := HP.out.lt
          clear HLP0
          rcases right_plain hck x.C with ⟨hk7, r, s, h1⟩ | ⟨hk7, r, s, hr0, h1⟩ | ⟨hk7, cq, s, h1, hck2⟩
          · by_cases hr0 : r = 0
            · subst hr0
              have HD1 : Hid (∀ z g1 n1 g2 n2 g3 n3, Hid (Below w.heap.size w z) → Hid (Books z z.heap.size (.slice g1 (c).ns.length n1) (.slice g2 (c).ts.length n2) (.slice g3 (c).bs.length n3) (c)) → Calls Tryz.prog 11 #[.agg #[.slice g1 (c).ns.length n1, .slice g2 (c).ts.length n2, .slice g3 (c).bs.length n3, .int .u64 ((c).fe : Nat)], .agg #[.int .u8 (x.C.k : Nat), .string x.C.nd.n, .int .i64 x.C.nd.z0, .int .i64 x.C.nd.z1, .int .i64 x.C.nd.z2, .slice x.a2 x.C.nd.ls.length x.c2, .slice x.a3 x.C.nd.ts.length x.c3, .string x.C.td.n, .int .i64 x.C.td.z0, .int .i64 x.C.td.z1, .int .i64 x.C.td.z2, .slice x.a4 x.C.td.ws.length x.c4, .slice x.a5 x.C.td.bs.length x.c5, .string x.C.td.g, .string x.C.td.a, .int .i64 x.C.td.r, .string x.C.na, .string x.C.on, .int .u64 (x.C.fe : Nat)]] z fun e w' => ∃ vn' vt' vb', e = .returned (.tuple #[.agg #[vn', vt', vb', .int .u64 ((c).fe : Nat)], .agg #[.int .i64 0, .string s]]) ∧ Kept z w' (c) vn' vt' vb' ∧ Below z.heap.size z w') := fun z g1 n1 g2 n2 g3 n3 hwz hz => do_use (c) (c) _ _ _ _ _ x.C _ _ _ _ _ _ _ _ z hz.out (HDX.out z hwz).hn HFX.out.fn (HDX.out z hwz).ht HFX.out.ft HFX.out.fb h1
              clear h1
              have HKN := Lib.hid hk7
              clear hk7
              go_upto_region 10 with fail
              refine wp_region_list ?_
              refine wpList_load_mid rfl 27 (.tmp 2) rfl (w.heap.size) (0) rfl [.slice a1 (c).ns.length c1, .slice b1 (c).ts.length d1, .slice e1 (c).bs.length f1, .int .u64 ((c).fe : Nat)] _ (HP.out.range 0) Tryz.underlying27 rfl rfl ?_
              refine wpList_load_mid rfl 36 (.tmp 8) rfl (wr.heap.size) (0) rfl [.int .u8 (x.C.k : Nat), .string x.C.nd.n, .int .i64 x.C.nd.z0, .int .i64 x.C.nd.z1, .int .i64 x.C.nd.z2, .slice x.a2 x.C.nd.ls.length x.c2, .slice x.a3 x.C.nd.ts.length x.c3, .string x.C.td.n, .int .i64 x.C.td.z0, .int .i64 x.C.td.z1, .int .i64 x.C.td.z2, .slice x.a4 x.C.td.ws.length x.c4, .slice x.a5 x.C.td.bs.length x.c5, .string x.C.td.g, .string x.C.td.a, .int .i64 x.C.td.r, .string x.C.na, .string x.C.on, .int .u64 (x.C.fe : Nat)] _ (HQ.out.range 0) Tryz.underlying36 rfl rfl ?_
              refine wpList_plain rfl fun K hK => ?_
              go_wp2_with fail
              refine (HD1.out w3 _ _ _ _ _ _ HB3 HBC).mono ?_
              rintro e x1m ⟨v1, v2, v3, rfl, hkp, hb⟩
              obtain ⟨⟨a2, c2, rfl⟩, ⟨b2, d2, rfl⟩, ⟨e2, f2, rfl⟩⟩ := hkp.slices
              refine hK _ _ ?_
              clear hK K
              have HPm := Lib.hid (HP.out.below hb)
              have HQm := Lib.hid (HQ.out.below hb)
              have HBx1m : Hid (Below w.heap.size w x1m) := HB3.out.trans (hb.mono HB3.out.size)
              have HUx1m : Hid (Below w3.heap.size w3 x1m) := hb
              have HKx1 := Lib.hid hkp
              clear hb hkp
              refine wpList_plain rfl fun K hK => ?_
              go_simp
              refine hK _ _ ?_
              clear hK K
              refine wpList_plain rfl fun K hK => ?_
              go_simp
              refine hK _ _ ?_
              clear hK K
              refine wpList_plain rfl fun K hK => ?_
              go_simp
              refine hK _ _ ?_
              clear hK K
              refine wpList_plain rfl fun K hK => ?_
              go_simp
              refine hK _ _ ?_
              clear hK K
              refine wpList_plain rfl fun K hK => ?_
              go_simp
              refine hK _ _ ?_
              clear hK K
              obtain ⟨th1, th2, hbz, hx1, hx2⟩ := two_made x1m [.slice none 0 0, .slice none 0 0, .slice none 0 0, .int .u64 0] [.int .i64 0, .string ⟨#[]⟩] [.slice a2 (c).ns.length c2, .slice b2 (c).ts.length d2, .slice e2 (c).bs.length f2, .int .u64 ((c).fe : Nat)] [.int .i64 0, .string s] 27 40 rfl rfl
              refine wpList_store_mid rfl 27 (.tmp 9) (.tmp 38) rfl (x1m.heap.size) 0 #[.slice a2 (c).ns.length c2, .slice b2 (c).ts.length d2, .slice e2 (c).bs.length f2, .int .u64 ((c).fe : Nat)] rfl rfl th1 rfl (all_oneCell_toArray (List.all_eq_true.1 (show List.all ([.slice a2 (c).ns.length c2, .slice b2 (c).ts.length d2, .slice e2 (c).bs.length f2, .int .u64 ((c).fe : Nat)] : List Value) (fun v => v.oneCell') = true from rfl))) ?_
              rw [show (#[.slice a2 (c).ns.length c2, .slice b2 (c).ts.length d2, .slice e2 (c).bs.length f2, .int .u64 ((c).fe : Nat)] : Array Value).toList = [.slice a2 (c).ns.length c2, .slice b2 (c).ts.length d2, .slice e2 (c).bs.length f2, .int .u64 ((c).fe : Nat)] from rfl]
              refine wpList_store_mid rfl 40 (.tmp 10) (.tmp 39) rfl (x1m.heap.size + 1) 0 #[.int .i64 0, .string s] rfl rfl th2 rfl (all_oneCell_toArray (List.all_eq_true.1 (show List.all ([.int .i64 0, .string s] : List Value) (fun v => v.oneCell') = true from rfl))) ?_
              rw [show (#[.int .i64 0, .string s] : Array Value).toList = [.int .i64 0, .string s] from rfl]
              clear th1 th2
              generalize (((x1m.alloc (.cells #[.slice none 0 0, .slice none 0 0, .slice none 0 0, .int .u64 0] 27)).alloc (.cells #[.int .i64 0, .string ⟨#[]⟩] 40)).setCells x1m.heap.size 0 [.slice a2 (c).ns.length c2, .slice b2 (c).ts.length d2, .slice e2 (c).bs.length f2, .int .u64 ((c).fe : Nat)]).setCells (x1m.heap.size + 1) 0 [.int .i64 0, .string s] = x1 at *
              refine wpList_nil ?_
              have HP2 := Lib.hid (HPm.out.below hbz)
              clear HP HPm
              have HP := HP2
              clear HP2
              have HQ2 := Lib.hid (HQm.out.below hbz)
              clear HQ HQm
              have HQ := HQ2
              clear HQ2
              have HBx1 : Hid (Below w.heap.size w x1) := HBx1m.out.trans (hbz.mono HBx1m.out.size)
              have HUx1 : Hid (Below w3.heap.size w3 x1) := HUx1m.out.trans (hbz.mono HUx1m.out.size)
              have HKNx1 := Lib.hid (HKx1.out.keep hbz)
              have HXx1 := Lib.hid hx1
              have HTx1 := Lib.hid hx2
              clear hbz hx1 hx2 HKx1 HBx1m HUx1m
              have HBs := Lib.hid (HBC.out.on HUx1.out)
              clear HBC HD1
              go_upto_region 11 with fail
              have p0 : x1.cell? ⟨x1m.heap.size, 0, none⟩ = some (.slice a2 (c).ns.length c2) := HXx1.out.cell 0
              have p1 : x1.cell? ⟨x1m.heap.size, 1, none⟩ = some (.slice b2 (c).ts.length d2) := HXx1.out.cell 1
              have p2 : x1.cell? ⟨x1m.heap.size, 2, none⟩ = some (.slice e2 (c).bs.length f2) := HXx1.out.cell 2
              have p3 : x1.cell? ⟨x1m.heap.size, 3, none⟩ = some (.int .u64 ((c).fe : Nat)) := HXx1.out.cell 3
              go_wp2_with fail
              refine (HCT.out (c) x1 _ _ _ _ _ _ HKNx1.out.books hck).mono ?_
              rintro e w5 ⟨rfl, hb⟩
              have HPs := Lib.hid (HP.out.below hb)
              have HXs := Lib.hid (HXx1.out.below hb)
              have HTs := Lib.hid (HTx1.out.below hb)
              have HQs := Lib.hid (HQ.out.below hb)
              have HBt := Lib.hid (HBs.out.on hb)
              have HKs := Lib.hid (HKNx1.out.books.on hb)
              have HKKs := Lib.hid (HKNx1.out.keep hb)
              have HEs : Hid (Below w.heap.size w w5) := HBx1.out.trans (hb.mono HBx1.out.size)
              clear hb p0 p1 p2 p3 HBs HP HXx1 HTx1 HQ HKNx1 HBx1
              have HBs := HBt
              clear HBt
              have t0 : w5.cell? ⟨x1m.heap.size + 1, 0, none⟩ = some (.int .i64 0) := HTs.out.cell 0
              have o0 : w5.cell? ⟨wr.heap.size, 0, none⟩ = some (.int .u8 7) := by have h := HQs.out.cell 0; rw [HKN.out] at h; exact h
              have p0 : w5.cell? ⟨w.heap.size, 0, none⟩ = some (.slice a1 (c).ns.length c1) := HPs.out.cell 0
              have p1 : w5.cell? ⟨w.heap.size, 1, none⟩ = some (.slice b1 (c).ts.length d1) := HPs.out.cell 1
              have p2 : w5.cell? ⟨w.heap.size, 2, none⟩ = some (.slice e1 (c).bs.length f1) := HPs.out.cell 2
              have p3 : w5.cell? ⟨w.heap.size, 3, none⟩ = some (.int .u64 ((c).fe : Nat)) := HPs.out.cell 3
              have q0 : w5.cell? ⟨x1m.heap.size, 0, none⟩ = some (.slice a2 (c).ns.length c2) := HXs.out.cell 0
              have q1 : w5.cell? ⟨x1m.heap.size, 1, none⟩ = some (.slice b2 (c).ts.length d2) := HXs.out.cell 1
              have q2 : w5.cell? ⟨x1m.heap.size, 2, none⟩ = some (.slice e2 (c).bs.length f2) := HXs.out.cell 2
              have q3 : w5.cell? ⟨x1m.heap.size, 3, none⟩ = some (.int .u64 ((c).fe : Nat)) := HXs.out.cell 3
              have HSM := Lib.hid (same_true c _ _ _ _ _ _ w5 HBs.out HKs.out)
              go_wp2_with fail
              refine HSM.out.mono ?_
              rintro e w7 ⟨rfl, hb⟩
              have HPt := Lib.hid (HPs.out.below hb)
              have HXt := Lib.hid (HXs.out.below hb)
              have HTt := Lib.hid (HTs.out.below hb)
              have HQt := Lib.hid (HQs.out.below hb)
              have HBt := Lib.hid (HBs.out.on hb)
              have HKt := Lib.hid (HKs.out.on hb)
              have HKKt := Lib.hid (HKKs.out.keep hb)
              have HEt : Hid (Below w.heap.size w w7) := HEs.out.trans (hb.mono HEs.out.size)
              clear hb p0 p1 p2 p3 q0 q1 q2 q3 HSM HPs HXs HTs HQs HBs HKs HKKs HEs t0 o0
              have HPs := HPt
              clear HPt
              have HXs := HXt
              clear HXt
              have HTs := HTt
              clear HTt
              have HQs := HQt
              clear HQt
              have HBs := HBt
              clear HBt
              have HKs := HKt
              clear HKt
              have HKKs := HKKt
              clear HKKt
              have HEs := HEt
              clear HEt
              have t0 : w7.cell? ⟨x1m.heap.size + 1, 0, none⟩ = some (.int .i64 0) := HTs.out.cell 0
              have o0 : w7.cell? ⟨wr.heap.size, 0, none⟩ = some (.int .u8 7) := by have h := HQs.out.cell 0; rw [HKN.out] at h; exact h
              go_upto_region 13 with fail
              clear t0 o0
              refine wp_region_list ?_
              refine wpList_load_mid rfl 27 (.tmp 9) rfl (x1m.heap.size) (0) rfl [.slice a2 (c).ns.length c2, .slice b2 (c).ts.length d2, .slice e2 (c).bs.length f2, .int .u64 ((c).fe : Nat)] _ (HXs.out.range 0) Tryz.underlying27 rfl rfl ?_
              have thP := HPs.out.there 4 rfl
              refine wpList_store_mid rfl 27 (.tmp 2) (.tmp 65) rfl (w.heap.size) 0 #[.slice a2 (c).ns.length c2, .slice b2 (c).ts.length d2, .slice e2 (c).bs.length f2, .int .u64 ((c).fe : Nat)] rfl rfl thP rfl (all_oneCell_toArray (List.all_eq_true.1 (show List.all ([.slice a2 (c).ns.length c2, .slice b2 (c).ts.length d2, .slice e2 (c).bs.length f2, .int .u64 ((c).fe : Nat)] : List Value) (fun v => v.oneCell') = true from rfl))) ?_
              rw [show (#[.slice a2 (c).ns.length c2, .slice b2 (c).ts.length d2, .slice e2 (c).bs.length f2, .int .u64 ((c).fe : Nat)] : Array Value).toList = [.slice a2 (c).ns.length c2, .slice b2 (c).ts.length d2, .slice e2 (c).bs.length f2, .int .u64 ((c).fe : Nat)] from rfl]
              have HP7 : Hid (Hd.Bxn (w7.setCells w.heap.size 0 [.slice a2 (c).ns.length c2, .slice b2 (c).ts.length d2, .slice e2 (c).bs.length f2, .int .u64 ((c).fe : Nat)]) w.heap.size [.slice a2 (c).ns.length c2, .slice b2 (c).ts.length d2, .slice e2 (c).bs.length f2, .int .u64 ((c).fe : Nat)]) := HPs.out.all _ rfl
              have HB7 : Hid (Below w.heap.size w (w7.setCells w.heap.size 0 [.slice a2 (c).ns.length c2, .slice b2 (c).ts.length d2, .slice e2 (c).bs.length f2, .int .u64 ((c).fe : Nat)])) := below_setCells HEs.out (Nat.le_refl _) _ _
              have HK7 := Lib.hid (HKKs.out.far (P := w.heap.size) HLP.out 0 [.slice a2 (c).ns.length c2, .slice b2 (c).ts.length d2, .slice e2 (c).bs.length f2, .int .u64 ((c).fe : Nat)])
              clear thP
              generalize w7.setCells w.heap.size 0 [.slice a2 (c).ns.length c2, .slice b2 (c).ts.length d2, .slice e2 (c).bs.length f2, .int .u64 ((c).fe : Nat)] = w8 at *
              refine wpList_nil ?_
              go_wp2
              go_roundg gg
              case measure => omega
              case rel => exact ⟨k + 1, by omega, by simp, ⟨_, _, _, _, HP7.out, HK7.out.books, hck, HB7.out⟩⟩
            · have HD1 : Hid (∀ z g1 n1 g2 n2 g3 n3, Hid (Below w.heap.size w z) → Hid (Books z z.heap.size (.slice g1 (c).ns.length n1) (.slice g2 (c).ts.length n2) (.slice g3 (c).bs.length n3) (c)) → Calls Tryz.prog 11 #[.agg #[.slice g1 (c).ns.length n1, .slice g2 (c).ts.length n2, .slice g3 (c).bs.length n3, .int .u64 ((c).fe : Nat)], .agg #[.int .u8 (x.C.k : Nat), .string x.C.nd.n, .int .i64 x.C.nd.z0, .int .i64 x.C.nd.z1, .int .i64 x.C.nd.z2, .slice x.a2 x.C.nd.ls.length x.c2, .slice x.a3 x.C.nd.ts.length x.c3, .string x.C.td.n, .int .i64 x.C.td.z0, .int .i64 x.C.td.z1, .int .i64 x.C.td.z2, .slice x.a4 x.C.td.ws.length x.c4, .slice x.a5 x.C.td.bs.length x.c5, .string x.C.td.g, .string x.C.td.a, .int .i64 x.C.td.r, .string x.C.na, .string x.C.on, .int .u64 (x.C.fe : Nat)]] z fun e w' => ∃ vn' vt' vb', e = .returned (.tuple #[.agg #[vn', vt', vb', .int .u64 ((c).fe : Nat)], .agg #[.int .i64 (r : Nat), .string s]]) ∧ Kept z w' (c) vn' vt' vb' ∧ Below z.heap.size z w') := fun z g1 n1 g2 n2 g3 n3 hwz hz => do_use (c) (c) _ _ _ _ _ x.C _ _ _ _ _ _ _ _ z hz.out (HDX.out z hwz).hn HFX.out.fn (HDX.out z hwz).ht HFX.out.ft HFX.out.fb h1
              clear h1
              have t5 : ((r : Int) != 0) = true := by simp; omega
              have t6 : ¬ (r : Int) = 0 := by omega
              have HKN := Lib.hid hk7
              clear hk7
              go_upto_region 10 with fail
              refine wp_region_list ?_
              refine wpList_load_mid rfl 27 (.tmp 2) rfl (w.heap.size) (0) rfl [.slice a1 (c).ns.length c1, .slice b1 (c).ts.length d1, .slice e1 (c).bs.length f1, .int .u64 ((c).fe : Nat)] _ (HP.out.range 0) Tryz.underlying27 rfl rfl ?_
              refine wpList_load_mid rfl 36 (.tmp 8) rfl (wr.heap.size) (0) rfl [.int .u8 (x.C.k : Nat), .string x.C.nd.n, .int .i64 x.C.nd.z0, .int .i64 x.C.nd.z1, .int .i64 x.C.nd.z2, .slice x.a2 x.C.nd.ls.length x.c2, .slice x.a3 x.C.nd.ts.length x.c3, .string x.C.td.n, .int .i64 x.C.td.z0, .int .i64 x.C.td.z1, .int .i64 x.C.td.z2, .slice x.a4 x.C.td.ws.length x.c4, .slice x.a5 x.C.td.bs.length x.c5, .string x.C.td.g, .string x.C.td.a, .int .i64 x.C.td.r, .string x.C.na, .string x.C.on, .int .u64 (x.C.fe : Nat)] _ (HQ.out.range 0) Tryz.underlying36 rfl rfl ?_
              refine wpList_plain rfl fun K hK => ?_
              go_wp2_with fail
              refine (HD1.out w3 _ _ _ _ _ _ HB3 HBC).mono ?_
              rintro e x1m ⟨v1, v2, v3, rfl, hkp, hb⟩
              obtain ⟨⟨a2, c2, rfl⟩, ⟨b2, d2, rfl⟩, ⟨e2, f2, rfl⟩⟩ := hkp.slices
              refine hK _ _ ?_
              clear hK K
              have HPm := Lib.hid (HP.out.below hb)
              have HQm := Lib.hid (HQ.out.below hb)
              have HBx1m : Hid (Below w.heap.size w x1m) := HB3.out.trans (hb.mono HB3.out.size)
              have HUx1m : Hid (Below w3.heap.size w3 x1m) := hb
              have HKx1 := Lib.hid hkp
              clear hb hkp
              refine wpList_plain rfl fun K hK => ?_
              go_simp
              refine hK _ _ ?_
              clear hK K
              refine wpList_plain rfl fun K hK => ?_
              go_simp
              refine hK _ _ ?_
              clear hK K
              refine wpList_plain rfl fun K hK => ?_
              go_simp
              refine hK _ _ ?_
              clear hK K
              refine wpList_plain rfl fun K hK => ?_
              go_simp
              refine hK _ _ ?_
              clear hK K
              refine wpList_plain rfl fun K hK => ?_
              go_simp
              refine hK _ _ ?_
              clear hK K
              obtain ⟨th1, th2, hbz, hx1, hx2⟩ := two_made x1m [.slice none 0 0, .slice none 0 0, .slice none 0 0, .int .u64 0] [.int .i64 0, .string ⟨#[]⟩] [.slice a2 (c).ns.length c2, .slice b2 (c).ts.length d2, .slice e2 (c).bs.length f2, .int .u64 ((c).fe : Nat)] [.int .i64 (r : Nat), .string s] 27 40 rfl rfl
              refine wpList_store_mid rfl 27 (.tmp 9) (.tmp 38) rfl (x1m.heap.size) 0 #[.slice a2 (c).ns.length c2, .slice b2 (c).ts.length d2, .slice e2 (c).bs.length f2, .int .u64 ((c).fe : Nat)] rfl rfl th1 rfl (all_oneCell_toArray (List.all_eq_true.1 (show List.all ([.slice a2 (c).ns.length c2, .slice b2 (c).ts.length d2, .slice e2 (c).bs.length f2, .int .u64 ((c).fe : Nat)] : List Value) (fun v => v.oneCell') = true from rfl))) ?_
              rw [show (#[.slice a2 (c).ns.length c2, .slice b2 (c).ts.length d2, .slice e2 (c).bs.length f2, .int .u64 ((c).fe : Nat)] : Array Value).toList = [.slice a2 (c).ns.length c2, .slice b2 (c).ts.length d2, .slice e2 (c).bs.length f2, .int .u64 ((c).fe : Nat)] from rfl]
              refine wpList_store_mid rfl 40 (.tmp 10) (.tmp 39) rfl (x1m.heap.size + 1) 0 #[.int .i64 (r : Nat), .string s] rfl rfl th2 rfl (all_oneCell_toArray (List.all_eq_true.1 (show List.all ([.int .i64 (r : Nat), .string s] : List Value) (fun v => v.oneCell') = true from rfl))) ?_
              rw [show (#[.int .i64 (r : Nat), .string s] : Array Value).toList = [.int .i64 (r : Nat), .string s] from rfl]
              clear th1 th2
              generalize (((x1m.alloc (.cells #[.slice none 0 0, .slice none 0 0, .slice none 0 0, .int .u64 0] 27)).alloc (.cells #[.int .i64 0, .string ⟨#[]⟩] 40)).setCells x1m.heap.size 0 [.slice a2 (c).ns.length c2, .slice b2 (c).ts.length d2, .slice e2 (c).bs.length f2, .int .u64 ((c).fe : Nat)]).setCells (x1m.heap.size + 1) 0 [.int .i64 (r : Nat), .string s] = x1 at *
              refine wpList_nil ?_
              have HP2 := Lib.hid (HPm.out.below hbz)
              clear HP HPm
              have HP := HP2
              clear HP2
              have HQ2 := Lib.hid (HQm.out.below hbz)
              clear HQ HQm
              have HQ := HQ2
              clear HQ2
              have HBx1 : Hid (Below w.heap.size w x1) := HBx1m.out.trans (hbz.mono HBx1m.out.size)
              have HUx1 : Hid (Below w3.heap.size w3 x1) := HUx1m.out.trans (hbz.mono HUx1m.out.size)
              have HKNx1 := Lib.hid (HKx1.out.keep hbz)
              have HXx1 := Lib.hid hx1
              have HTx1 := Lib.hid hx2
              clear hbz hx1 hx2 HKx1 HBx1m HUx1m
              have HBs := Lib.hid (HBC.out.on HUx1.out)
              clear HBC HD1
              go_upto_region 11 with fail
              have p0 : x1.cell? ⟨x1m.heap.size, 0, none⟩ = some (.slice a2 (c).ns.length c2) := HXx1.out.cell 0
              have p1 : x1.cell? ⟨x1m.heap.size, 1, none⟩ = some (.slice b2 (c).ts.length d2) := HXx1.out.cell 1
              have p2 : x1.cell? ⟨x1m.heap.size, 2, none⟩ = some (.slice e2 (c).bs.length f2) := HXx1.out.cell 2
              have p3 : x1.cell? ⟨x1m.heap.size, 3, none⟩ = some (.int .u64 ((c).fe : Nat)) := HXx1.out.cell 3
              go_wp2_with fail
              refine (HCT.out (c) x1 _ _ _ _ _ _ HKNx1.out.books hck).mono ?_
              rintro e w5 ⟨rfl, hb⟩
              have HPs := Lib.hid (HP.out.below hb)
              have HXs := Lib.hid (HXx1.out.below hb)
              have HTs := Lib.hid (HTx1.out.below hb)
              have HQs := Lib.hid (HQ.out.below hb)
              have HBt := Lib.hid (HBs.out.on hb)
              have HKs := Lib.hid (HKNx1.out.books.on hb)
              have HKKs := Lib.hid (HKNx1.out.keep hb)
              have HEs : Hid (Below w.heap.size w w5) := HBx1.out.trans (hb.mono HBx1.out.size)
              clear hb p0 p1 p2 p3 HBs HP HXx1 HTx1 HQ HKNx1 HBx1
              have HBs := HBt
              clear HBt
              have t0 : w5.cell? ⟨x1m.heap.size + 1, 0, none⟩ = some (.int .i64 (r : Nat)) := HTs.out.cell 0
              have o0 : w5.cell? ⟨wr.heap.size, 0, none⟩ = some (.int .u8 7) := by have h := HQs.out.cell 0; rw [HKN.out] at h; exact h
              have p0 : w5.cell? ⟨w.heap.size, 0, none⟩ = some (.slice a1 (c).ns.length c1) := HPs.out.cell 0
              have p1 : w5.cell? ⟨w.heap.size, 1, none⟩ = some (.slice b1 (c).ts.length d1) := HPs.out.cell 1
              have p2 : w5.cell? ⟨w.heap.size, 2, none⟩ = some (.slice e1 (c).bs.length f1) := HPs.out.cell 2
              have p3 : w5.cell? ⟨w.heap.size, 3, none⟩ = some (.int .u64 ((c).fe : Nat)) := HPs.out.cell 3
              have q0 : w5.cell? ⟨x1m.heap.size, 0, none⟩ = some (.slice a2 (c).ns.length c2) := HXs.out.cell 0
              have q1 : w5.cell? ⟨x1m.heap.size, 1, none⟩ = some (.slice b2 (c).ts.length d2) := HXs.out.cell 1
              have q2 : w5.cell? ⟨x1m.heap.size, 2, none⟩ = some (.slice e2 (c).bs.length f2) := HXs.out.cell 2
              have q3 : w5.cell? ⟨x1m.heap.size, 3, none⟩ = some (.int .u64 ((c).fe : Nat)) := HXs.out.cell 3
              have HSM := Lib.hid (same_true c _ _ _ _ _ _ w5 HBs.out HKs.out)
              go_wp2_with fail
              refine HSM.out.mono ?_
              rintro e w6 ⟨rfl, hb⟩
              have HPt := Lib.hid (HPs.out.below hb)
              have HXt := Lib.hid (HXs.out.below hb)
              have HTt := Lib.hid (HTs.out.below hb)
              have HQt := Lib.hid (HQs.out.below hb)
              have HBt := Lib.hid (HBs.out.on hb)
              have HKt := Lib.hid (HKs.out.on hb)
              have HKKt := Lib.hid (HKKs.out.keep hb)
              have HEt : Hid (Below w.heap.size w w6) := HEs.out.trans (hb.mono HEs.out.size)
              clear hb p0 p1 p2 p3 q0 q1 q2 q3 HSM HPs HXs HTs HQs HBs HKs HKKs HEs t0 o0
              have HPs := HPt
              clear HPt
              have HXs := HXt
              clear HXt
              have HTs := HTt
              clear HTt
              have HQs := HQt
              clear HQt
              have HBs := HBt
              clear HBt
              have HKs := HKt
              clear HKt
              have HKKs := HKKt
              clear HKKt
              have HEs := HEt
              clear HEt
              have t0 : w6.cell? ⟨x1m.heap.size + 1, 0, none⟩ = some (.int .i64 (r : Nat)) := HTs.out.cell 0
              have o0 : w6.cell? ⟨wr.heap.size, 0, none⟩ = some (.int .u8 7) := by have h := HQs.out.cell 0; rw [HKN.out] at h; exact h
              have p0 : w6.cell? ⟨w.heap.size, 0, none⟩ = some (.slice a1 (c).ns.length c1) := HPs.out.cell 0
              have p1 : w6.cell? ⟨w.heap.size, 1, none⟩ = some (.slice b1 (c).ts.length d1) := HPs.out.cell 1
              have p2 : w6.cell? ⟨w.heap.size, 2, none⟩ = some (.slice e1 (c).bs.length f1) := HPs.out.cell 2
              have p3 : w6.cell? ⟨w.heap.size, 3, none⟩ = some (.int .u64 ((c).fe : Nat)) := HPs.out.cell 3
              have q0 : w6.cell? ⟨x1m.heap.size, 0, none⟩ = some (.slice a2 (c).ns.length c2) := HXs.out.cell 0
              have q1 : w6.cell? ⟨x1m.heap.size, 1, none⟩ = some (.slice b2 (c).ts.length d2) := HXs.out.cell 1
              have q2 : w6.cell? ⟨x1m.heap.size, 2, none⟩ = some (.slice e2 (c).bs.length f2) := HXs.out.cell 2
              have q3 : w6.cell? ⟨x1m.heap.size, 3, none⟩ = some (.int .u64 ((c).fe : Nat)) := HXs.out.cell 3
              have HSM := Lib.hid (same_true c _ _ _ _ _ _ w6 HBs.out HKs.out)
              go_wp2_with fail
              refine HSM.out.mono ?_
              rintro e w7 ⟨rfl, hb⟩
              have HPt := Lib.hid (HPs.out.below hb)
              have HXt := Lib.hid (HXs.out.below hb)
              have HTt := Lib.hid (HTs.out.below hb)
              have HQt := Lib.hid (HQs.out.below hb)
              have HBt := Lib.hid (HBs.out.on hb)
              have HKt := Lib.hid (HKs.out.on hb)
              have HKKt := Lib.hid (HKKs.out.keep hb)
              have HEt : Hid (Below w.heap.size w w7) := HEs.out.trans (hb.mono HEs.out.size)
              clear hb p0 p1 p2 p3 q0 q1 q2 q3 HSM HPs HXs HTs HQs HBs HKs HKKs HEs t0 o0
              have HPs := HPt
              clear HPt
              have HXs := HXt
              clear HXt
              have HTs := HTt
              clear HTt
              have HQs := HQt
              clear HQt
              have HBs := HBt
              clear HBt
              have HKs := HKt
              clear HKt
              have HKKs := HKKt
              clear HKKt
              have HEs := HEt
              clear HEt
              have t0 : w7.cell? ⟨x1m.heap.size + 1, 0, none⟩ = some (.int .i64 (r : Nat)) := HTs.out.cell 0
              have o0 : w7.cell? ⟨wr.heap.size, 0, none⟩ = some (.int .u8 7) := by have h := HQs.out.cell 0; rw [HKN.out] at h; exact h
              go_upto_region 13 with fail
              clear t0 o0
              refine wp_region_list ?_
              refine wpList_load_mid rfl 27 (.tmp 9) rfl (x1m.heap.size) (0) rfl [.slice a2 (c).ns.length c2, .slice b2 (c).ts.length d2, .slice e2 (c).bs.length f2, .int .u64 ((c).fe : Nat)] _ (HXs.out.range 0) Tryz.underlying27 rfl rfl ?_
              have thP := HPs.out.there 4 rfl
              refine wpList_store_mid rfl 27 (.tmp 2) (.tmp 65) rfl (w.heap.size) 0 #[.slice a2 (c).ns.length c2, .slice b2 (c).ts.length d2, .slice e2 (c).bs.length f2, .int .u64 ((c).fe : Nat)] rfl rfl thP rfl (all_oneCell_toArray (List.all_eq_true.1 (show List.all ([.slice a2 (c).ns.length c2, .slice b2 (c).ts.length d2, .slice e2 (c).bs.length f2, .int .u64 ((c).fe : Nat)] : List Value) (fun v => v.oneCell') = true from rfl))) ?_
              rw [show (#[.slice a2 (c).ns.length c2, .slice b2 (c).ts.length d2, .slice e2 (c).bs.length f2, .int .u64 ((c).fe : Nat)] : Array Value).toList = [.slice a2 (c).ns.length c2, .slice b2 (c).ts.length d2, .slice e2 (c).bs.length f2, .int .u64 ((c).fe : Nat)] from rfl]
              have HP7 : Hid (Hd.Bxn (w7.setCells w.heap.size 0 [.slice a2 (c).ns.length c2, .slice b2 (c).ts.length d2, .slice e2 (c).bs.length f2, .int .u64 ((c).fe : Nat)]) w.heap.size [.slice a2 (c).ns.length c2, .slice b2 (c).ts.length d2, .slice e2 (c).bs.length f2, .int .u64 ((c).fe : Nat)]) := HPs.out.all _ rfl
              have HB7 : Hid (Below w.heap.size w (w7.setCells w.heap.size 0 [.slice a2 (c).ns.length c2, .slice b2 (c).ts.length d2, .slice e2 (c).bs.length f2, .int .u64 ((c).fe : Nat)])) := below_setCells HEs.out (Nat.le_refl _) _ _
              have HK7 := Lib.hid (HKKs.out.far (P := w.heap.size) HLP.out 0 [.slice a2 (c).ns.length c2, .slice b2 (c).ts.length d2, .slice e2 (c).bs.length f2, .int .u64 ((c).fe : Nat)])
              clear thP
              generalize w7.setCells w.heap.size 0 [.slice a2 (c).ns.length c2, .slice b2 (c).ts.length d2, .slice e2 (c).bs.length f2, .int .u64 ((c).fe : Nat)] = w8 at *
              refine wpList_nil ?_
              go_wp2
              go_roundg gg
              case measure => omega
              case rel => exact ⟨k + 1, by omega, by simp, ⟨_, _, _, _, HP7.out, HK7.out.books, hck, HB7.out⟩⟩
          · have HD1 : Hid (∀ z g1 n1 g2 n2 g3 n3, Hid (Below w.heap.size w z) → Hid (Books z z.heap.size (.slice g1 (c).ns.length n1) (.slice g2 (c).ts.length n2) (.slice g3 (c).bs.length n3) (c)) → Calls Tryz.prog 11 #[.agg #[.slice g1 (c).ns.length n1, .slice g2 (c).ts.length n2, .slice g3 (c).bs.length n3, .int .u64 ((c).fe : Nat)], .agg #[.int .u8 (x.C.k : Nat), .string x.C.nd.n, .int .i64 x.C.nd.z0, .int .i64 x.C.nd.z1, .int .i64 x.C.nd.z2, .slice x.a2 x.C.nd.ls.length x.c2, .slice x.a3 x.C.nd.ts.length x.c3, .string x.C.td.n, .int .i64 x.C.td.z0, .int .i64 x.C.td.z1, .int .i64 x.C.td.z2, .slice x.a4 x.C.td.ws.length x.c4, .slice x.a5 x.C.td.bs.length x.c5, .string x.C.td.g, .string x.C.td.a, .int .i64 x.C.td.r, .string x.C.na, .string x.C.on, .int .u64 (x.C.fe : Nat)]] z fun e w' => ∃ vn' vt' vb', e = .returned (.tuple #[.agg #[vn', vt', vb', .int .u64 ((c).fe : Nat)], .agg #[.int .i64 (r : Nat), .string s]]) ∧ Kept z w' (c) vn' vt' vb' ∧ Below z.heap.size z w') := fun z g1 n1 g2 n2 g3 n3 hwz hz => do_use (c) (c) _ _ _ _ _ x.C _ _ _ _ _ _ _ _ z hz.out (HDX.out z hwz).hn HFX.out.fn (HDX.out z hwz).ht HFX.out.ft HFX.out.fb h1
            clear h1
            have t5 : ((r : Int) != 0) = true := by simp; omega
            have t6 : ¬ (r : Int) = 0 := by omega
            have t7 : ((x.C.k : Int) == 7) = false := by simp; omega
            have t8 : ¬ (x.C.k : Int) = 7 := by omega
            have HKN := Lib.hid hk7
            clear hk7
            go_upto_region 10 with fail
            refine wp_region_list ?_
            refine wpList_load_mid rfl 27 (.tmp 2) rfl (w.heap.size) (0) rfl [.slice a1 (c).ns.length c1, .slice b1 (c).ts.length d1, .slice e1 (c).bs.length f1, .int .u64 ((c).fe : Nat)] _ (HP.out.range 0) Tryz.underlying27 rfl rfl ?_
            refine wpList_load_mid rfl 36 (.tmp 8) rfl (wr.heap.size) (0) rfl [.int .u8 (x.C.k : Nat), .string x.C.nd.n, .int .i64 x.C.nd.z0, .int .i64 x.C.nd.z1, .int .i64 x.C.nd.z2, .slice x.a2 x.C.nd.ls.length x.c2, .slice x.a3 x.C.nd.ts.length x.c3, .string x.C.td.n, .int .i64 x.C.td.z0, .int .i64 x.C.td.z1, .int .i64 x.C.td.z2, .slice x.a4 x.C.td.ws.length x.c4, .slice x.a5 x.C.td.bs.length x.c5, .string x.C.td.g, .string x.C.td.a, .int .i64 x.C.td.r, .string x.C.na, .string x.C.on, .int .u64 (x.C.fe : Nat)] _ (HQ.out.range 0) Tryz.underlying36 rfl rfl ?_
            refine wpList_plain rfl fun K hK => ?_
            go_wp2_with fail
            refine (HD1.out w3 _ _ _ _ _ _ HB3 HBC).mono ?_
            rintro e x1m ⟨v1, v2, v3, rfl, hkp, hb⟩
            obtain ⟨⟨a2, c2, rfl⟩, ⟨b2, d2, rfl⟩, ⟨e2, f2, rfl⟩⟩ := hkp.slices
            refine hK _ _ ?_
            clear hK K
            have HPm := Lib.hid (HP.out.below hb)
            have HQm := Lib.hid (HQ.out.below hb)
            have HBx1m : Hid (Below w.heap.size w x1m) := HB3.out.trans (hb.mono HB3.out.size)
            have HUx1m : Hid (Below w3.heap.size w3 x1m) := hb
            have HKx1 := Lib.hid hkp
            clear hb hkp
            refine wpList_plain rfl fun K hK => ?_
            go_simp
            refine hK _ _ ?_
            clear hK K
            refine wpList_plain rfl fun K hK => ?_
            go_simp
            refine hK _ _ ?_
            clear hK K
            refine wpList_plain rfl fun K hK => ?_
            go_simp
            refine hK _ _ ?_
            clear hK K
            refine wpList_plain rfl fun K hK => ?_
            go_simp
            refine hK _ _ ?_
            clear hK K
            refine wpList_plain rfl fun K hK => ?_
            go_simp
            refine hK _ _ ?_
            clear hK K
            obtain ⟨th1, th2, hbz, hx1, hx2⟩ := two_made x1m [.slice none 0 0, .slice none 0 0, .slice none 0 0, .int .u64 0] [.int .i64 0, .string ⟨#[]⟩] [.slice a2 (c).ns.length c2, .slice b2 (c).ts.length d2, .slice e2 (c).bs.length f2, .int .u64 ((c).fe : Nat)] [.int .i64 (r : Nat), .string s] 27 40 rfl rfl
            refine wpList_store_mid rfl 27 (.tmp 9) (.tmp 38) rfl (x1m.heap.size) 0 #[.slice a2 (c).ns.length c2, .slice b2 (c).ts.length d2, .slice e2 (c).bs.length f2, .int .u64 ((c).fe : Nat)] rfl rfl th1 rfl (all_oneCell_toArray (List.all_eq_true.1 (show List.all ([.slice a2 (c).ns.length c2, .slice b2 (c).ts.length d2, .slice e2 (c).bs.length f2, .int .u64 ((c).fe : Nat)] : List Value) (fun v => v.oneCell') = true from rfl))) ?_
            rw [show (#[.slice a2 (c).ns.length c2, .slice b2 (c).ts.length d2, .slice e2 (c).bs.length f2, .int .u64 ((c).fe : Nat)] : Array Value).toList = [.slice a2 (c).ns.length c2, .slice b2 (c).ts.length d2, .slice e2 (c).bs.length f2, .int .u64 ((c).fe : Nat)] from rfl]
            refine wpList_store_mid rfl 40 (.tmp 10) (.tmp 39) rfl (x1m.heap.size + 1) 0 #[.int .i64 (r : Nat), .string s] rfl rfl th2 rfl (all_oneCell_toArray (List.all_eq_true.1 (show List.all ([.int .i64 (r : Nat), .string s] : List Value) (fun v => v.oneCell') = true from rfl))) ?_
            rw [show (#[.int .i64 (r : Nat), .string s] : Array Value).toList = [.int .i64 (r : Nat), .string s] from rfl]
            clear th1 th2
            generalize (((x1m.alloc (.cells #[.slice none 0 0, .slice none 0 0, .slice none 0 0, .int .u64 0] 27)).alloc (.cells #[.int .i64 0, .string ⟨#[]⟩] 40)).setCells x1m.heap.size 0 [.slice a2 (c).ns.length c2, .slice b2 (c).ts.length d2, .slice e2 (c).bs.length f2, .int .u64 ((c).fe : Nat)]).setCells (x1m.heap.size + 1) 0 [.int .i64 (r : Nat), .string s] = x1 at *
            refine wpList_nil ?_
            have HP2 := Lib.hid (HPm.out.below hbz)
            clear HP HPm
            have HP := HP2
            clear HP2
            have HQ2 := Lib.hid (HQm.out.below hbz)
            clear HQ HQm
            have HQ := HQ2
            clear HQ2
            have HBx1 : Hid (Below w.heap.size w x1) := HBx1m.out.trans (hbz.mono HBx1m.out.size)
            have HUx1 : Hid (Below w3.heap.size w3 x1) := HUx1m.out.trans (hbz.mono HUx1m.out.size)
            have HKNx1 := Lib.hid (HKx1.out.keep hbz)
            have HXx1 := Lib.hid hx1
            have HTx1 := Lib.hid hx2
            clear hbz hx1 hx2 HKx1 HBx1m HUx1m
            have HBs := Lib.hid (HBC.out.on HUx1.out)
            clear HBC HD1
            go_upto_region 11 with fail
            have p0 : x1.cell? ⟨x1m.heap.size, 0, none⟩ = some (.slice a2 (c).ns.length c2) := HXx1.out.cell 0
            have p1 : x1.cell? ⟨x1m.heap.size, 1, none⟩ = some (.slice b2 (c).ts.length d2) := HXx1.out.cell 1
            have p2 : x1.cell? ⟨x1m.heap.size, 2, none⟩ = some (.slice e2 (c).bs.length f2) := HXx1.out.cell 2
            have p3 : x1.cell? ⟨x1m.heap.size, 3, none⟩ = some (.int .u64 ((c).fe : Nat)) := HXx1.out.cell 3
            go_wp2_with fail
            refine (HCT.out (c) x1 _ _ _ _ _ _ HKNx1.out.books hck).mono ?_
            rintro e w5 ⟨rfl, hb⟩
            have HPs := Lib.hid (HP.out.below hb)
            have HXs := Lib.hid (HXx1.out.below hb)
            have HTs := Lib.hid (HTx1.out.below hb)
            have HQs := Lib.hid (HQ.out.below hb)
            have HBt := Lib.hid (HBs.out.on hb)
            have HKs := Lib.hid (HKNx1.out.books.on hb)
            have HKKs := Lib.hid (HKNx1.out.keep hb)
            have HEs : Hid (Below w.heap.size w w5) := HBx1.out.trans (hb.mono HBx1.out.size)
            clear hb p0 p1 p2 p3 HBs HP HXx1 HTx1 HQ HKNx1 HBx1
            have HBs := HBt
            clear HBt
            have t0 : w5.cell? ⟨x1m.heap.size + 1, 0, none⟩ = some (.int .i64 (r : Nat)) := HTs.out.cell 0
            have o0 : w5.cell? ⟨wr.heap.size, 0, none⟩ = some (.int .u8 (x.C.k : Nat)) := HQs.out.cell 0
            have p0 : w5.cell? ⟨w.heap.size, 0, none⟩ = some (.slice a1 (c).ns.length c1) := HPs.out.cell 0
            have p1 : w5.cell? ⟨w.heap.size, 1, none⟩ = some (.slice b1 (c).ts.length d1) := HPs.out.cell 1
            have p2 : w5.cell? ⟨w.heap.size, 2, none⟩ = some (.slice e1 (c).bs.length f1) := HPs.out.cell 2
            have p3 : w5.cell? ⟨w.heap.size, 3, none⟩ = some (.int .u64 ((c).fe : Nat)) := HPs.out.cell 3
            have q0 : w5.cell? ⟨x1m.heap.size, 0, none⟩ = some (.slice a2 (c).ns.length c2) := HXs.out.cell 0
            have q1 : w5.cell? ⟨x1m.heap.size, 1, none⟩ = some (.slice b2 (c).ts.length d2) := HXs.out.cell 1
            have q2 : w5.cell? ⟨x1m.heap.size, 2, none⟩ = some (.slice e2 (c).bs.length f2) := HXs.out.cell 2
            have q3 : w5.cell? ⟨x1m.heap.size, 3, none⟩ = some (.int .u64 ((c).fe : Nat)) := HXs.out.cell 3
            have HSM := Lib.hid (same_true c _ _ _ _ _ _ w5 HBs.out HKs.out)
            go_wp2_with fail
            refine HSM.out.mono ?_
            rintro e w6 ⟨rfl, hb⟩
            have HPt := Lib.hid (HPs.out.below hb)
            have HXt := Lib.hid (HXs.out.below hb)
            have HTt := Lib.hid (HTs.out.below hb)
            have HQt := Lib.hid (HQs.out.below hb)
            have HBt := Lib.hid (HBs.out.on hb)
            have HKt := Lib.hid (HKs.out.on hb)
            have HKKt := Lib.hid (HKKs.out.keep hb)
            have HEt : Hid (Below w.heap.size w w6) := HEs.out.trans (hb.mono HEs.out.size)
            clear hb p0 p1 p2 p3 q0 q1 q2 q3 HSM HPs HXs HTs HQs HBs HKs HKKs HEs t0 o0
            have HPs := HPt
            clear HPt
            have HXs := HXt
            clear HXt
            have HTs := HTt
            clear HTt
            have HQs := HQt
            clear HQt
            have HBs := HBt
            clear HBt
            have HKs := HKt
            clear HKt
            have HKKs := HKKt
            clear HKKt
            have HEs := HEt
            clear HEt
            have t0 : w6.cell? ⟨x1m.heap.size + 1, 0, none⟩ = some (.int .i64 (r : Nat)) := HTs.out.cell 0
            have o0 : w6.cell? ⟨wr.heap.size, 0, none⟩ = some (.int .u8 (x.C.k : Nat)) := HQs.out.cell 0
            go_upto_region 13 with fail
            clear t0 o0
            refine wp_region_list ?_
            refine wpList_load_mid rfl 27 (.tmp 9) rfl (x1m.heap.size) (0) rfl [.slice a2 (c).ns.length c2, .slice b2 (c).ts.length d2, .slice e2 (c).bs.length f2, .int .u64 ((c).fe : Nat)] _ (HXs.out.range 0) Tryz.underlying27 rfl rfl ?_
            have thP := HPs.out.there 4 rfl
            refine wpList_store_mid rfl 27 (.tmp 2) (.tmp 65) rfl (w.heap.size) 0 #[.slice a2 (c).ns.length c2, .slice b2 (c).ts.length d2, .slice e2 (c).bs.length f2, .int .u64 ((c).fe : Nat)] rfl rfl thP rfl (all_oneCell_toArray (List.all_eq_true.1 (show List.all ([.slice a2 (c).ns.length c2, .slice b2 (c).ts.length d2, .slice e2 (c).bs.length f2, .int .u64 ((c).fe : Nat)] : List Value) (fun v => v.oneCell') = true from rfl))) ?_
            rw [show (#[.slice a2 (c).ns.length c2, .slice b2 (c).ts.length d2, .slice e2 (c).bs.length f2, .int .u64 ((c).fe : Nat)] : Array Value).toList = [.slice a2 (c).ns.length c2, .slice b2 (c).ts.length d2, .slice e2 (c).bs.length f2, .int .u64 ((c).fe : Nat)] from rfl]
            have HP7 : Hid (Hd.Bxn (w6.setCells w.heap.size 0 [.slice a2 (c).ns.length c2, .slice b2 (c).ts.length d2, .slice e2 (c).bs.length f2, .int .u64 ((c).fe : Nat)]) w.heap.size [.slice a2 (c).ns.length c2, .slice b2 (c).ts.length d2, .slice e2 (c).bs.length f2, .int .u64 ((c).fe : Nat)]) := HPs.out.all _ rfl
            have HB7 : Hid (Below w.heap.size w (w6.setCells w.heap.size 0 [.slice a2 (c).ns.length c2, .slice b2 (c).ts.length d2, .slice e2 (c).bs.length f2, .int .u64 ((c).fe : Nat)])) := below_setCells HEs.out (Nat.le_refl _) _ _
            have HK7 := Lib.hid (HKKs.out.far (P := w.heap.size) HLP.out 0 [.slice a2 (c).ns.length c2, .slice b2 (c).ts.length d2, .slice e2 (c).bs.length f2, .int .u64 ((c).fe : Nat)])
            clear thP
            generalize w6.setCells w.heap.size 0 [.slice a2 (c).ns.length c2, .slice b2 (c).ts.length d2, .slice e2 (c).bs.length f2, .int .u64 ((c).fe : Nat)] = w8 at *
            refine wpList_nil ?_
            go_wp2
            go_roundg gg
            case measure => omega
            case rel => exact ⟨k + 1, by omega, by simp, ⟨_, _, _, _, HP7.out, HK7.out.books, hck, HB7.out⟩⟩
          · have HD1 : Hid (∀ z g1 n1 g2 n2 g3 n3, Hid (Below w.heap.size w z) → Hid (Books z z.heap.size (.slice g1 (c).ns.length n1) (.slice g2 (c).ts.length n2) (.slice g3 (c).bs.length n3) (c)) → Calls Tryz.prog 11 #[.agg #[.slice g1 (c).ns.length n1, .slice g2 (c).ts.length n2, .slice g3 (c).bs.length n3, .int .u64 ((c).fe : Nat)], .agg #[.int .u8 (x.C.k : Nat), .string x.C.nd.n, .int .i64 x.C.nd.z0, .int .i64 x.C.nd.z1, .int .i64 x.C.nd.z2, .slice x.a2 x.C.nd.ls.length x.c2, .slice x.a3 x.C.nd.ts.length x.c3, .string x.C.td.n, .int .i64 x.C.td.z0, .int .i64 x.C.td.z1, .int .i64 x.C.td.z2, .slice x.a4 x.C.td.ws.length x.c4, .slice x.a5 x.C.td.bs.length x.c5, .string x.C.td.g, .string x.C.td.a, .int .i64 x.C.td.r, .string x.C.na, .string x.C.on, .int .u64 (x.C.fe : Nat)]] z fun e w' => ∃ vn' vt' vb', e = .returned (.tuple #[.agg #[vn', vt', vb', .int .u64 ((cq).fe : Nat)], .agg #[.int .i64 0, .string s]]) ∧ Kept z w' (cq) vn' vt' vb' ∧ Below z.heap.size z w') := fun z g1 n1 g2 n2 g3 n3 hwz hz => do_use (c) (cq) _ _ _ _ _ x.C _ _ _ _ _ _ _ _ z hz.out (HDX.out z hwz).hn HFX.out.fn (HDX.out z hwz).ht HFX.out.ft HFX.out.fb h1
            clear h1
            have t7 : ((x.C.k : Int) == 7) = false := by simp; omega
            have t8 : ¬ (x.C.k : Int) = 7 := by omega
            have HKN := Lib.hid hk7
            clear hk7
            go_upto_region 10 with fail
            refine wp_region_list ?_
            refine wpList_load_mid rfl 27 (.tmp 2) rfl (w.heap.size) (0) rfl [.slice a1 (c).ns.length c1, .slice b1 (c).ts.length d1, .slice e1 (c).bs.length f1, .int .u64 ((c).fe : Nat)] _ (HP.out.range 0) Tryz.underlying27 rfl rfl ?_
            refine wpList_load_mid rfl 36 (.tmp 8) rfl (wr.heap.size) (0) rfl [.int .u8 (x.C.k : Nat), .string x.C.nd.n, .int .i64 x.C.nd.z0, .int .i64 x.C.nd.z1, .int .i64 x.C.nd.z2, .slice x.a2 x.C.nd.ls.length x.c2, .slice x.a3 x.C.nd.ts.length x.c3, .string x.C.td.n, .int .i64 x.C.td.z0, .int .i64 x.C.td.z1, .int .i64 x.C.td.z2, .slice x.a4 x.C.td.ws.length x.c4, .slice x.a5 x.C.td.bs.length x.c5, .string x.C.td.g, .string x.C.td.a, .int .i64 x.C.td.r, .string x.C.na, .string x.C.on, .int .u64 (x.C.fe : Nat)] _ (HQ.out.range 0) Tryz.underlying36 rfl rfl ?_
            refine wpList_plain rfl fun K hK => ?_
            go_wp2_with fail
            refine (HD1.out w3 _ _ _ _ _ _ HB3 HBC).mono ?_
            rintro e x1m ⟨v1, v2, v3, rfl, hkp, hb⟩
            obtain ⟨⟨a2, c2, rfl⟩, ⟨b2, d2, rfl⟩, ⟨e2, f2, rfl⟩⟩ := hkp.slices
            refine hK _ _ ?_
            clear hK K
            have HPm := Lib.hid (HP.out.below hb)
            have HQm := Lib.hid (HQ.out.below hb)
            have HBx1m : Hid (Below w.heap.size w x1m) := HB3.out.trans (hb.mono HB3.out.size)
            have HUx1m : Hid (Below w3.heap.size w3 x1m) := hb
            have HKx1 := Lib.hid hkp
            clear hb hkp
            refine wpList_plain rfl fun K hK => ?_
            go_simp
            refine hK _ _ ?_
            clear hK K
            refine wpList_plain rfl fun K hK => ?_
            go_simp
            refine hK _ _ ?_
            clear hK K
            refine wpList_plain rfl fun K hK => ?_
            go_simp
            refine hK _ _ ?_
            clear hK K
            refine wpList_plain rfl fun K hK => ?_
            go_simp
            refine hK _ _ ?_
            clear hK K
            refine wpList_plain rfl fun K hK => ?_
            go_simp
            refine hK _ _ ?_
            clear hK K
            obtain ⟨th1, th2, hbz, hx1, hx2⟩ := two_made x1m [.slice none 0 0, .slice none 0 0, .slice none 0 0, .int .u64 0] [.int .i64 0, .string ⟨#[]⟩] [.slice a2 (cq).ns.length c2, .slice b2 (cq).ts.length d2, .slice e2 (cq).bs.length f2, .int .u64 ((cq).fe : Nat)] [.int .i64 0, .string s] 27 40 rfl rfl
            refine wpList_store_mid rfl 27 (.tmp 9) (.tmp 38) rfl (x1m.heap.size) 0 #[.slice a2 (cq).ns.length c2, .slice b2 (cq).ts.length d2, .slice e2 (cq).bs.length f2, .int .u64 ((cq).fe : Nat)] rfl rfl th1 rfl (all_oneCell_toArray (List.all_eq_true.1 (show List.all ([.slice a2 (cq).ns.length c2, .slice b2 (cq).ts.length d2, .slice e2 (cq).bs.length f2, .int .u64 ((cq).fe : Nat)] : List Value) (fun v => v.oneCell') = true from rfl))) ?_
            rw [show (#[.slice a2 (cq).ns.length c2, .slice b2 (cq).ts.length d2, .slice e2 (cq).bs.length f2, .int .u64 ((cq).fe : Nat)] : Array Value).toList = [.slice a2 (cq).ns.length c2, .slice b2 (cq).ts.length d2, .slice e2 (cq).bs.length f2, .int .u64 ((cq).fe : Nat)] from rfl]
            refine wpList_store_mid rfl 40 (.tmp 10) (.tmp 39) rfl (x1m.heap.size + 1) 0 #[.int .i64 0, .string s] rfl rfl th2 rfl (all_oneCell_toArray (List.all_eq_true.1 (show List.all ([.int .i64 0, .string s] : List Value) (fun v => v.oneCell') = true from rfl))) ?_
            rw [show (#[.int .i64 0, .string s] : Array Value).toList = [.int .i64 0, .string s] from rfl]
            clear th1 th2
            generalize (((x1m.alloc (.cells #[.slice none 0 0, .slice none 0 0, .slice none 0 0, .int .u64 0] 27)).alloc (.cells #[.int .i64 0, .string ⟨#[]⟩] 40)).setCells x1m.heap.size 0 [.slice a2 (cq).ns.length c2, .slice b2 (cq).ts.length d2, .slice e2 (cq).bs.length f2, .int .u64 ((cq).fe : Nat)]).setCells (x1m.heap.size + 1) 0 [.int .i64 0, .string s] = x1 at *
            refine wpList_nil ?_
            have HP2 := Lib.hid (HPm.out.below hbz)
            clear HP HPm
            have HP := HP2
            clear HP2
            have HQ2 := Lib.hid (HQm.out.below hbz)
            clear HQ HQm
            have HQ := HQ2
            clear HQ2
            have HBx1 : Hid (Below w.heap.size w x1) := HBx1m.out.trans (hbz.mono HBx1m.out.size)
            have HUx1 : Hid (Below w3.heap.size w3 x1) := HUx1m.out.trans (hbz.mono HUx1m.out.size)
            have HKNx1 := Lib.hid (HKx1.out.keep hbz)
            have HXx1 := Lib.hid hx1
            have HTx1 := Lib.hid hx2
            clear hbz hx1 hx2 HKx1 HBx1m HUx1m
            have HBs := Lib.hid (HBC.out.on HUx1.out)
            clear HBC HD1
            go_upto_region 11 with fail
            have p0 : x1.cell? ⟨x1m.heap.size, 0, none⟩ = some (.slice a2 (cq).ns.length c2) := HXx1.out.cell 0
            have p1 : x1.cell? ⟨x1m.heap.size, 1, none⟩ = some (.slice b2 (cq).ts.length d2) := HXx1.out.cell 1
            have p2 : x1.cell? ⟨x1m.heap.size, 2, none⟩ = some (.slice e2 (cq).bs.length f2) := HXx1.out.cell 2
            have p3 : x1.cell? ⟨x1m.heap.size, 3, none⟩ = some (.int .u64 ((cq).fe : Nat)) := HXx1.out.cell 3
            go_wp2_with fail
            refine (HCT.out (cq) x1 _ _ _ _ _ _ HKNx1.out.books hck2).mono ?_
            rintro e w5 ⟨rfl, hb⟩
            have HPs := Lib.hid (HP.out.below hb)
            have HXs := Lib.hid (HXx1.out.below hb)
            have HTs := Lib.hid (HTx1.out.below hb)
            have HQs := Lib.hid (HQ.out.below hb)
            have HBt := Lib.hid (HBs.out.on hb)
            have HKs := Lib.hid (HKNx1.out.books.on hb)
            have HKKs := Lib.hid (HKNx1.out.keep hb)
            have HEs : Hid (Below w.heap.size w w5) := HBx1.out.trans (hb.mono HBx1.out.size)
            clear hb p0 p1 p2 p3 HBs HP HXx1 HTx1 HQ HKNx1 HBx1
            have HBs := HBt
            clear HBt
            have t0 : w5.cell? ⟨x1m.heap.size + 1, 0, none⟩ = some (.int .i64 0) := HTs.out.cell 0
            have o0 : w5.cell? ⟨wr.heap.size, 0, none⟩ = some (.int .u8 (x.C.k : Nat)) := HQs.out.cell 0
            go_upto_region 13 with fail
            clear t0 o0
            refine wp_region_list ?_
            refine wpList_load_mid rfl 27 (.tmp 9) rfl (x1m.heap.size) (0) rfl [.slice a2 (cq).ns.length c2, .slice b2 (cq).ts.length d2, .slice e2 (cq).bs.length f2, .int .u64 ((cq).fe : Nat)] _ (HXs.out.range 0) Tryz.underlying27 rfl rfl ?_
            have thP := HPs.out.there 4 rfl
            refine wpList_store_mid rfl 27 (.tmp 2) (.tmp 65) rfl (w.heap.size) 0 #[.slice a2 (cq).ns.length c2, .slice b2 (cq).ts.length d2, .slice e2 (cq).bs.length f2, .int .u64 ((cq).fe : Nat)] rfl rfl thP rfl (all_oneCell_toArray (List.all_eq_true.1 (show List.all ([.slice a2 (cq).ns.length c2, .slice b2 (cq).ts.length d2, .slice e2 (cq).bs.length f2, .int .u64 ((cq).fe : Nat)] : List Value) (fun v => v.oneCell') = true from rfl))) ?_
            rw [show (#[.slice a2 (cq).ns.length c2, .slice b2 (cq).ts.length d2, .slice e2 (cq).bs.length f2, .int .u64 ((cq).fe : Nat)] : Array Value).toList = [.slice a2 (cq).ns.length c2, .slice b2 (cq).ts.length d2, .slice e2 (cq).bs.length f2, .int .u64 ((cq).fe : Nat)] from rfl]
            have HP7 : Hid (Hd.Bxn (w5.setCells w.heap.size 0 [.slice a2 (cq).ns.length c2, .slice b2 (cq).ts.length d2, .slice e2 (cq).bs.length f2, .int .u64 ((cq).fe : Nat)]) w.heap.size [.slice a2 (cq).ns.length c2, .slice b2 (cq).ts.length d2, .slice e2 (cq).bs.length f2, .int .u64 ((cq).fe : Nat)]) := HPs.out.all _ rfl
            have HB7 : Hid (Below w.heap.size w (w5.setCells w.heap.size 0 [.slice a2 (cq).ns.length c2, .slice b2 (cq).ts.length d2, .slice e2 (cq).bs.length f2, .int .u64 ((cq).fe : Nat)])) := below_setCells HEs.out (Nat.le_refl _) _ _
            have HK7 := Lib.hid (HKKs.out.far (P := w.heap.size) HLP.out 0 [.slice a2 (cq).ns.length c2, .slice b2 (cq).ts.length d2, .slice e2 (cq).bs.length f2, .int .u64 ((cq).fe : Nat)])
            clear thP
            generalize w5.setCells w.heap.size 0 [.slice a2 (cq).ns.length c2, .slice b2 (cq).ts.length d2, .slice e2 (cq).bs.length f2, .int .u64 ((cq).fe : Nat)] = w8 at *
            refine wpList_nil ?_
            go_wp2
            go_roundg gg
            case measure => omega
            case rel => exact ⟨k + 1, by omega, by simp, ⟨_, _, _, _, HP7.out, HK7.out.books, hck2, HB7.out⟩⟩
  · have HD1 : Hid (∀ z g1 n1 g2 n2 g3 n3, Hid (Below w.heap.size w z) → Hid (Books z z.heap.size (.slice g1 (b).ns.length n1) (.slice g2 (b).ts.length n2) (.slice g3 (b).bs.length n3) (b)) → Calls Tryz.prog 11 #[.agg #[.slice g1 (b).ns.length n1, .slice g2 (b).ts.length n2, .slice g3 (b).bs.length n3, .int .u64 ((b).fe : Nat)], .agg #[.int .u8 7, .string ⟨#[]⟩, .int .i64 0, .int .i64 0, .int .i64 0, .slice none 0 0, .slice none 0 0, .string ⟨#[]⟩, .int .i64 0, .int .i64 0, .int .i64 0, .slice none 0 0, .slice none 0 0, .string ⟨#[]⟩, .string ⟨#[]⟩, .int .i64 0, .string ⟨#[97]⟩, .string ⟨#[]⟩, .int .u64 0]] z fun e w' => ∃ vn' vt' vb', e = .returned (.tuple #[.agg #[vn', vt', vb', .int .u64 ((bk0).fe : Nat)], .agg #[.int .i64 10, .string ⟨#[]⟩]]) ∧ Kept z w' (bk0) vn' vt' vb' ∧ Below z.heap.size z w') := fun z g1 n1 g2 n2 g3 n3 hwz hz => do_use (b) (bk0) _ _ _ _ _ (lvO Hd.nd0 Hd.td0 7 ⟨#[97]⟩ ⟨#[]⟩ 0) none none none none 0 0 0 0 z hz.out (deepN0 z _ rfl rfl) fitN0 (deepT0 z _ rfl rfl) fitT0 ⟨by unfold FitS; decide +kernel, by unfold FitS; decide +kernel⟩ (wrong_plain hc _)
    have hcf : chkB b = false := by simpa using hc
    clear hc
    go_enter Tryz.func5, Tryz.ntmps5
    go_upto_region 1 with fail
    rw [← HW.out]
    go_wp2_with fail
    refine HL.out.mono ?_
    rintro e w1 ⟨rfl, hb⟩
    have HP1 := Lib.hid (HX0.out.below hb)
    have HB1 : Hid (Below w.heap.size w w1) := HB0.out.trans (hb.mono HB0.out.size)
    clear hb HX0 HL HB0
    have p0 : w1.cell? ⟨w.heap.size, 0, none⟩ = some (.slice a0 (b).ns.length c0) := HP1.out.cell 0
    have p1 : w1.cell? ⟨w.heap.size, 1, none⟩ = some (.slice b0 (b).ts.length d0) := HP1.out.cell 1
    have p2 : w1.cell? ⟨w.heap.size, 2, none⟩ = some (.slice e0 (b).bs.length f0) := HP1.out.cell 2
    have p3 : w1.cell? ⟨w.heap.size, 3, none⟩ = some (.int .u64 ((b).fe : Nat)) := HP1.out.cell 3
    go_wp2_with fail
    refine (HCF.out (b) w1 _ _ _ _ _ _ (HBK.out w1 HB1) hcf).mono ?_
    rintro e w2 ⟨rfl, hb⟩
    have HP := Lib.hid (HP1.out.below hb)
    have HB2 : Hid (Below w.heap.size w w2) := HB1.out.trans (hb.mono HB1.out.size)
    clear hb p0 p1 p2 p3 HP1 HB1
    go_upto_region 4 with fail
    refine wp_region_list ?_
    refine wpList_load_mid rfl 27 (.tmp 2) rfl (w.heap.size) (0) rfl [.slice a0 (b).ns.length c0, .slice b0 (b).ts.length d0, .slice e0 (b).bs.length f0, .int .u64 ((b).fe : Nat)] _ (HP.out.range 0) Tryz.underlying27 rfl rfl ?_
    refine wpList_plain rfl fun K hK => ?_
    go_simp
    refine hK _ _ ?_
    clear hK K
    refine wpList_plain rfl fun K hK => ?_
    go_wp2_with fail
    refine (HD1.out w2 _ _ _ _ _ _ HB2 (HBK.out _ HB2)).mono ?_
    rintro e x1m ⟨v1, v2, v3, rfl, hkp, hb⟩
    obtain ⟨⟨a1, c1, rfl⟩, ⟨b1, d1, rfl⟩, ⟨e1, f1, rfl⟩⟩ := hkp.slices
    refine hK _ _ ?_
    clear hK K
    have HPm := Lib.hid (HP.out.below hb)
    have HBx1m : Hid (Below w.heap.size w x1m) := HB2.out.trans (hb.mono HB2.out.size)
    have HUx1m : Hid (Below w2.heap.size w2 x1m) := hb
    have HKx1 := Lib.hid hkp
    clear hb hkp
    refine wpList_plain rfl fun K hK => ?_
    go_simp
    refine hK _ _ ?_
    clear hK K
    refine wpList_plain rfl fun K hK => ?_
    go_simp
    refine hK _ _ ?_
    clear hK K
    refine wpList_plain rfl fun K hK => ?_
    go_simp
    refine hK _ _ ?_
    clear hK K
    refine wpList_plain rfl fun K hK => ?_
    go_simp
    refine hK _ _ ?_
    clear hK K
    refine wpList_plain rfl fun K hK => ?_
    go_simp
    refine hK _ _ ?_
    clear hK K
    obtain ⟨th1, th2, hbz, hx1, hx2⟩ := two_made x1m [.slice none 0 0, .slice none 0 0, .slice none 0 0, .int .u64 0] [.int .i64 0, .string ⟨#[]⟩] [.slice a1 (bk0).ns.length c1, .slice b1 (bk0).ts.length d1, .slice e1 (bk0).bs.length f1, .int .u64 ((bk0).fe : Nat)] [.int .i64 10, .string ⟨#[]⟩] 27 40 rfl rfl
    refine wpList_store_mid rfl 27 (.tmp 5) (.tmp 20) rfl (x1m.heap.size) 0 #[.slice a1 (bk0).ns.length c1, .slice b1 (bk0).ts.length d1, .slice e1 (bk0).bs.length f1, .int .u64 ((bk0).fe : Nat)] rfl rfl th1 rfl (all_oneCell_toArray (List.all_eq_true.1 (show List.all ([.slice a1 (bk0).ns.length c1, .slice b1 (bk0).ts.length d1, .slice e1 (bk0).bs.length f1, .int .u64 ((bk0).fe : Nat)] : List Value) (fun v => v.oneCell') = true from rfl))) ?_
    rw [show (#[.slice a1 (bk0).ns.length c1, .slice b1 (bk0).ts.length d1, .slice e1 (bk0).bs.length f1, .int .u64 ((bk0).fe : Nat)] : Array Value).toList = [.slice a1 (bk0).ns.length c1, .slice b1 (bk0).ts.length d1, .slice e1 (bk0).bs.length f1, .int .u64 ((bk0).fe : Nat)] from rfl]
    refine wpList_store_mid rfl 40 (.tmp 6) (.tmp 21) rfl (x1m.heap.size + 1) 0 #[.int .i64 10, .string ⟨#[]⟩] rfl rfl th2 rfl (all_oneCell_toArray (List.all_eq_true.1 (show List.all ([.int .i64 10, .string ⟨#[]⟩] : List Value) (fun v => v.oneCell') = true from rfl))) ?_
    rw [show (#[.int .i64 10, .string ⟨#[]⟩] : Array Value).toList = [.int .i64 10, .string ⟨#[]⟩] from rfl]
    clear th1 th2
    generalize (((x1m.alloc (.cells #[.slice none 0 0, .slice none 0 0, .slice none 0 0, .int .u64 0] 27)).alloc (.cells #[.int .i64 0, .string ⟨#[]⟩] 40)).setCells x1m.heap.size 0 [.slice a1 (bk0).ns.length c1, .slice b1 (bk0).ts.length d1, .slice e1 (bk0).bs.length f1, .int .u64 ((bk0).fe : Nat)]).setCells (x1m.heap.size + 1) 0 [.int .i64 10, .string ⟨#[]⟩] = x1 at *
    refine wpList_nil ?_
    have HP2 := Lib.hid (HPm.out.below hbz)
    clear HP HPm
    have HP := HP2
    clear HP2
    have HBx1 : Hid (Below w.heap.size w x1) := HBx1m.out.trans (hbz.mono HBx1m.out.size)
    have HUx1 : Hid (Below w2.heap.size w2 x1) := HUx1m.out.trans (hbz.mono HUx1m.out.size)
    have HKNx1 := Lib.hid (HKx1.out.keep hbz)
    have HXx1 := Lib.hid hx1
    have HTx1 := Lib.hid hx2
    clear hbz hx1 hx2 HKx1 HBx1m HUx1m
    have t0 : x1.cell? ⟨x1m.heap.size + 1, 0, none⟩ = some (.int .i64 10) := HTx1.out.cell 0
    go_wp2
    go_ret
    exact ⟨rfl, HBx1.out⟩
end Bo
end Go.Proofs.YtaipbaegbpebkaaGreat
