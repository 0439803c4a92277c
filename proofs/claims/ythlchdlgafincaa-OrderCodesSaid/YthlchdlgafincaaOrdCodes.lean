/-
  OrderCodes: a command's bytes are those that the document says, and are read as it says.
-/
import Derived.Test.YthlchdlgafincaaOrE
import Derived.Test.YthlchdlgafincaaOrF
import Derived.Test.YthlchdlgafincaaOrdLaw1
import Derived.Test.YthlchdlgafincaaOrdSame
import Derived.Deep.RegionHeld3
namespace Go.Proofs.Ythlchdlgafincaa
open Go.RowKit
namespace Hd
open PM Hc
theorem dcT_took (l : List UInt8) (hl : l.length ≤ maxLen) : TookC (dcT l) maxLen := by
  unfold dcT
  split
  · exact (cmT_took l hl).1
  · exact ⟨nil_took _, nil_took _, nil_took _, nil_took _⟩
/-- A struct laid into a new box. -/
structure Laid (w0 w3 : World) (N : Nat) (vs : List Value) (W : World) : Prop where
  bx : Bxn W N vs
  old : ∀ B xs, Bxn w3 B xs → Bxn W B xs
  be : Below w0.heap.size w0 W
  own : ∀ b v ps, OwnP w3 b v ps → OwnP W b v ps
theorem Laid.made {w0 w3 : World} (hb : Below w0.heap.size w0 w3) (cs vs : List Value) (T : TypeId) (hl : vs.length = cs.length) : Laid w0 w3 w3.heap.size vs ((w3.alloc (.cells cs.toArray T)).setCells w3.heap.size 0 vs) := by
  have ha : Below w3.heap.size w3 (w3.alloc (.cells cs.toArray T)) := (Below.refl _ _).alloc (Nat.le_refl _) _
  have ho := only_setCells w3.heap.size vs 0 (w3.alloc (.cells cs.toArray T))
  have hs := hb.size
  refine ⟨(Bxn.made w3 cs T).all vs hl, fun B xs h => (h.below ha).only ho (by have := h.lt; omega), (hb.trans (ha.mono hs)).trans (ho.below (by rw [World.size_alloc]; omega) hs), fun b v ps h => (h.al _).only ho (h.blk (Nat.le_refl _))⟩
theorem Laid.rows {w0 w3 W : World} {N b : Nat} {vs : List Value} {c : Cd} {v2 v3 v4 v5 : Value} (h : Laid w0 w3 N vs W) (hr : Rows w3 b c v2 v3 v4 v5) : Rows W b c v2 v3 v4 v5 :=
  ⟨h.own _ _ _ hr.1, h.own _ _ _ hr.2.1, h.own _ _ _ hr.2.2.1, h.own _ _ _ hr.2.2.2⟩
/-- What stays in the drawn region: three boxes, and all that lay there. -/
structure Oc (N0 N3 N4 : Nat) (cs ds es : List Value) (W z : World) : Prop where
  b0 : Bxn z N0 cs
  b3 : Bxn z N3 ds
  b4 : Bxn z N4 es
  be : Below W.heap.size W z
theorem Oc.go {N0 N3 N4 : Nat} {cs ds es : List Value} {W z z' : World} (h : Oc N0 N3 N4 cs ds es W z) (hb : Below z.heap.size z z') : Oc N0 N3 N4 cs ds es W z' :=
  ⟨h.b0.below hb, h.b3.below hb, h.b4.below hb, h.be.trans (hb.mono h.be.size)⟩
set_option maxRecDepth 100000 in
set_option maxHeartbeats 4000000 in
theorem orderCodes (v : Value) (C : Cd) (s : ByteArray) (w : World) (hc : CmdArg w v C) (hs : s.size ≤ maxLen) :
    Calls Try.prog 3 #[v, .string s] w fun e w' => e = .returned (.bool true) ∧ Below w.heap.size w w' := by
  obtain ⟨v2, v3, v4, v5, rfl, hp, hl, hb⟩ := hc
  have HB0 : Hid (Below w.heap.size w (w.alloc (.cells (cdC C v2 v3 v4 v5).toArray 33))) := (Below.refl _ _).alloc (Nat.le_refl _) _
  have HX0 : Hid (Bxn (w.alloc (.cells (cdC C v2 v3 v4 v5).toArray 33)) w.heap.size (cdC C v2 v3 v4 v5)) := Bxn.made w _ _
  have k1 := fun z (hz : Below w.heap.size w z) => cmd_encode C v2 v3 v4 v5 z (hp.ovr hz) hl hb
  have k2 := fun z (hz : Below w.heap.size w z) => encode_ref9 C v2 v3 v4 v5 z (hp.ovr hz) hl hb
  have k3 := fun z => cmd_decode s.data.toList z (by exact hs)
  have k4 := fun z => decode_ref9 s.data.toList z (by exact hs)
  have KC := Lib.hid (fun z (hz : Below w.heap.size w z) => check_cmd C v2 v3 v4 v5 z (hp.ovr hz) hl)
  have KR := Lib.hid (fun z (hz : Below w.heap.size w z) => check_ref9 C v2 v3 v4 v5 z (hp.ovr hz) hl)
  have HTK := Lib.hid (dcT_took s.data.toList (by exact hs))
  have KL := Lib.hid lives_true
  unfold CeIs at k1 k2
  unfold DcIs at k3 k4
  rw [bs_of] at k3 k4
  generalize bs (ceS C) = q at *
  generalize hx : coE (ckB C) = x at *
  clear hx
  generalize dcT s.data.toList = D at *
  generalize coE (dcOk s.data.toList) = y at *
  have K1 := Lib.hid k1
  have K2 := Lib.hid k2
  have K3 := Lib.hid k3
  have K4 := Lib.hid k4
  clear k1 k2 k3 k4 hs hp hl hb
  generalize hCS : cdC C v2 v3 v4 v5 = CS at *
  have hlen : CS.length = 21 := by rw [← hCS]; rfl
  have hi : (Try.prog.info? 33).map (·.size) = some CS.length := by rw [hlen]; rfl
  clear hCS
  go_enter Try.func3, Try.ntmps3
  go_upto_region 1 with fail
  generalize w.alloc (.cells CS.toArray 33) = W0 at *
  generalize hA : Value.agg CS.toArray = A0 at *
  refine wp_region_list ?_
  refine wpList_load_mid rfl 33 (.tmp 2) rfl w.heap.size 0 rfl CS _ (HX0.out.range 0) Try.underlying33 rfl hi ?_
  rw [hA]
  go_wp2_with fail
  refine (K1.out _ HB0.out).mono ?_
  rintro e w1 ⟨rfl, hb⟩
  have HB1 := Lib.hid (HB0.out.trans (hb.mono HB0.out.size))
  have HX1 := Lib.hid (HX0.out.below hb)
  clear hb K1
  go_upto_region 2 with fail
  refine wp_region_list ?_
  refine wpList_load_mid rfl 33 (.tmp 2) rfl w.heap.size 0 rfl CS _ (HX1.out.range 0) Try.underlying33 rfl hi ?_
  rw [hA]
  go_wp2_with fail
  refine (K2.out _ HB1.out).mono ?_
  rintro e w2 ⟨rfl, hb⟩
  have HB2 := Lib.hid (HB1.out.trans (hb.mono HB1.out.size))
  have HX2 := Lib.hid (HX1.out.below hb)
  clear hb K2 HB1 HX1
  go_wp2_with fail
  refine (K3.out _).mono ?_
  rintro e w3 ⟨⟨vv, rfl, ⟨u2, u3, u4, u5, rfl, hr⟩⟩, hb⟩
  have HB3 := Lib.hid (HB2.out.trans (hb.mono HB2.out.size))
  have HX3 := Lib.hid (HX2.out.below hb)
  obtain ⟨qa2, qc2, rfl⟩ := hr.1.slice
  obtain ⟨qa3, qc3, rfl⟩ := hr.2.1.slice
  obtain ⟨qa4, qc4, rfl⟩ := hr.2.2.1.slice
  obtain ⟨qa5, qc5, rfl⟩ := hr.2.2.2.slice
  have HLD := Lib.hid (Laid.made HB3.out [.int .u64 0, .int .u64 0, .int .u8 0, .string ⟨#[]⟩, .int .i64 0, .int .i64 0, .int .i64 0, .slice none 0 0, .slice none 0 0, .string ⟨#[]⟩, .int .i64 0, .int .i64 0, .int .i64 0, .slice none 0 0, .slice none 0 0, .string ⟨#[]⟩, .string ⟨#[]⟩, .int .i64 0, .string ⟨#[]⟩, .string ⟨#[]⟩, .int .u64 0] (cdC D (.slice qa2 D.nd.ls.length qc2) (.slice qa3 D.nd.ts.length qc3) (.slice qa4 D.td.ws.length qc4) (.slice qa5 D.td.bs.length qc5)) 33 rfl)
  have HR3 := Lib.hid (HLD.out.rows hr)
  have HX3 := Lib.hid (HLD.out.old _ _ HX3.out)
  have hth := (Bxn.made w3 [.int .u64 0, .int .u64 0, .int .u8 0, .string ⟨#[]⟩, .int .i64 0, .int .i64 0, .int .i64 0, .slice none 0 0, .slice none 0 0, .string ⟨#[]⟩, .int .i64 0, .int .i64 0, .int .i64 0, .slice none 0 0, .slice none 0 0, .string ⟨#[]⟩, .string ⟨#[]⟩, .int .i64 0, .string ⟨#[]⟩, .string ⟨#[]⟩, .int .u64 0] 33).there 21 rfl
  clear hb hr K3 HB2 HX2 HB3
  dsimp only
  refine ‹∀ (a : Act) (w : World), wpList Try.prog _ _ _ a w → _› _ _ ?_
  refine wpList_plain rfl fun K hK => ?_
  go_simp
  refine hK _ _ ?_
  clear hK K
  refine wpList_plain rfl fun K hK => ?_
  go_simp
  refine hK _ _ ?_
  clear hK K
  refine wpList_plain rfl fun K hK => ?_
  go_simp
  refine hK _ _ ?_
  clear hK K
  refine wpList_plain rfl fun K hK => ?_
  go_simp
  refine hK _ _ ?_
  clear hK K
  refine wpList_store_mid rfl 33 (.tmp 9) (.tmp 26) rfl w3.heap.size 0 (cdC D (.slice qa2 D.nd.ls.length qc2) (.slice qa3 D.nd.ts.length qc3) (.slice qa4 D.td.ws.length qc4) (.slice qa5 D.td.bs.length qc5)).toArray rfl rfl hth rfl (all_oneCell_toArray (cdC_one D _ _ _ _ rfl rfl rfl rfl)) ?_
  clear hth
  rw [show (cdC D (.slice qa2 D.nd.ls.length qc2) (.slice qa3 D.nd.ts.length qc3) (.slice qa4 D.td.ws.length qc4) (.slice qa5 D.td.bs.length qc5)).toArray.toList = (cdC D (.slice qa2 D.nd.ls.length qc2) (.slice qa3 D.nd.ts.length qc3) (.slice qa4 D.td.ws.length qc4) (.slice qa5 D.td.bs.length qc5)) from rfl]
  generalize (w3.alloc (.cells #[.int .u64 0, .int .u64 0, .int .u8 0, .string ⟨#[]⟩, .int .i64 0, .int .i64 0, .int .i64 0, .slice none 0 0, .slice none 0 0, .string ⟨#[]⟩, .int .i64 0, .int .i64 0, .int .i64 0, .slice none 0 0, .slice none 0 0, .string ⟨#[]⟩, .string ⟨#[]⟩, .int .i64 0, .string ⟨#[]⟩, .string ⟨#[]⟩, .int .u64 0] 33)).setCells w3.heap.size 0 (cdC D (.slice qa2 D.nd.ls.length qc2) (.slice qa3 D.nd.ts.length qc3) (.slice qa4 D.td.ws.length qc4) (.slice qa5 D.td.bs.length qc5)) = W3 at *
  generalize w3.heap.size = N3 at *
  go_wp2_with fail
  refine (K4.out _).mono ?_
  rintro e w4 ⟨⟨vv, rfl, ⟨u2, u3, u4, u5, rfl, hr⟩⟩, hb⟩
  have HB4 := Lib.hid (HLD.out.be.trans (hb.mono HLD.out.be.size))
  have HR4 := Lib.hid (HR3.out.below hb)
  obtain ⟨ra2, rc2, rfl⟩ := hr.1.slice
  obtain ⟨ra3, rc3, rfl⟩ := hr.2.1.slice
  obtain ⟨ra4, rc4, rfl⟩ := hr.2.2.1.slice
  obtain ⟨ra5, rc5, rfl⟩ := hr.2.2.2.slice
  have HLE := Lib.hid (Laid.made HB4.out [.int .u64 0, .int .u64 0, .int .u8 0, .string ⟨#[]⟩, .int .i64 0, .int .i64 0, .int .i64 0, .slice none 0 0, .slice none 0 0, .string ⟨#[]⟩, .int .i64 0, .int .i64 0, .int .i64 0, .slice none 0 0, .slice none 0 0, .string ⟨#[]⟩, .string ⟨#[]⟩, .int .i64 0, .string ⟨#[]⟩, .string ⟨#[]⟩, .int .u64 0] (cdC D (.slice ra2 D.nd.ls.length rc2) (.slice ra3 D.nd.ts.length rc3) (.slice ra4 D.td.ws.length rc4) (.slice ra5 D.td.bs.length rc5)) 33 rfl)
  have HR5 := Lib.hid (HLE.out.rows HR4.out)
  have HRE := Lib.hid (HLE.out.rows hr)
  have HX4 := Lib.hid (HLE.out.old _ _ (HX3.out.below hb))
  have HD4 := Lib.hid (HLE.out.old _ _ (HLD.out.bx.below hb))
  have hth := (Bxn.made w4 [.int .u64 0, .int .u64 0, .int .u8 0, .string ⟨#[]⟩, .int .i64 0, .int .i64 0, .int .i64 0, .slice none 0 0, .slice none 0 0, .string ⟨#[]⟩, .int .i64 0, .int .i64 0, .int .i64 0, .slice none 0 0, .slice none 0 0, .string ⟨#[]⟩, .string ⟨#[]⟩, .int .i64 0, .string ⟨#[]⟩, .string ⟨#[]⟩, .int .u64 0] 33).there 21 rfl
  clear hb hr K4 HB4 HX3 HR3 HR4 HLD
  dsimp only
  refine ‹∀ (a : Act) (w : World), wpList Try.prog _ _ _ a w → _› _ _ ?_
  refine wpList_plain rfl fun K hK => ?_
  go_simp
  refine hK _ _ ?_
  clear hK K
  refine wpList_plain rfl fun K hK => ?_
  go_simp
  refine hK _ _ ?_
  clear hK K
  refine wpList_plain rfl fun K hK => ?_
  go_simp
  refine hK _ _ ?_
  clear hK K
  refine wpList_plain rfl fun K hK => ?_
  go_simp
  refine hK _ _ ?_
  clear hK K
  refine wpList_store_mid rfl 33 (.tmp 11) (.tmp 31) rfl w4.heap.size 0 (cdC D (.slice ra2 D.nd.ls.length rc2) (.slice ra3 D.nd.ts.length rc3) (.slice ra4 D.td.ws.length rc4) (.slice ra5 D.td.bs.length rc5)).toArray rfl rfl hth rfl (all_oneCell_toArray (cdC_one D _ _ _ _ rfl rfl rfl rfl)) ?_
  clear hth
  rw [show (cdC D (.slice ra2 D.nd.ls.length rc2) (.slice ra3 D.nd.ts.length rc3) (.slice ra4 D.td.ws.length rc4) (.slice ra5 D.td.bs.length rc5)).toArray.toList = (cdC D (.slice ra2 D.nd.ls.length rc2) (.slice ra3 D.nd.ts.length rc3) (.slice ra4 D.td.ws.length rc4) (.slice ra5 D.td.bs.length rc5)) from rfl]
  generalize (w4.alloc (.cells #[.int .u64 0, .int .u64 0, .int .u8 0, .string ⟨#[]⟩, .int .i64 0, .int .i64 0, .int .i64 0, .slice none 0 0, .slice none 0 0, .string ⟨#[]⟩, .int .i64 0, .int .i64 0, .int .i64 0, .slice none 0 0, .slice none 0 0, .string ⟨#[]⟩, .string ⟨#[]⟩, .int .i64 0, .string ⟨#[]⟩, .string ⟨#[]⟩, .int .u64 0] 33)).setCells w4.heap.size 0 (cdC D (.slice ra2 D.nd.ls.length rc2) (.slice ra3 D.nd.ts.length rc3) (.slice ra4 D.td.ws.length rc4) (.slice ra5 D.td.bs.length rc5)) = W4 at *
  generalize w4.heap.size = N4 at *
  have HP3 := Lib.hid (HR5.out.prs HTK.out)
  have HP4 := Lib.hid (HRE.out.prs HTK.out)
  have KS : Hid (∀ z, Below W4.heap.size W4 z → Calls Try.prog 15 #[.agg (cdC D (.slice qa2 D.nd.ls.length qc2) (.slice qa3 D.nd.ts.length qc3) (.slice qa4 D.td.ws.length qc4) (.slice qa5 D.td.bs.length qc5)).toArray, .agg (cdC D (.slice ra2 D.nd.ls.length rc2) (.slice ra3 D.nd.ts.length rc3) (.slice ra4 D.td.ws.length rc4) (.slice ra5 D.td.bs.length rc5)).toArray] z fun e w' => e = .returned (.bool true) ∧ Below z.heap.size z w') := fun z hz => by
    have := same_cmd D D _ _ _ _ _ _ _ _ z (HP3.out.ovr hz) (HP4.out.ovr hz)
    rw [smC_iff.2 rfl] at this
    exact this
  have HOC : Hid (Oc w.heap.size N3 N4 CS (cdC D (.slice qa2 D.nd.ls.length qc2) (.slice qa3 D.nd.ts.length qc3) (.slice qa4 D.td.ws.length qc4) (.slice qa5 D.td.bs.length qc5)) (cdC D (.slice ra2 D.nd.ls.length rc2) (.slice ra3 D.nd.ts.length rc3) (.slice ra4 D.td.ws.length rc4) (.slice ra5 D.td.bs.length rc5)) W4 W4.drew) := ⟨HX4.out, HD4.out, HLE.out.bx, (Below.refl _ _).drew⟩
  have HBE := Lib.hid HLE.out.be
  have KC2 : Hid (∀ z, Below W4.heap.size W4 z → _) := fun z hz => KC.out z (HBE.out.trans (hz.mono HBE.out.size))
  have KR2 : Hid (∀ z, Below W4.heap.size W4 z → _) := fun z hz => KR.out z (HBE.out.trans (hz.mono HBE.out.size))
  clear HX4 HD4 HLE HP3 HP4 HR5 HRE HTK KC KR HB0 HX0
  generalize hD3 : (cdC D (.slice qa2 D.nd.ls.length qc2) (.slice qa3 D.nd.ts.length qc3) (.slice qa4 D.td.ws.length qc4) (.slice qa5 D.td.bs.length qc5)) = DS at *
  generalize hD4 : (cdC D (.slice ra2 D.nd.ls.length rc2) (.slice ra3 D.nd.ts.length rc3) (.slice ra4 D.td.ws.length rc4) (.slice ra5 D.td.bs.length rc5)) = ES at *
  have hi3 : (Try.prog.info? 33).map (·.size) = some DS.length := by rw [← hD3]; rfl
  have hi4 : (Try.prog.info? 33).map (·.size) = some ES.length := by rw [← hD4]; rfl
  clear hD3 hD4
  go_upto_region 5 with fail
  refine wp_region_held_drew (S := Oc w.heap.size N3 N4 CS DS ES W4) (by kernel_rfl) HOC.out (fun hHeld => ?_)
  clear HOC
  refine wpAnyH_ready (rs := [0]) (by kernel_rfl) (by simp) ?_
  refine AllReadyH.cons rfl (fun K hK => ?_) AllReadyH.nil
  go_simp
  refine (KL.out _).mono ?_
  rintro e z0 ⟨rfl, hb⟩
  try dsimp only
  refine hK.out _ _ (hHeld.go hb) (fun hHeld2 => ?_)
  clear hb hK K hHeld
  have hHeld := hHeld2
  clear hHeld2
  try simp only [Act.put, List.setIfInBounds_toArray, List.set_cons_zero, List.set_cons_succ, List.getElem_toArray, List.getElem_cons_succ, List.getElem_cons_zero]
  refine wpAnyH_take (i := 1) (v := ?_) rfl (by kernel_rfl) (by kernel_rfl) (by kernel_rfl) (fun _ _ _ h => h) (Or.inl ⟨by rfl, ?_⟩) (by assumption) ?_
  rotate_left
  · intro z hSz
    clear hSz
    go_simp
    try with_reducible rfl
  try simp only [Act.put, List.setIfInBounds_toArray, List.set_cons_zero, List.set_cons_succ, List.getElem_toArray, List.getElem_cons_succ, List.getElem_cons_zero]
  refine wpAnyH_take (i := 2) (v := ?_) rfl (by kernel_rfl) (by kernel_rfl) (by kernel_rfl) (fun _ _ _ h => h) (Or.inl ⟨by rfl, ?_⟩) (by assumption) ?_
  rotate_left
  · intro z hSz
    clear hSz
    go_simp
    try with_reducible rfl
  try simp only [Act.put, List.setIfInBounds_toArray, List.set_cons_zero, List.set_cons_succ, List.getElem_toArray, List.getElem_cons_succ, List.getElem_cons_zero]
  refine wpAnyH_take (i := 3) (v := ?_) rfl (by kernel_rfl) (by kernel_rfl) (by kernel_rfl) (fun _ _ _ h => h) (Or.inl ⟨by rfl, ?_⟩) (by assumption) ?_
  rotate_left
  · intro z hSz
    clear hSz
    go_simp
    try with_reducible rfl
  try simp only [Act.put, List.setIfInBounds_toArray, List.set_cons_zero, List.set_cons_succ, List.getElem_toArray, List.getElem_cons_succ, List.getElem_cons_zero]
  refine wpAnyH_take (i := 4) (v := ?_) rfl (by kernel_rfl) (by kernel_rfl) (by kernel_rfl) (fun _ _ _ h => h) (Or.inl ⟨by rfl, ?_⟩) (by assumption) ?_
  rotate_left
  · intro z hSz
    clear hSz
    go_simp
    try with_reducible rfl
  try simp only [Act.put, List.setIfInBounds_toArray, List.set_cons_zero, List.set_cons_succ, List.getElem_toArray, List.getElem_cons_succ, List.getElem_cons_zero]
  refine wpAnyH_take (i := 5) (v := ?_) rfl (by kernel_rfl) (by kernel_rfl) (by kernel_rfl) (fun _ _ _ h => h) (Or.inl ⟨by rfl, ?_⟩) (by assumption) ?_
  rotate_left
  · intro z hSz
    clear hSz
    go_simp
    try with_reducible rfl
  try simp only [Act.put, List.setIfInBounds_toArray, List.set_cons_zero, List.set_cons_succ, List.getElem_toArray, List.getElem_cons_succ, List.getElem_cons_zero]
  refine wpAnyH_take (i := 6) (v := ?_) rfl (by kernel_rfl) (by kernel_rfl) (by kernel_rfl) (fun _ _ _ h => h) (Or.inl ⟨by rfl, ?_⟩) (by assumption) ?_
  rotate_left
  · intro z hSz
    clear hSz
    go_simp
    try with_reducible rfl
  try simp only [Act.put, List.setIfInBounds_toArray, List.set_cons_zero, List.set_cons_succ, List.getElem_toArray, List.getElem_cons_succ, List.getElem_cons_zero]
  refine wpAnyH_take (i := 7) (v := ?_) rfl (by kernel_rfl) (by kernel_rfl) (by kernel_rfl) (fun _ _ _ h => h) (Or.inl ⟨by rfl, ?_⟩) (by assumption) ?_
  rotate_left
  · intro z hSz
    clear hSz
    go_simp
    try with_reducible rfl
  try simp only [Act.put, List.setIfInBounds_toArray, List.set_cons_zero, List.set_cons_succ, List.getElem_toArray, List.getElem_cons_succ, List.getElem_cons_zero]
  refine wpAnyH_take (i := 8) (v := ?_) rfl (by kernel_rfl) (by kernel_rfl) (by kernel_rfl) (fun _ _ _ h => h) (Or.inl ⟨by rfl, ?_⟩) (by assumption) ?_
  rotate_left
  · intro z hSz
    clear hSz
    go_simp
    try with_reducible rfl
  try simp only [Act.put, List.setIfInBounds_toArray, List.set_cons_zero, List.set_cons_succ, List.getElem_toArray, List.getElem_cons_succ, List.getElem_cons_zero]
  refine wpAnyH_take (i := 9) (v := ?_) rfl (by kernel_rfl) (by kernel_rfl) (by kernel_rfl) (fun _ _ _ h => h) (Or.inl ⟨by rfl, ?_⟩) (by assumption) ?_
  rotate_left
  · intro z hSz
    clear hSz
    go_simp
    try with_reducible rfl
  try simp only [Act.put, List.setIfInBounds_toArray, List.set_cons_zero, List.set_cons_succ, List.getElem_toArray, List.getElem_cons_succ, List.getElem_cons_zero]
  refine wpAnyH_take (i := 10) (v := ?_) rfl (by kernel_rfl) (by kernel_rfl) (by kernel_rfl) (fun _ _ _ h => h) (Or.inl ⟨by rfl, ?_⟩) (by assumption) ?_
  rotate_left
  · intro z hSz
    clear hSz
    go_simp
    try with_reducible rfl
  try simp only [Act.put, List.setIfInBounds_toArray, List.set_cons_zero, List.set_cons_succ, List.getElem_toArray, List.getElem_cons_succ, List.getElem_cons_zero]
  refine wpAnyH_take (i := 11) (v := ?_) rfl (by kernel_rfl) (by kernel_rfl) (by kernel_rfl) (fun _ _ _ h => h) (Or.inl ⟨by rfl, ?_⟩) (by assumption) ?_
  rotate_left
  · intro z hSz
    clear hSz
    go_simp
    try with_reducible rfl
  try simp only [Act.put, List.setIfInBounds_toArray, List.set_cons_zero, List.set_cons_succ, List.getElem_toArray, List.getElem_cons_succ, List.getElem_cons_zero]
  refine wpAnyH_take (i := 12) rfl (by kernel_rfl) (by kernel_rfl) (by kernel_rfl) (fun _ _ _ h => h) (yieldsIf_load_mid (by rfl) 33 _ rfl N3 0 rfl DS _ (fun z hz => hz.b3.range 0) Try.underlying33 rfl (by assumption)) (by assumption) ?_
  try simp only [Act.put, List.setIfInBounds_toArray, List.set_cons_zero, List.set_cons_succ, List.getElem_toArray, List.getElem_cons_succ, List.getElem_cons_zero]
  refine wpAnyH_take (i := 13) rfl (by kernel_rfl) (by kernel_rfl) (by kernel_rfl) (fun _ _ _ h => h) (yieldsIf_load_mid (by rfl) 33 _ rfl N4 0 rfl ES _ (fun z hz => hz.b4.range 0) Try.underlying33 rfl (by assumption)) (by assumption) ?_
  try simp only [Act.put, List.setIfInBounds_toArray, List.set_cons_zero, List.set_cons_succ, List.getElem_toArray, List.getElem_cons_succ, List.getElem_cons_zero]
  refine wpAnyH_ready (rs := [14]) (by kernel_rfl) (by simp) ?_
  refine AllReadyH.cons rfl (fun K hK => ?_) AllReadyH.nil
  go_simp
  refine (KS.out _ hHeld.be).mono ?_
  rintro e z1 ⟨rfl, hb⟩
  try dsimp only
  refine hK.out _ _ (hHeld.go hb) (fun hHeld2 => ?_)
  clear hb hK K hHeld
  have hHeld := hHeld2
  clear hHeld2
  try simp only [Act.put, List.setIfInBounds_toArray, List.set_cons_zero, List.set_cons_succ, List.getElem_toArray, List.getElem_cons_succ, List.getElem_cons_zero]
  refine wpAnyH_take (i := 15) (v := ?_) rfl (by kernel_rfl) (by kernel_rfl) (by kernel_rfl) (fun _ _ _ h => h) (Or.inl ⟨by rfl, ?_⟩) (by assumption) ?_
  rotate_left
  · intro z hSz
    clear hSz
    go_simp
    try with_reducible rfl
  try simp only [Act.put, List.setIfInBounds_toArray, List.set_cons_zero, List.set_cons_succ, List.getElem_toArray, List.getElem_cons_succ, List.getElem_cons_zero]
  refine wpAnyH_take (i := 16) (v := ?_) rfl (by kernel_rfl) (by kernel_rfl) (by kernel_rfl) (fun _ _ _ h => h) (Or.inl ⟨by rfl, ?_⟩) (by assumption) ?_
  rotate_left
  · intro z hSz
    clear hSz
    go_simp
    try with_reducible rfl
  try simp only [Act.put, List.setIfInBounds_toArray, List.set_cons_zero, List.set_cons_succ, List.getElem_toArray, List.getElem_cons_succ, List.getElem_cons_zero]
  refine wpAnyH_take (i := 17) (v := ?_) rfl (by kernel_rfl) (by kernel_rfl) (by kernel_rfl) (fun _ _ _ h => h) (Or.inl ⟨by rfl, ?_⟩) (by assumption) ?_
  rotate_left
  · intro z hSz
    clear hSz
    go_simp
    try with_reducible rfl
  try simp only [Act.put, List.setIfInBounds_toArray, List.set_cons_zero, List.set_cons_succ, List.getElem_toArray, List.getElem_cons_succ, List.getElem_cons_zero]
  refine wpAnyH_take (i := 18) (v := ?_) rfl (by kernel_rfl) (by kernel_rfl) (by kernel_rfl) (fun _ _ _ h => h) (Or.inl ⟨by rfl, ?_⟩) (by assumption) ?_
  rotate_left
  · intro z hSz
    clear hSz
    go_simp
    try with_reducible rfl
  try simp only [Act.put, List.setIfInBounds_toArray, List.set_cons_zero, List.set_cons_succ, List.getElem_toArray, List.getElem_cons_succ, List.getElem_cons_zero]
  refine wpAnyH_take (i := 19) (v := ?_) rfl (by kernel_rfl) (by kernel_rfl) (by kernel_rfl) (fun _ _ _ h => h) (Or.inl ⟨by rfl, ?_⟩) (by assumption) ?_
  rotate_left
  · intro z hSz
    clear hSz
    go_simp
    try with_reducible rfl
  try simp only [Act.put, List.setIfInBounds_toArray, List.set_cons_zero, List.set_cons_succ, List.getElem_toArray, List.getElem_cons_succ, List.getElem_cons_zero]
  refine wpAnyH_take (i := 20) (v := ?_) rfl (by kernel_rfl) (by kernel_rfl) (by kernel_rfl) (fun _ _ _ h => h) (Or.inl ⟨by rfl, ?_⟩) (by assumption) ?_
  rotate_left
  · intro z hSz
    clear hSz
    go_simp
    try with_reducible rfl
  try simp only [Act.put, List.setIfInBounds_toArray, List.set_cons_zero, List.set_cons_succ, List.getElem_toArray, List.getElem_cons_succ, List.getElem_cons_zero]
  refine wpAnyH_take (i := 21) (v := ?_) rfl (by kernel_rfl) (by kernel_rfl) (by kernel_rfl) (fun _ _ _ h => h) (Or.inl ⟨by rfl, ?_⟩) (by assumption) ?_
  rotate_left
  · intro z hSz
    clear hSz
    go_simp
    try with_reducible rfl
  try simp only [Act.put, List.setIfInBounds_toArray, List.set_cons_zero, List.set_cons_succ, List.getElem_toArray, List.getElem_cons_succ, List.getElem_cons_zero]
  refine wpAnyH_take (i := 22) rfl (by kernel_rfl) (by kernel_rfl) (by kernel_rfl) (fun _ _ _ h => h) (yieldsIf_load_mid (by rfl) 33 _ rfl w.heap.size 0 rfl CS _ (fun z hz => hz.b0.range 0) Try.underlying33 rfl (by assumption)) (by assumption) ?_
  try simp only [Act.put, List.setIfInBounds_toArray, List.set_cons_zero, List.set_cons_succ, List.getElem_toArray, List.getElem_cons_succ, List.getElem_cons_zero]
  refine wpAnyH_take (i := 24) rfl (by kernel_rfl) (by kernel_rfl) (by kernel_rfl) (fun _ _ _ h => h) (yieldsIf_load_mid (by rfl) 33 _ rfl w.heap.size 0 rfl CS _ (fun z hz => hz.b0.range 0) Try.underlying33 rfl (by assumption)) (by assumption) ?_
  try simp only [Act.put, List.setIfInBounds_toArray, List.set_cons_zero, List.set_cons_succ, List.getElem_toArray, List.getElem_cons_succ, List.getElem_cons_zero]
  rw [hA]
  refine wpAnyH_ready (rs := [23]) (by kernel_rfl) (by simp) ?_
  refine AllReadyH.cons rfl (fun K hK => ?_) AllReadyH.nil
  go_simp
  refine (KC2.out _ hHeld.be).mono ?_
  rintro e z2 ⟨rfl, hb⟩
  try dsimp only
  refine hK.out _ _ (hHeld.go hb) (fun hHeld2 => ?_)
  clear hb hK K hHeld
  have hHeld := hHeld2
  clear hHeld2
  try simp only [Act.put, List.setIfInBounds_toArray, List.set_cons_zero, List.set_cons_succ, List.getElem_toArray, List.getElem_cons_succ, List.getElem_cons_zero]
  refine wpAnyH_ready (rs := [25]) (by kernel_rfl) (by simp) ?_
  refine AllReadyH.cons rfl (fun K hK => ?_) AllReadyH.nil
  go_simp
  refine (KR2.out _ hHeld.be).mono ?_
  rintro e z3 ⟨rfl, hb⟩
  try dsimp only
  refine hK.out _ _ (hHeld.go hb) (fun hHeld2 => ?_)
  clear hb hK K hHeld
  have hHeld := hHeld2
  clear hHeld2
  try simp only [Act.put, List.setIfInBounds_toArray, List.set_cons_zero, List.set_cons_succ, List.getElem_toArray, List.getElem_cons_succ, List.getElem_cons_zero]
  refine wpAnyH_take (i := 26) (v := ?_) rfl (by kernel_rfl) (by kernel_rfl) (by kernel_rfl) (fun _ _ _ h => h) (Or.inl ⟨by rfl, ?_⟩) (by assumption) ?_
  rotate_left
  · intro z hSz
    clear hSz
    go_simp
    try with_reducible rfl
  try simp only [Act.put, List.setIfInBounds_toArray, List.set_cons_zero, List.set_cons_succ, List.getElem_toArray, List.getElem_cons_succ, List.getElem_cons_zero]
  refine wpAnyH_take (i := 27) (v := ?_) rfl (by kernel_rfl) (by kernel_rfl) (by kernel_rfl) (fun _ _ _ h => h) (Or.inl ⟨by rfl, ?_⟩) (by assumption) ?_
  rotate_left
  · intro z hSz
    clear hSz
    go_simp
    try with_reducible rfl
  try simp only [Act.put, List.setIfInBounds_toArray, List.set_cons_zero, List.set_cons_succ, List.getElem_toArray, List.getElem_cons_succ, List.getElem_cons_zero]
  refine wpAnyH_take (i := 28) (v := ?_) rfl (by kernel_rfl) (by kernel_rfl) (by kernel_rfl) (fun _ _ _ h => h) (Or.inl ⟨by rfl, ?_⟩) (by assumption) ?_
  rotate_left
  · intro z hSz
    clear hSz
    go_simp
    try with_reducible rfl
  try simp only [Act.put, List.setIfInBounds_toArray, List.set_cons_zero, List.set_cons_succ, List.getElem_toArray, List.getElem_cons_succ, List.getElem_cons_zero]
  refine wpAnyH_done (by kernel_rfl) ?_ _
  have HBF := Lib.hid (HBE.out.trans (hHeld.be.mono HBE.out.size))
  clear hHeld
  go_wp2
  go_ret
  exact ⟨rfl, HBF.out⟩
end Hd
end Go.Proofs.Ythlchdlgafincaa
