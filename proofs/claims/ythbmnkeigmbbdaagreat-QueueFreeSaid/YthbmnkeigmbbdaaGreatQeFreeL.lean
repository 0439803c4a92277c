/-
  gafferlaw11.QueueFree.
-/
import Derived.Test.YthbmnkeigmbbdaaGreatQeLives
import Derived.Test.YthbmnkeigmbbdaaGreatQeF
import Derived.Test.YthbmnkeigmbbdaaGreatBgA
import Derived.Test.YthbmnkeigmbbdaaGreatBgZ
import Derived.Test.YthbmnkeigmbbdaaGreatBoLivD
namespace Go.Proofs.YthbmnkeigmbbdaaGreat
open Go.RowKit Go.Lib
namespace Bo
open Rw
set_option linter.unusedVariables false
def oBnd (k v : ByteArray) (fe : Nat) : Hd.Cd := lvO Hd.nd0 Hd.td0 5 k v fe
theorem fitS0 : FitS ⟨#[]⟩ := by unfold FitS; decide +kernel
theorem do_bnd {b : Bk} (h : chkB b = true) (k v : ByteArray) (fe : Nat) : doF b (oBnd k v fe) = ((biB b k v fe).1, (biB b k v fe).2, ByteArray.empty) := by
  unfold doF
  rw [if_pos h]
  unfold doV
  rw [if_pos (show Hd.coB (oBnd k v fe) = true from rfl), if_neg (show ¬ (oBnd k v fe).k = 7 from by show ¬ (5 : Nat) = 7; decide)]
  rfl
theorem bi_why (b : Bk) (k v : ByteArray) : (biB b k v b.fe).2 = canE b k v := by
  unfold biB
  rw [if_neg (Nat.lt_irrefl _)]
  by_cases h0 : canE b k v = 0
  · rw [if_pos h0, h0]
  · rw [if_neg h0]
theorem bnd_plain {b : Bk} (h : chkB b = true) (k v : ByteArray) : ∃ c, doF b (oBnd k v b.fe) = (c, canE b k v, ByteArray.empty) := ⟨_, by rw [do_bnd h, bi_why]⟩
theorem nds_at {w : World} {B : Nat} {a : Option Addr} {n c : Nat} {l : List Hd.Nd} (h : Nds w B (.slice a n c) l) (k : Nat) (hk : k < l.length) : ∃ g off x, a = some ⟨g, off, none⟩ ∧ g < B ∧ At w g (off + k * 6) (x : NdM) ∧ x.nd = l[k] := by
  obtain ⟨m, rfl, hs, -, -⟩ := h
  rw [List.length_map] at hk
  obtain ⟨a', c', he, -, -, -, h4⟩ := hs
  obtain ⟨g, off, rfl, -, hlt, hc⟩ := h4 (by omega)
  simp only [Value.slice.injEq] at he
  obtain ⟨rfl, -, -⟩ := he
  exact ⟨g, off, m[k], rfl, hlt, hc k hk, by simp⟩
theorem has_snoc (l : List ByteArray) (q : Nat) (h : q < l.length) (x : ByteArray) : hasK (l.take (q + 1)) x = (hasK (l.take q) x || decide (l[q] = x)) := by
  unfold hasK
  rw [List.take_succ_eq_append_getElem h, List.any_append, List.any_cons, List.any_nil, Bool.or_false]
theorem fr_mem {b : Bk} {ky : ByteArray} (h : frE b ky = 0) {v : ByteArray} (hv : v ∈ b.ns.map (·.n)) : hasK (frV b ky) v = decide (canE b ky v = 0) := by
  rw [Bool.eq_iff_iff, has_iff, decide_eq_true_eq]
  unfold frV
  rw [if_pos h]
  unfold frL
  rw [List.mem_filter, decide_eq_true_eq]
  exact ⟨fun h => h.2, fun h => ⟨hv, h⟩⟩
theorem fr_len (b : Bk) (ky : ByteArray) : (frV b ky).length ≤ b.ns.length := by
  unfold frV
  split
  · unfold frL
    have := List.length_filter_le (fun v => decide (canE b ky v = 0)) (b.ns.map (·.n))
    rwa [List.length_map] at this
  · exact Nat.zero_le _
theorem fr_chk {b : Bk} {ky : ByteArray} (h : frE b ky = 0) : chkB b = true := by
  unfold frE at h
  split at h
  · assumption
  · cases h
set_option maxRecDepth 100000 in
set_option maxHeartbeats 4000000 in
theorem freel_no (b : Bk) (ky : ByteArray) (vb0 : Value) (w : World) (hb : BookArg w vb0 b) (hfk : FitS ky) (he : ¬ frE b ky = 0) : Calls Tryz.prog 4 #[vb0, .string ky] w fun e w' => e = .returned (.bool true) ∧ Below w.heap.size w w' := by
  obtain ⟨vn, vt, vb, rfl, hB⟩ := hb
  obtain ⟨⟨a0, c0, rfl⟩, ⟨b0, d0, rfl⟩, ⟨e0, f0, rfl⟩⟩ := And.intro hB.hn.slice (And.intro hB.ht.slice hB.hb.slice)
  obtain ⟨W0, hW0⟩ : ∃ W0, W0 = w.alloc (.cells #[.slice a0 (b).ns.length c0, .slice b0 (b).ts.length d0, .slice e0 (b).bs.length f0, .int .u64 ((b).fe : Nat)] 27) := ⟨_, rfl⟩
  have hb0 : Below w.heap.size w W0 := by rw [hW0]; exact al w _
  have hx0 : Hd.Bxn W0 w.heap.size [.slice a0 (b).ns.length c0, .slice b0 (b).ts.length d0, .slice e0 (b).bs.length f0, .int .u64 ((b).fe : Nat)] := by rw [hW0]; exact Hd.Bxn.made w _ _
  have HL : Hid (Calls Tryz.prog 18 #[] W0 fun e w' => e = .returned (.bool true) ∧ Below W0.heap.size W0 w') := livesQ_any W0
  have HBK : Hid (∀ z, Below w.heap.size w z → Books z z.heap.size (.slice a0 (b).ns.length c0) (.slice b0 (b).ts.length d0) (.slice e0 (b).bs.length f0) (b)) := fun z hz => hB.on hz
  have HW := Lib.hid hW0
  have HX0 := Lib.hid hx0
  have HB0 := Lib.hid hb0
  clear hW0 hb0 hx0 hB
  have HFQ : Hid (∀ z, Below w.heap.size w z → Calls Tryz.prog 16 #[.agg #[.slice a0 (b).ns.length c0, .slice b0 (b).ts.length d0, .slice e0 (b).bs.length f0, .int .u64 ((b).fe : Nat)], .string ky] z fun e w' => ∃ a c, e = .returned (.tuple #[.slice a 0 c, .int .i64 (frE b ky : Nat)]) ∧ Below z.heap.size z w') := fun z hz => by
    refine (free_any b _ _ _ ky z (HBK.out z hz)).mono ?_
    rintro e w' ⟨v, he', ho, hb⟩
    have hm : frV b ky = [] := by unfold frV; rw [if_neg he]
    rw [hm] at ho
    obtain ⟨a, c, rfl⟩ := ho.slice
    exact ⟨a, c, he', hb⟩
  generalize frE b ky = q at *
  have t5 : ((q : Int) != 0) = true := by simp; omega
  have t6 : ¬ (q : Int) = 0 := by omega
  clear he hfk HBK
  go_enter Tryz.func4, Tryz.ntmps4
  go_upto_region 1 with fail
  rw [← HW.out]
  go_wp2_with fail
  refine HL.out.mono ?_
  rintro e w1 ⟨rfl, hb⟩
  have HX1 := Lib.hid (HX0.out.below hb)
  have HB1 : Hid (Below w.heap.size w w1) := HB0.out.trans (hb.mono HB0.out.size)
  clear hb HX0 HB0 HL HW
  have y0 : w1.cell? ⟨w.heap.size, 0, none⟩ = some (.slice a0 (b).ns.length c0) := HX1.out.cell 0
  have y1 : w1.cell? ⟨w.heap.size, 1, none⟩ = some (.slice b0 (b).ts.length d0) := HX1.out.cell 1
  have y2 : w1.cell? ⟨w.heap.size, 2, none⟩ = some (.slice e0 (b).bs.length f0) := HX1.out.cell 2
  have y3 : w1.cell? ⟨w.heap.size, 3, none⟩ = some (.int .u64 ((b).fe : Nat)) := HX1.out.cell 3
  go_wp2_with fail
  refine (HFQ.out w1 HB1.out).mono ?_
  rintro e w2 ⟨a, c, rfl, hb⟩
  have HX12 := Lib.hid (HX1.out.below hb)
  have HB2 : Hid (Below w.heap.size w w2) := HB1.out.trans (hb.mono HB1.out.size)
  clear hb y0 y1 y2 y3
  go_wp2
  go_ret
  exact ⟨rfl, HB2.out⟩
set_option maxRecDepth 100000 in
set_option maxHeartbeats 4000000 in
theorem freel_ok (b : Bk) (ky : ByteArray) (vb0 : Value) (w : World) (hb : BookArg w vb0 b) (hfk : FitS ky) (he : frE b ky = 0) : Calls Tryz.prog 4 #[vb0, .string ky] w fun e w' => e = .returned (.bool true) ∧ Below w.heap.size w w' := by
  obtain ⟨vn, vt, vb, rfl, hB⟩ := hb
  obtain ⟨⟨a0, c0, rfl⟩, ⟨b0, d0, rfl⟩, ⟨e0, f0, rfl⟩⟩ := And.intro hB.hn.slice (And.intro hB.ht.slice hB.hb.slice)
  obtain ⟨W0, hW0⟩ : ∃ W0, W0 = w.alloc (.cells #[.slice a0 (b).ns.length c0, .slice b0 (b).ts.length d0, .slice e0 (b).bs.length f0, .int .u64 ((b).fe : Nat)] 27) := ⟨_, rfl⟩
  have hb0 : Below w.heap.size w W0 := by rw [hW0]; exact al w _
  have hx0 : Hd.Bxn W0 w.heap.size [.slice a0 (b).ns.length c0, .slice b0 (b).ts.length d0, .slice e0 (b).bs.length f0, .int .u64 ((b).fe : Nat)] := by rw [hW0]; exact Hd.Bxn.made w _ _
  have HL : Hid (Calls Tryz.prog 18 #[] W0 fun e w' => e = .returned (.bool true) ∧ Below W0.heap.size W0 w') := livesQ_any W0
  have HBK : Hid (∀ z, Below w.heap.size w z → Books z z.heap.size (.slice a0 (b).ns.length c0) (.slice b0 (b).ts.length d0) (.slice e0 (b).bs.length f0) (b)) := fun z hz => hB.on hz
  have HW := Lib.hid hW0
  have HX0 := Lib.hid hx0
  have HB0 := Lib.hid hb0
  clear hW0 hb0 hx0 hB
  have HCH := Lib.hid (fr_chk he)
  have HRB := Lib.hid (rb_of_chk HCH.out)
  have HFI := Lib.hid ((HBK.out w (Below.refl _ _)).fine HCH.out)
  have HLE : Hid (b.ns.length ≤ 16) := HRB.out.ln
  have HLF : Hid ((frV b ky).length ≤ 16) := Nat.le_trans (fr_len b ky) HRB.out.ln
  have HFM : Hid (∀ v ∈ b.ns.map (·.n), hasK (frV b ky) v = decide (canE b ky v = 0)) := fun v hv => fr_mem he hv
  have HFK := Lib.hid hfk
  have HFQ : Hid (∀ z, Below w.heap.size w z → Calls Tryz.prog 16 #[.agg #[.slice a0 (b).ns.length c0, .slice b0 (b).ts.length d0, .slice e0 (b).bs.length f0, .int .u64 ((b).fe : Nat)], .string ky] z fun e w' => ∃ (a : Option Addr) (c : Nat), e = .returned (.tuple #[.slice a (frV b ky).length c, .int .i64 0]) ∧ Own w' z.heap.size 9 (.slice a (frV b ky).length c) (frV b ky) ∧ Below z.heap.size z w') := fun z hz => by
    refine (free_any b _ _ _ ky z (HBK.out z hz)).mono ?_
    rintro e w' ⟨v, he', ho, hb⟩
    obtain ⟨a, c, rfl⟩ := ho.slice
    refine ⟨a, c, ?_, ho, hb⟩
    rw [he', he]
    rfl
  clear he hfk
  go_enter Tryz.func4, Tryz.ntmps4
  go_upto_region 1 with fail
  rw [← HW.out]
  go_wp2_with fail
  refine HL.out.mono ?_
  rintro e w1 ⟨rfl, hb⟩
  have HX1 := Lib.hid (HX0.out.below hb)
  have HB1 : Hid (Below w.heap.size w w1) := HB0.out.trans (hb.mono HB0.out.size)
  clear hb HX0 HB0 HL HW
  have y0 : w1.cell? ⟨w.heap.size, 0, none⟩ = some (.slice a0 (b).ns.length c0) := HX1.out.cell 0
  have y1 : w1.cell? ⟨w.heap.size, 1, none⟩ = some (.slice b0 (b).ts.length d0) := HX1.out.cell 1
  have y2 : w1.cell? ⟨w.heap.size, 2, none⟩ = some (.slice e0 (b).bs.length f0) := HX1.out.cell 2
  have y3 : w1.cell? ⟨w.heap.size, 3, none⟩ = some (.int .u64 ((b).fe : Nat)) := HX1.out.cell 3
  go_wp2_with fail
  refine (HFQ.out w1 HB1.out).mono ?_
  rintro e w2 ⟨a, c, rfl, ho, hb⟩
  have HX12 := Lib.hid (HX1.out.below hb)
  have HB2 : Hid (Below w.heap.size w w2) := HB1.out.trans (hb.mono HB1.out.size)
  have HO := Lib.hid ho
  have HX2 := HX12
  have HBK2 := Lib.hid (HBK.out w2 HB2.out)
  clear ho HX12
  clear hb y0 y1 y2 y3
  clear HX1 HB1 HFQ
  have y0 : w2.cell? ⟨w.heap.size, 0, none⟩ = some (.slice a0 (b).ns.length c0) := HX2.out.cell 0
  go_wp2
  clear y0
  go_loopg [30] b.ns.length (fun gg i wx => ∃ k : Nat, k + gg = b.ns.length ∧ i = .int .i64 k ∧ Aside (Below w2.heap.size w2 wx))
  case atStart => exact ⟨0, by omega, rfl, Below.refl _ _⟩
  case round =>
    obtain ⟨k, hkg, rfl, HA⟩ := hrel
    obtain ⟨z1, rfl⟩ : ∃ q, q = wr := ⟨wr, rfl⟩
    have HU1 : Hid (Below w2.heap.size w2 z1) := HA.out
    clear HA
    cases gk with
    | zero =>
      obtain rfl : k = b.ns.length := by omega
      have HE : Hid (Below w.heap.size w z1) := HB2.out.trans (HU1.out.mono HB2.out.size)
      clear hkg
      go_wp2
      go_ret
      exact ⟨rfl, HE.out⟩
    | succ gg =>
      have hlk : k < b.ns.length := by omega
      have t2 : (k : Int) < (b.ns.length : Int) := by omega
      have t3 : IntKind.i64.wrap ((k : Int) + 1) = (k : Int) + 1 := by rw [IntKind.wrap_i64]; have := HLE.out; omega
      have t4 : (0 : Int) ≤ (k : Int) := by omega
      obtain ⟨gt, ot, x, rfl, hgl, hat, hxt⟩ := nds_at HBK2.out.hn k hlk
      have e0' : z1.cell? ⟨gt, ot + k * 6, none⟩ = some (.string x.nd.n) := (HU1.out.cell (by exact hgl)).trans (hat 0 _ rfl)
      have e1' : z1.cell? ⟨gt, ot + k * 6 + 1, none⟩ = some (.int .i64 x.nd.z0) := (HU1.out.cell (by exact hgl)).trans (hat 1 _ rfl)
      have e2' : z1.cell? ⟨gt, ot + k * 6 + 2, none⟩ = some (.int .i64 x.nd.z1) := (HU1.out.cell (by exact hgl)).trans (hat 2 _ rfl)
      have e3' : z1.cell? ⟨gt, ot + k * 6 + 3, none⟩ = some (.int .i64 x.nd.z2) := (HU1.out.cell (by exact hgl)).trans (hat 3 _ rfl)
      have e4' : z1.cell? ⟨gt, ot + k * 6 + 4, none⟩ = some (.slice x.a2 x.nd.ls.length x.c2) := (HU1.out.cell (by exact hgl)).trans (hat 4 _ rfl)
      have e5' : z1.cell? ⟨gt, ot + k * 6 + 5, none⟩ = some (.slice x.a3 x.nd.ts.length x.c3) := (HU1.out.cell (by exact hgl)).trans (hat 5 _ rfl)
      have HIN : Hid (hasK (frV b ky) x.nd.n = decide (canE b ky x.nd.n = 0)) := HFM.out _ (by rw [hxt]; exact List.mem_map_of_mem (List.getElem_mem hlk))
      have HFN : Hid (FitS x.nd.n) := (HFI.out.fn x.nd (by rw [hxt]; exact List.getElem_mem hlk)).1
      have HKG := Lib.hid hkg
      clear hat hxt hkg hgl
      generalize x.nd.ls.length = n1 at *
      generalize x.nd.ts.length = n2 at *
      obtain ⟨wy, hwy⟩ : ∃ wy, wy = z1.alloc (.cells #[.string x.nd.n, .int .i64 x.nd.z0, .int .i64 x.nd.z1, .int .i64 x.nd.z2, .slice x.a2 n1 x.c2, .slice x.a3 n2 x.c3] 45) := ⟨_, rfl⟩
      have HNY : Hid (Hd.Bxn wy z1.heap.size [.string x.nd.n, .int .i64 x.nd.z0, .int .i64 x.nd.z1, .int .i64 x.nd.z2, .slice x.a2 n1 x.c2, .slice x.a3 n2 x.c3]) := by rw [hwy]; exact Hd.Bxn.made z1 _ _
      have HYB : Hid (Below w2.heap.size w2 wy) := by rw [hwy]; exact HU1.out.alloc HU1.out.size _
      have HWY := Lib.hid hwy
      clear hwy
      go_upto_region 9 with fail
      rw [← HWY.out]
      clear e0' e1' e2' e3' e4' e5' HWY
      go_wp2
      go_loopg [9, 36] (frV b ky).length (fun gi bv i wx => ∃ q : Nat, q + gi = (frV b ky).length ∧ i = .int .i64 q ∧ bv = .bool (hasK ((frV b ky).take q) x.nd.n) ∧ Aside (Below wy.heap.size wy wx))
      case atStart => exact ⟨0, by omega, rfl, rfl, Below.refl _ _⟩
      case round =>
        obtain ⟨q, hqg, rfl, rfl, HA⟩ := hrel
        obtain ⟨z3, rfl⟩ : ∃ q, q = wr := ⟨wr, rfl⟩
        have HV : Hid (Below wy.heap.size wy z3) := HA.out
        have HNX := Lib.hid (HNY.out.below HA.out)
        have HU3 : Hid (Below w2.heap.size w2 z3) := HYB.out.trans (HA.out.mono HYB.out.size)
        clear HA
        cases gk with
        | succ gi =>
          have hlq : q < (frV b ky).length := by omega
          have u2' : (q : Int) < ((frV b ky).length : Int) := by omega
          have u3' : IntKind.i64.wrap ((q : Int) + 1) = (q : Int) + 1 := by rw [IntKind.wrap_i64]; have := HLF.out; omega
          have u4' : (0 : Int) ≤ (q : Int) := by omega
          obtain ⟨g, cap, hv, hbg, hgl3, hat3, -⟩ := HO.out.form (by omega)
          simp only [Value.slice.injEq, true_and] at hv
          obtain ⟨rfl, rfl⟩ := hv
          have p0 : w2.cell? ⟨g, q * 1 + 0, none⟩ = some (.string (frV b ky)[q]) := hat3 q hlq 0 _ rfl
          rw [Nat.mul_one, Nat.add_zero] at p0
          have f0' : z3.cell? ⟨g, q, none⟩ = some (.string (frV b ky)[q]) := (HU3.out.cell (by exact hgl3)).trans p0
          have f1' : z3.cell? ⟨z1.heap.size, 0, none⟩ = some (.string x.nd.n) := HNX.out.cell 0
          have HSN : Hid (_ = _) := has_snoc (frV b ky) q hlq x.nd.n
          have HQG := Lib.hid hqg
          clear p0 hat3 hbg hgl3 hqg
          generalize (frV b ky)[q] = y at *
          cases hh : hasK ((frV b ky).take q) x.nd.n
          · by_cases he : y = x.nd.n
            · have hs : (y.toList == x.nd.n.toList) = true := by rw [he]; simp
              have hs2 : y.toList = x.nd.n.toList := by rw [he]
              have HS2 : Hid (hasK ((frV b ky).take (q + 1)) x.nd.n = true) := by show _ = _; rw [HSN.out, decide_eq_true he, Bool.or_true]
              clear he HSN hh
              go_wp2
              go_roundg gi
              case measure => omega
              case rel => exact ⟨q + 1, by have := HQG.out; omega, by simp, by rw [HS2.out], HV.out⟩
            · have hs : (y.toList == x.nd.n.toList) = false := (Hd.ba_no he).1
              have hs2 : ¬ y.toList = x.nd.n.toList := (Hd.ba_no he).2
              have HS2 : Hid (hasK ((frV b ky).take (q + 1)) x.nd.n = false) := by show _ = _; rw [HSN.out, hh, decide_eq_false he]; rfl
              clear he HSN hh
              go_wp2
              go_roundg gi
              case measure => omega
              case rel => exact ⟨q + 1, by have := HQG.out; omega, by simp, by rw [HS2.out], HV.out⟩
          · have HS2 : Hid (hasK ((frV b ky).take (q + 1)) x.nd.n = true) := by show _ = _; rw [HSN.out, hh, Bool.true_or]
            clear HSN hh
            go_wp2
            go_roundg gi
            case measure => omega
            case rel => exact ⟨q + 1, by have := HQG.out; omega, by simp, by rw [HS2.out], HV.out⟩
        | zero =>
          obtain rfl : q = (frV b ky).length := by omega
          have HX3 := Lib.hid (HX2.out.below HU3.out)
          have HB3 : Hid (Below w.heap.size w z3) := HB2.out.trans (HU3.out.mono HB2.out.size)
          rw [List.take_length]
          clear hqg HV
          go_upto_region 15 with fail
          by_cases h0 : canE b ky x.nd.n = 0
          · obtain ⟨c, hd⟩ := bnd_plain HCH.out ky x.nd.n
            rw [h0] at hd
            have hi : hasK (frV b ky) x.nd.n = true := by rw [HIN.out, h0]; rfl
            rw [hi]
            clear hi HIN
            have HD1 : Hid (∀ z g1 n1 g2 n2 g3 n3, Hid (Below w.heap.size w z) → Hid (Books z z.heap.size (.slice g1 (b).ns.length n1) (.slice g2 (b).ts.length n2) (.slice g3 (b).bs.length n3) (b)) → Calls Tryz.prog 21 #[.agg #[.slice g1 (b).ns.length n1, .slice g2 (b).ts.length n2, .slice g3 (b).bs.length n3, .int .u64 ((b).fe : Nat)], .agg #[.int .u8 5, .string ⟨#[]⟩, .int .i64 0, .int .i64 0, .int .i64 0, .slice none 0 0, .slice none 0 0, .string ⟨#[]⟩, .int .i64 0, .int .i64 0, .int .i64 0, .slice none 0 0, .slice none 0 0, .string ⟨#[]⟩, .string ⟨#[]⟩, .int .i64 0, .string ky, .string x.nd.n, .int .u64 (b.fe : Nat)]] z fun e w' => ∃ vn' vt' vb', e = .returned (.tuple #[.agg #[vn', vt', vb', .int .u64 ((c).fe : Nat)], .agg #[.int .i64 0, .string ⟨#[]⟩]]) ∧ Kept z w' (c) vn' vt' vb' ∧ Below z.heap.size z w') := fun z g1 n1 g2 n2 g3 n3 hwz hz => do_use (b) (c) _ _ _ _ _ (oBnd ky x.nd.n b.fe) none none none none 0 0 0 0 z hz.out (deepN0 z _ rfl rfl) fitN0 (deepT0 z _ rfl rfl) fitT0 ⟨HFK.out, HFN.out⟩ hd
            clear hd
            refine wp_region_list ?_
            refine wpList_load_mid rfl 27 (.tmp 2) rfl (w.heap.size) (0) rfl [.slice (some ⟨gt, ot, none⟩) (b).ns.length c0, .slice b0 (b).ts.length d0, .slice e0 (b).bs.length f0, .int .u64 ((b).fe : Nat)] _ (HX3.out.range 0) Tryz.underlying27 rfl rfl ?_
            refine wpList_plain rfl fun K hK => ?_
            go_simp
            refine hK _ _ ?_
            clear hK K
            refine wpList_plain rfl fun K hK => ?_
            go_simp
            refine hK _ _ ?_
            clear hK K
            have k8 : z3.cell? ⟨z1.heap.size, 0, none⟩ = some (.string x.nd.n) := HNX.out.cell 0
            refine wpList_plain rfl fun K hK => ?_
            go_simp
            refine hK _ _ ?_
            clear hK K
            clear k8
            refine wpList_plain rfl fun K hK => ?_
            go_simp
            refine hK _ _ ?_
            clear hK K
            have k3 : z3.cell? ⟨w.heap.size, 3, none⟩ = some (.int .u64 ((b).fe : Nat)) := HX3.out.cell 3
            refine wpList_plain rfl fun K hK => ?_
            go_simp
            refine hK _ _ ?_
            clear hK K
            clear k3
            refine wpList_plain rfl fun K hK => ?_
            go_simp
            refine hK _ _ ?_
            clear hK K
            refine wpList_plain rfl fun K hK => ?_
            go_wp2_with fail
            refine (HD1.out z3 _ _ _ _ _ _ HB3 (Lib.hid (HBK.out z3 HB3.out))).mono ?_
            rintro e x1m ⟨v1, v2, v3, rfl, hkp, hb⟩
            obtain ⟨⟨a1, c1, rfl⟩, ⟨b1, d1, rfl⟩, ⟨e1, f1, rfl⟩⟩ := hkp.slices
            refine hK _ _ ?_
            clear hK K
            have HX3m := Lib.hid (HX3.out.below hb)
            have HBx1m : Hid (Below w.heap.size w x1m) := HB3.out.trans (hb.mono HB3.out.size)
            have HUx1m : Hid (Below z3.heap.size z3 x1m) := hb
            have HKx1 := Lib.hid hkp
            clear hb hkp
            refine wpList_plain rfl fun K hK => ?_
            go_simp
            refine hK _ _ ?_
            clear hK K
            refine wpList_plain rfl fun K hK => ?_
            go_simp
            refine hK _ _ ?_
            clear hK K
            refine wpList_plain rfl fun K hK => ?_
            go_simp
            refine hK _ _ ?_
            clear hK K
            refine wpList_plain rfl fun K hK => ?_
            go_simp
            refine hK _ _ ?_
            clear hK K
            refine wpList_plain rfl fun K hK => ?_
            go_simp
            refine hK _ _ ?_
            clear hK K
            obtain ⟨th1, th2, hbz, hx1, hx2⟩ := two_made x1m [.slice none 0 0, .slice none 0 0, .slice none 0 0, .int .u64 0] [.int .i64 0, .string ⟨#[]⟩] [.slice a1 (c).ns.length c1, .slice b1 (c).ts.length d1, .slice e1 (c).bs.length f1, .int .u64 ((c).fe : Nat)] [.int .i64 0, .string ⟨#[]⟩] 27 50 rfl rfl
            refine wpList_store_mid rfl 27 (.tmp 12) (.tmp 57) rfl (x1m.heap.size) 0 #[.slice a1 (c).ns.length c1, .slice b1 (c).ts.length d1, .slice e1 (c).bs.length f1, .int .u64 ((c).fe : Nat)] rfl rfl th1 rfl (all_oneCell_toArray (List.all_eq_true.1 (show List.all ([.slice a1 (c).ns.length c1, .slice b1 (c).ts.length d1, .slice e1 (c).bs.length f1, .int .u64 ((c).fe : Nat)] : List Value) (fun v => v.oneCell') = true from rfl))) ?_
            rw [show (#[.slice a1 (c).ns.length c1, .slice b1 (c).ts.length d1, .slice e1 (c).bs.length f1, .int .u64 ((c).fe : Nat)] : Array Value).toList = [.slice a1 (c).ns.length c1, .slice b1 (c).ts.length d1, .slice e1 (c).bs.length f1, .int .u64 ((c).fe : Nat)] from rfl]
            refine wpList_store_mid rfl 50 (.tmp 13) (.tmp 58) rfl (x1m.heap.size + 1) 0 #[.int .i64 0, .string ⟨#[]⟩] rfl rfl th2 rfl (all_oneCell_toArray (List.all_eq_true.1 (show List.all ([.int .i64 0, .string ⟨#[]⟩] : List Value) (fun v => v.oneCell') = true from rfl))) ?_
            rw [show (#[.int .i64 0, .string ⟨#[]⟩] : Array Value).toList = [.int .i64 0, .string ⟨#[]⟩] from rfl]
            clear th1 th2
            generalize (((x1m.alloc (.cells #[.slice none 0 0, .slice none 0 0, .slice none 0 0, .int .u64 0] 27)).alloc (.cells #[.int .i64 0, .string ⟨#[]⟩] 50)).setCells x1m.heap.size 0 [.slice a1 (c).ns.length c1, .slice b1 (c).ts.length d1, .slice e1 (c).bs.length f1, .int .u64 ((c).fe : Nat)]).setCells (x1m.heap.size + 1) 0 [.int .i64 0, .string ⟨#[]⟩] = x1 at *
            refine wpList_nil ?_
            have HX32 := Lib.hid (HX3m.out.below hbz)
            clear HX3 HX3m
            have HX3 := HX32
            clear HX32
            have HBx1 : Hid (Below w.heap.size w x1) := HBx1m.out.trans (hbz.mono HBx1m.out.size)
            have HUx1 : Hid (Below z3.heap.size z3 x1) := HUx1m.out.trans (hbz.mono HUx1m.out.size)
            have HKNx1 := Lib.hid (HKx1.out.keep hbz)
            have HXx1 := Lib.hid hx1
            have HTx1 := Lib.hid hx2
            clear hbz hx1 hx2 HKx1 HBx1m HUx1m
            have ky0 : x1.cell? ⟨x1m.heap.size + 1, 0, none⟩ = some (.int .i64 0) := HTx1.out.cell 0
            have HU4 : Hid (Below w2.heap.size w2 x1) := HU3.out.trans (HUx1.out.mono HU3.out.size)
            clear HTx1 HKNx1 HXx1 HUx1
            go_wp2
            go_roundg gg
            case measure => omega
            case rel => exact ⟨k + 1, by have := HKG.out; omega, by simp, HU4.out⟩
          · obtain ⟨c, hd⟩ := bnd_plain HCH.out ky x.nd.n
            have hi : hasK (frV b ky) x.nd.n = false := by rw [HIN.out]; exact decide_eq_false h0
            generalize canE b ky x.nd.n = r at *
            have t5 : ((r : Int) == 0) = false := by simp; omega
            have t6 : ¬ (r : Int) = 0 := by omega
            rw [hi]
            clear hi HIN
            have HD1 : Hid (∀ z g1 n1 g2 n2 g3 n3, Hid (Below w.heap.size w z) → Hid (Books z z.heap.size (.slice g1 (b).ns.length n1) (.slice g2 (b).ts.length n2) (.slice g3 (b).bs.length n3) (b)) → Calls Tryz.prog 21 #[.agg #[.slice g1 (b).ns.length n1, .slice g2 (b).ts.length n2, .slice g3 (b).bs.length n3, .int .u64 ((b).fe : Nat)], .agg #[.int .u8 5, .string ⟨#[]⟩, .int .i64 0, .int .i64 0, .int .i64 0, .slice none 0 0, .slice none 0 0, .string ⟨#[]⟩, .int .i64 0, .int .i64 0, .int .i64 0, .slice none 0 0, .slice none 0 0, .string ⟨#[]⟩, .string ⟨#[]⟩, .int .i64 0, .string ky, .string x.nd.n, .int .u64 (b.fe : Nat)]] z fun e w' => ∃ vn' vt' vb', e = .returned (.tuple #[.agg #[vn', vt', vb', .int .u64 ((c).fe : Nat)], .agg #[.int .i64 (r : Nat), .string ⟨#[]⟩]]) ∧ Kept z w' (c) vn' vt' vb' ∧ Below z.heap.size z w') := fun z g1 n1 g2 n2 g3 n3 hwz hz => do_use (b) (c) _ _ _ _ _ (oBnd ky x.nd.n b.fe) none none none none 0 0 0 0 z hz.out (deepN0 z _ rfl rfl) fitN0 (deepT0 z _ rfl rfl) fitT0 ⟨HFK.out, HFN.out⟩ hd
            clear hd
            refine wp_region_list ?_
            refine wpList_load_mid rfl 27 (.tmp 2) rfl (w.heap.size) (0) rfl [.slice (some ⟨gt, ot, none⟩) (b).ns.length c0, .slice b0 (b).ts.length d0, .slice e0 (b).bs.length f0, .int .u64 ((b).fe : Nat)] _ (HX3.out.range 0) Tryz.underlying27 rfl rfl ?_
            refine wpList_plain rfl fun K hK => ?_
            go_simp
            refine hK _ _ ?_
            clear hK K
            refine wpList_plain rfl fun K hK => ?_
            go_simp
            refine hK _ _ ?_
            clear hK K
            have k8 : z3.cell? ⟨z1.heap.size, 0, none⟩ = some (.string x.nd.n) := HNX.out.cell 0
            refine wpList_plain rfl fun K hK => ?_
            go_simp
            refine hK _ _ ?_
            clear hK K
            clear k8
            refine wpList_plain rfl fun K hK => ?_
            go_simp
            refine hK _ _ ?_
            clear hK K
            have k3 : z3.cell? ⟨w.heap.size, 3, none⟩ = some (.int .u64 ((b).fe : Nat)) := HX3.out.cell 3
            refine wpList_plain rfl fun K hK => ?_
            go_simp
            refine hK _ _ ?_
            clear hK K
            clear k3
            refine wpList_plain rfl fun K hK => ?_
            go_simp
            refine hK _ _ ?_
            clear hK K
            refine wpList_plain rfl fun K hK => ?_
            go_wp2_with fail
            refine (HD1.out z3 _ _ _ _ _ _ HB3 (Lib.hid (HBK.out z3 HB3.out))).mono ?_
            rintro e x1m ⟨v1, v2, v3, rfl, hkp, hb⟩
            obtain ⟨⟨a1, c1, rfl⟩, ⟨b1, d1, rfl⟩, ⟨e1, f1, rfl⟩⟩ := hkp.slices
            refine hK _ _ ?_
            clear hK K
            have HX3m := Lib.hid (HX3.out.below hb)
            have HBx1m : Hid (Below w.heap.size w x1m) := HB3.out.trans (hb.mono HB3.out.size)
            have HUx1m : Hid (Below z3.heap.size z3 x1m) := hb
            have HKx1 := Lib.hid hkp
            clear hb hkp
            refine wpList_plain rfl fun K hK => ?_
            go_simp
            refine hK _ _ ?_
            clear hK K
            refine wpList_plain rfl fun K hK => ?_
            go_simp
            refine hK _ _ ?_
            clear hK K
            refine wpList_plain rfl fun K hK => ?_
            go_simp
            refine hK _ _ ?_
            clear hK K
            refine wpList_plain rfl fun K hK => ?_
            go_simp
            refine hK _ _ ?_
            clear hK K
            refine wpList_plain rfl fun K hK => ?_
            go_simp
            refine hK _ _ ?_
            clear hK K
            obtain ⟨th1, th2, hbz, hx1, hx2⟩ := two_made x1m [.slice none 0 0, .slice none 0 0, .slice none 0 0, .int .u64 0] [.int .i64 0, .string ⟨#[]⟩] [.slice a1 (c).ns.length c1, .slice b1 (c).ts.length d1, .slice e1 (c).bs.length f1, .int .u64 ((c).fe : Nat)] [.int .i64 (r : Nat), .string ⟨#[]⟩] 27 50 rfl rfl
            refine wpList_store_mid rfl 27 (.tmp 12) (.tmp 57) rfl (x1m.heap.size) 0 #[.slice a1 (c).ns.length c1, .slice b1 (c).ts.length d1, .slice e1 (c).bs.length f1, .int .u64 ((c).fe : Nat)] rfl rfl th1 rfl (all_oneCell_toArray (List.all_eq_true.1 (show List.all ([.slice a1 (c).ns.length c1, .slice b1 (c).ts.length d1, .slice e1 (c).bs.length f1, .int .u64 ((c).fe : Nat)] : List Value) (fun v => v.oneCell') = true from rfl))) ?_
            rw [show (#[.slice a1 (c).ns.length c1, .slice b1 (c).ts.length d1, .slice e1 (c).bs.length f1, .int .u64 ((c).fe : Nat)] : Array Value).toList = [.slice a1 (c).ns.length c1, .slice b1 (c).ts.length d1, .slice e1 (c).bs.length f1, .int .u64 ((c).fe : Nat)] from rfl]
            refine wpList_store_mid rfl 50 (.tmp 13) (.tmp 58) rfl (x1m.heap.size + 1) 0 #[.int .i64 (r : Nat), .string ⟨#[]⟩] rfl rfl th2 rfl (all_oneCell_toArray (List.all_eq_true.1 (show List.all ([.int .i64 (r : Nat), .string ⟨#[]⟩] : List Value) (fun v => v.oneCell') = true from rfl))) ?_
            rw [show (#[.int .i64 (r : Nat), .string ⟨#[]⟩] : Array Value).toList = [.int .i64 (r : Nat), .string ⟨#[]⟩] from rfl]
            clear th1 th2
            generalize (((x1m.alloc (.cells #[.slice none 0 0, .slice none 0 0, .slice none 0 0, .int .u64 0] 27)).alloc (.cells #[.int .i64 0, .string ⟨#[]⟩] 50)).setCells x1m.heap.size 0 [.slice a1 (c).ns.length c1, .slice b1 (c).ts.length d1, .slice e1 (c).bs.length f1, .int .u64 ((c).fe : Nat)]).setCells (x1m.heap.size + 1) 0 [.int .i64 (r : Nat), .string ⟨#[]⟩] = x1 at *
            refine wpList_nil ?_
            have HX32 := Lib.hid (HX3m.out.below hbz)
            clear HX3 HX3m
            have HX3 := HX32
            clear HX32
            have HBx1 : Hid (Below w.heap.size w x1) := HBx1m.out.trans (hbz.mono HBx1m.out.size)
            have HUx1 : Hid (Below z3.heap.size z3 x1) := HUx1m.out.trans (hbz.mono HUx1m.out.size)
            have HKNx1 := Lib.hid (HKx1.out.keep hbz)
            have HXx1 := Lib.hid hx1
            have HTx1 := Lib.hid hx2
            clear hbz hx1 hx2 HKx1 HBx1m HUx1m
            have ky0 : x1.cell? ⟨x1m.heap.size + 1, 0, none⟩ = some (.int .i64 (r : Nat)) := HTx1.out.cell 0
            have HU4 : Hid (Below w2.heap.size w2 x1) := HU3.out.trans (HUx1.out.mono HU3.out.size)
            clear HTx1 HKNx1 HXx1 HUx1
            go_wp2
            go_roundg gg
            case measure => omega
            case rel => exact ⟨k + 1, by have := HKG.out; omega, by simp, HU4.out⟩
theorem freel_law (b : Bk) (ky : ByteArray) (vb0 : Value) (w : World) (hb : BookArg w vb0 b) (hfk : FitS ky) : Calls Tryz.prog 4 #[vb0, .string ky] w fun e w' => e = .returned (.bool true) ∧ Below w.heap.size w w' := by
  by_cases he : frE b ky = 0
  · exact freel_ok b ky vb0 w hb hfk he
  · exact freel_no b ky vb0 w hb hfk he
end Bo
end Go.Proofs.YthbmnkeigmbbdaaGreat
