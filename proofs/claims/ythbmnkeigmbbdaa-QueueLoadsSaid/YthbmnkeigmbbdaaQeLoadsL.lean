/-
  gafferlaw11.QueueLoads.
-/
import Derived.Test.YthbmnkeigmbbdaaQeEach
import Derived.Test.YthbmnkeigmbbdaaQeA
namespace Go.Proofs.Ythbmnkeigmbbdaa
open Go.RowKit Go.Lib
namespace Bo
open Rw
set_option linter.unusedVariables false
theorem sumN_in (f : Hd.Nd → Int) (M : Int) (hM : 0 ≤ M) : ∀ {l : List Hd.Nd}, (∀ n ∈ l, 0 ≤ f n ∧ f n ≤ M) → 0 ≤ sumN f l ∧ sumN f l ≤ M * (l.length : Nat)
  | [], _ => by simp [sumN]
  | n :: l, h => by
    have h1 := sumN_in f M hM (l := l) (fun u hu => h u (List.mem_cons_of_mem _ hu))
    have h2 := h n (List.mem_cons_self ..)
    simp only [sumN, List.length_cons, Int.natCast_add, Int.mul_add]
    omega
theorem us_in {b : Bk} (h : RB b) {n : Hd.Nd} (hn : n ∈ b.ns) : (0 ≤ us0 b n.n ∧ us0 b n.n ≤ n.z0 ∧ n.z0 ≤ 1099511627776) ∧ (0 ≤ us1 b n.n ∧ us1 b n.n ≤ n.z1 ∧ n.z1 ≤ 1099511627776) ∧ (0 ≤ us2 b n.n ∧ us2 b n.n ≤ n.z2 ∧ n.z2 ≤ 1099511627776) := by
  have h1 := h.ro n.n (has_iff.2 (List.mem_map_of_mem hn))
  rw [nOf_at h.rn hn] at h1
  have h2 := h.lists.used n.n
  have h3 := amtN (h.kn n hn)
  exact ⟨⟨h2.1.1, h1.1, h3.1.2⟩, ⟨h2.2.1.1, h1.2.1, h3.2.1.2⟩, ⟨h2.2.2.1, h1.2.2, h3.2.2.2⟩⟩
theorem onT_snoc (bs : List Rg.Pr) (q : Nat) (h : q < bs.length) (t : Hd.Td) : onT (bs.take (q + 1)) t = onT (bs.take q) t ++ (if bs[q].k = t.n then [t] else []) := by
  unfold onT
  rw [List.take_succ_eq_append_getElem h, List.filter_append, List.map_append]
  by_cases he : bs[q].k = t.n
  · rw [List.filter_cons_of_pos (by simpa using he), if_pos he]; rfl
  · rw [List.filter_cons_of_neg (by simpa using he), if_neg he]; rfl
theorem onL_snoc (ts : List Hd.Td) (bs : List Rg.Pr) (k : Nat) (h : k < ts.length) : onL (ts.take (k + 1)) bs = onL (ts.take k) bs ++ onT bs ts[k] := by
  unfold onL
  rw [List.take_succ_eq_append_getElem h, List.flatMap_append, List.flatMap_singleton]
theorem onT_len (bs : List Rg.Pr) (t : Hd.Td) : (onT bs t).length ≤ bs.length := by
  unfold onT
  rw [List.length_map]
  exact List.length_filter_le _ _
theorem onL_len (bs : List Rg.Pr) : ∀ (ts : List Hd.Td), (onL ts bs).length ≤ ts.length * bs.length
  | [] => by simp [onL]
  | t :: ts => by
    have h1 := onL_len bs ts
    have h2 := onT_len bs t
    unfold onL at h1 ⊢
    rw [List.flatMap_cons, List.length_append, List.length_cons, Nat.add_mul]
    omega
theorem bxn_grown {w w' : World} {B : Nat} {cs : List Value} {own : Option Nat} (h : Hd.Bxn w B cs) (hg : w.grownBy w' own) (hn : some B ≠ own) : Hd.Bxn w' B cs := by
  have hl := h.lt
  obtain ⟨T, hx⟩ := h
  exact ⟨T, (hg.block B hl hn).trans hx⟩
theorem T0 (b : Bk) (j : Nat) (h : j < b.ns.length) : sumN (fun n => us0 b n.n) (b.ns.take (j + 1)) = sumN (fun n => us0 b n.n) (b.ns.take j) + us0 b b.ns[j].n := by
  rw [List.take_succ_eq_append_getElem h, sumN_app]; simp [sumN]
theorem T1 (b : Bk) (j : Nat) (h : j < b.ns.length) : sumN (fun n => us1 b n.n) (b.ns.take (j + 1)) = sumN (fun n => us1 b n.n) (b.ns.take j) + us1 b b.ns[j].n := by
  rw [List.take_succ_eq_append_getElem h, sumN_app]; simp [sumN]
theorem T2 (b : Bk) (j : Nat) (h : j < b.ns.length) : sumN (fun n => us2 b n.n) (b.ns.take (j + 1)) = sumN (fun n => us2 b n.n) (b.ns.take j) + us2 b b.ns[j].n := by
  rw [List.take_succ_eq_append_getElem h, sumN_app]; simp [sumN]
set_option maxRecDepth 100000 in
set_option maxHeartbeats 4000000 in
theorem loadsl_no (b : Bk) (vb0 : Value) (w : World) (hb : BookArg w vb0 b) (hc : chkB b = false) : Calls Try.prog 4 #[vb0] w fun e w' => e = .returned (.bool true) ∧ Below w.heap.size w w' := by
  obtain ⟨vn, vt, vb, rfl, hB⟩ := hb
  obtain ⟨⟨a0, c0, rfl⟩, ⟨b0, d0, rfl⟩, ⟨e0, f0, rfl⟩⟩ := And.intro hB.hn.slice (And.intro hB.ht.slice hB.hb.slice)
  obtain ⟨W0, hW0⟩ : ∃ W0, W0 = w.alloc (.cells #[.slice a0 (b).ns.length c0, .slice b0 (b).ts.length d0, .slice e0 (b).bs.length f0, .int .u64 ((b).fe : Nat)] 27) := ⟨_, rfl⟩
  have hb0 : Below w.heap.size w W0 := by rw [hW0]; exact al w _
  have hx0 : Hd.Bxn W0 w.heap.size [.slice a0 (b).ns.length c0, .slice b0 (b).ts.length d0, .slice e0 (b).bs.length f0, .int .u64 ((b).fe : Nat)] := by rw [hW0]; exact Hd.Bxn.made w _ _
  have HL : Hid (Calls Try.prog 6 #[] W0 fun e w' => e = .returned (.bool true) ∧ Below W0.heap.size W0 w') := livesQ_any W0
  have HBK : Hid (∀ z, Below w.heap.size w z → Books z z.heap.size (.slice a0 (b).ns.length c0) (.slice b0 (b).ts.length d0) (.slice e0 (b).bs.length f0) (b)) := fun z hz => hB.on hz
  have HW := Lib.hid hW0
  have HX0 := Lib.hid hx0
  have HB0 := Lib.hid hb0
  clear hW0 hb0 hx0 hB
  have HLQ : Hid (∀ z, Below w.heap.size w z → Calls Try.prog 9 #[.agg #[.slice a0 (b).ns.length c0, .slice b0 (b).ts.length d0, .slice e0 (b).bs.length f0, .int .u64 ((b).fe : Nat)]] z fun e w' => ∃ a c, e = .returned (.tuple #[.slice a 0 c, .int .i64 10]) ∧ Below z.heap.size z w') := fun z hz => by
    refine (loads_any b _ _ _ z (HBK.out z hz)).mono ?_
    rintro e w' ⟨v, m, he, ho, hm, -, hb⟩
    rw [hc, if_neg (by decide)] at hm
    have hm0 : m = [] := List.map_eq_nil_iff.1 hm
    subst hm0
    obtain ⟨a, c, rfl⟩ := ho.slice
    refine ⟨a, c, ?_, hb⟩
    rw [he, hc]
    rfl
  clear hc HBK
  go_enter Try.func4, Try.ntmps4
  go_upto_region 1 with fail
  rw [← HW.out]
  go_wp2_with fail
  refine HL.out.mono ?_
  rintro e w1 ⟨rfl, hb⟩
  have HX1 := Lib.hid (HX0.out.below hb)
  have HB1 : Hid (Below w.heap.size w w1) := HB0.out.trans (hb.mono HB0.out.size)
  clear hb HX0 HB0 HL HW
  have y0 : w1.cell? ⟨w.heap.size, 0, none⟩ = some (.slice a0 (b).ns.length c0) := HX1.out.cell 0
  have y1 : w1.cell? ⟨w.heap.size, 1, none⟩ = some (.slice b0 (b).ts.length d0) := HX1.out.cell 1
  have y2 : w1.cell? ⟨w.heap.size, 2, none⟩ = some (.slice e0 (b).bs.length f0) := HX1.out.cell 2
  have y3 : w1.cell? ⟨w.heap.size, 3, none⟩ = some (.int .u64 ((b).fe : Nat)) := HX1.out.cell 3
  go_wp2_with fail
  refine (HLQ.out w1 HB1.out).mono ?_
  rintro e w2 ⟨a, c, rfl, hb⟩
  have HX12 := Lib.hid (HX1.out.below hb)
  have HB2 : Hid (Below w.heap.size w w2) := HB1.out.trans (hb.mono HB1.out.size)
  clear hb y0 y1 y2 y3
  go_wp2
  go_ret
  exact ⟨rfl, HB2.out⟩
set_option maxRecDepth 100000 in
set_option maxHeartbeats 4000000 in
theorem loadsl_ok (b : Bk) (vb0 : Value) (w : World) (hb : BookArg w vb0 b) (hc : chkB b = true) : Calls Try.prog 4 #[vb0] w fun e w' => e = .returned (.bool true) ∧ Below w.heap.size w w' := by
  obtain ⟨i0, hi, hq0, hq1, hq2⟩ := info_parts info_tk
  obtain ⟨vn, vt, vb, rfl, hB⟩ := hb
  obtain ⟨⟨a0, c0, rfl⟩, ⟨b0, d0, rfl⟩, ⟨e0, f0, rfl⟩⟩ := And.intro hB.hn.slice (And.intro hB.ht.slice hB.hb.slice)
  obtain ⟨W0, hW0⟩ : ∃ W0, W0 = w.alloc (.cells #[.slice a0 (b).ns.length c0, .slice b0 (b).ts.length d0, .slice e0 (b).bs.length f0, .int .u64 ((b).fe : Nat)] 27) := ⟨_, rfl⟩
  have hb0 : Below w.heap.size w W0 := by rw [hW0]; exact al w _
  have hx0 : Hd.Bxn W0 w.heap.size [.slice a0 (b).ns.length c0, .slice b0 (b).ts.length d0, .slice e0 (b).bs.length f0, .int .u64 ((b).fe : Nat)] := by rw [hW0]; exact Hd.Bxn.made w _ _
  have HL : Hid (Calls Try.prog 6 #[] W0 fun e w' => e = .returned (.bool true) ∧ Below W0.heap.size W0 w') := livesQ_any W0
  have HBK : Hid (∀ z, Below w.heap.size w z → Books z z.heap.size (.slice a0 (b).ns.length c0) (.slice b0 (b).ts.length d0) (.slice e0 (b).bs.length f0) (b)) := fun z hz => hB.on hz
  have HW := Lib.hid hW0
  have HX0 := Lib.hid hx0
  have HB0 := Lib.hid hb0
  clear hW0 hb0 hx0 hB
  have HRB := Lib.hid (rb_of_chk hc)
  have HFI := Lib.hid ((HBK.out w (Below.refl _ _)).fine hc)
  have HLE : Hid (b.ns.length ≤ 16 ∧ b.ts.length ≤ 32 ∧ b.bs.length ≤ 32) := ⟨HRB.out.ln, HRB.out.lt, HRB.out.lists.lb⟩
  have HLQ : Hid (∀ z, Below w.heap.size w z → Calls Try.prog 9 #[.agg #[.slice a0 (b).ns.length c0, .slice b0 (b).ts.length d0, .slice e0 (b).bs.length f0, .int .u64 ((b).fe : Nat)]] z fun e w' => ∃ (a : Option Addr) (c : Nat) (l : List NdM), e = .returned (.tuple #[.slice a l.length c, .int .i64 0]) ∧ Own w' z.heap.size 46 (.slice a l.length c) (l.map (mkL b)) ∧ l.map (·.nd) = b.ns ∧ Below z.heap.size z w') := fun z hz => by
    refine (loads_any b _ _ _ z (HBK.out z hz)).mono ?_
    rintro e w' ⟨v, l, he, ho, hm, -, hb⟩
    rw [hc, if_pos rfl] at hm
    obtain ⟨a, c, rfl⟩ := ho.slice
    rw [List.length_map] at he ho
    refine ⟨a, c, l, ?_, ho, hm, hb⟩
    rw [he, hc]
    rfl
  clear hc
  go_enter Try.func4, Try.ntmps4
  go_upto_region 1 with fail
  rw [← HW.out]
  go_wp2_with fail
  refine HL.out.mono ?_
  rintro e w1 ⟨rfl, hb⟩
  have HX1 := Lib.hid (HX0.out.below hb)
  have HB1 : Hid (Below w.heap.size w w1) := HB0.out.trans (hb.mono HB0.out.size)
  clear hb HX0 HB0 HL HW
  have y0 : w1.cell? ⟨w.heap.size, 0, none⟩ = some (.slice a0 (b).ns.length c0) := HX1.out.cell 0
  have y1 : w1.cell? ⟨w.heap.size, 1, none⟩ = some (.slice b0 (b).ts.length d0) := HX1.out.cell 1
  have y2 : w1.cell? ⟨w.heap.size, 2, none⟩ = some (.slice e0 (b).bs.length f0) := HX1.out.cell 2
  have y3 : w1.cell? ⟨w.heap.size, 3, none⟩ = some (.int .u64 ((b).fe : Nat)) := HX1.out.cell 3
  go_wp2_with fail
  refine (HLQ.out w1 HB1.out).mono ?_
  rintro e w2 ⟨a, c, l, rfl, ho, hm, hb⟩
  have HX12 := Lib.hid (HX1.out.below hb)
  have HB2 : Hid (Below w.heap.size w w2) := HB1.out.trans (hb.mono HB1.out.size)
  have HO := Lib.hid ho
  have HM := Lib.hid hm
  have HX2 := HX12
  have HBK2 := Lib.hid (HBK.out w2 HB2.out)
  clear ho hm HX12
  clear hb y0 y1 y2 y3
  have HLL : Hid (l.length = b.ns.length) := by show _ = _; rw [← HM.out, List.length_map]
  clear HX1 HB1 HLQ HBK
  go_wp2
  go_loopg [31] l.length (fun gg i wx => ∃ j : Nat, j + gg = l.length ∧ i = .int .i64 j ∧ Aside (Rg.Three wx w2.heap.size (sumN (fun n => us0 b n.n) (b.ns.take j)) (sumN (fun n => us1 b n.n) (b.ns.take j)) (sumN (fun n => us2 b n.n) (b.ns.take j))) ∧ Aside (w2.heap.size < wx.heap.size) ∧ Aside (Below w2.heap.size w2 wx))
  case atStart => exact ⟨0, by omega, rfl, Rg.Three.made w2 0 0 0, (by show _ < _; simp), al w2 _⟩
  case round =>
    obtain ⟨j, hjg, rfl, HT, HZA, HA⟩ := hrel
    cases gk with
    | succ gg =>
      have hlk : j < l.length := by omega
      have t2 : (j : Int) < (l.length : Int) := by omega
      have t3 : IntKind.i64.wrap ((j : Int) + 1) = (j : Int) + 1 := by rw [IntKind.wrap_i64]; have := HLL.out; have := HLE.out; omega
      have t4 : (0 : Int) ≤ (j : Int) := by omega
      obtain ⟨g, cap, hv, hbg, hgl, hat0, -⟩ := HO.out.form (by rw [List.length_map]; omega)
      rw [List.length_map] at hv
      simp only [Value.slice.injEq, true_and] at hv
      obtain ⟨rfl, rfl⟩ := hv
      have hat : At w2 g (j * 9) (mkL b l[j]) := by have := hat0 j (by rw [List.length_map]; omega); rw [List.getElem_map] at this; exact this
      have e0' : wr.cell? ⟨g, j * 9, none⟩ = some (.string l[j].nd.n) := (HA.out.cell (by exact hgl)).trans (hat 0 _ rfl)
      have e1' : wr.cell? ⟨g, j * 9 + 1, none⟩ = some (.int .i64 l[j].nd.z0) := (HA.out.cell (by exact hgl)).trans (hat 1 _ rfl)
      have e2' : wr.cell? ⟨g, j * 9 + 2, none⟩ = some (.int .i64 l[j].nd.z1) := (HA.out.cell (by exact hgl)).trans (hat 2 _ rfl)
      have e3' : wr.cell? ⟨g, j * 9 + 3, none⟩ = some (.int .i64 l[j].nd.z2) := (HA.out.cell (by exact hgl)).trans (hat 3 _ rfl)
      have e4' : wr.cell? ⟨g, j * 9 + 4, none⟩ = some (.slice l[j].a2 l[j].nd.ls.length l[j].c2) := (HA.out.cell (by exact hgl)).trans (hat 4 _ rfl)
      have e5' : wr.cell? ⟨g, j * 9 + 5, none⟩ = some (.slice l[j].a3 l[j].nd.ts.length l[j].c3) := (HA.out.cell (by exact hgl)).trans (hat 5 _ rfl)
      have e6' : wr.cell? ⟨g, j * 9 + 6, none⟩ = some (.int .i64 (us0 b l[j].nd.n)) := (HA.out.cell (by exact hgl)).trans (hat 6 _ rfl)
      have e7' : wr.cell? ⟨g, j * 9 + 7, none⟩ = some (.int .i64 (us1 b l[j].nd.n)) := (HA.out.cell (by exact hgl)).trans (hat 7 _ rfl)
      have e8' : wr.cell? ⟨g, j * 9 + 8, none⟩ = some (.int .i64 (us2 b l[j].nd.n)) := (HA.out.cell (by exact hgl)).trans (hat 8 _ rfl)
      have hnj : b.ns[j]'(by rw [← HLL.out]; exact hlk) = l[j].nd := by
        have h1 : (l.map (·.nd))[j]'(by rw [List.length_map]; exact hlk) = l[j].nd := by rw [List.getElem_map]
        rw [← h1]
        simp only [HM.out]
      have HUI := Lib.hid (us_in HRB.out (List.getElem_mem (l := b.ns) (n := j) (by rw [← HLL.out]; exact hlk)))
      have HS0 := Lib.hid (T0 b j (by rw [← HLL.out]; exact hlk))
      have HS1 := Lib.hid (T1 b j (by rw [← HLL.out]; exact hlk))
      have HS2 := Lib.hid (T2 b j (by rw [← HLL.out]; exact hlk))
      rw [hnj] at HUI HS0 HS1 HS2
      have hb0 := sumN_in (fun n => us0 b n.n) 1099511627776 (by omega) (l := b.ns.take j) (fun n hn => by have := (us_in HRB.out (List.mem_of_mem_take hn)).1; exact ⟨this.1, Int.le_trans this.2.1 this.2.2⟩)
      have hb1 := sumN_in (fun n => us1 b n.n) 1099511627776 (by omega) (l := b.ns.take j) (fun n hn => by have := (us_in HRB.out (List.mem_of_mem_take hn)).2.1; exact ⟨this.1, Int.le_trans this.2.1 this.2.2⟩)
      have hb2 := sumN_in (fun n => us2 b n.n) 1099511627776 (by omega) (l := b.ns.take j) (fun n hn => by have := (us_in HRB.out (List.mem_of_mem_take hn)).2.2; exact ⟨this.1, Int.le_trans this.2.1 this.2.2⟩)
      have hbl : (b.ns.take j).length ≤ 16 := by rw [List.length_take]; have := HLE.out.1; omega
      have HJG := Lib.hid hjg
      clear hat hat0 hbg hgl hjg hnj
      generalize l[j] = x at *
      have HT2 : Hid (Rg.Three wr w2.heap.size (sumN (fun n => us0 b n.n) (b.ns.take j)) (sumN (fun n => us1 b n.n) (b.ns.take j)) (sumN (fun n => us2 b n.n) (b.ns.take j))) := HT.out
      clear HT
      generalize sumN (fun n => us0 b n.n) (b.ns.take j) = t0 at *
      generalize sumN (fun n => us1 b n.n) (b.ns.take j) = t1 at *
      generalize sumN (fun n => us2 b n.n) (b.ns.take j) = t2' at *
      generalize us0 b x.nd.n = v0 at *
      generalize us1 b x.nd.n = v1 at *
      generalize us2 b x.nd.n = v2 at *
      generalize x.nd.ls.length = n1 at *
      generalize x.nd.ts.length = n2 at *
      obtain ⟨⟨u00, u01, u02⟩, ⟨u10, u11, u12⟩, u20, u21, u22⟩ := HUI.out
      have x0 : IntKind.i64.wrap (t0 + v0) = t0 + v0 := by rw [IntKind.wrap_i64]; omega
      have x1 : IntKind.i64.wrap (t1 + v1) = t1 + v1 := by rw [IntKind.wrap_i64]; omega
      have x2 : IntKind.i64.wrap (t2' + v2) = t2' + v2 := by rw [IntKind.wrap_i64]; omega
      have m0 : ¬ v0 < 0 := by omega
      have m1 : ¬ v1 < 0 := by omega
      have m2 : ¬ v2 < 0 := by omega
      have k0 : ¬ x.nd.z0 < v0 := by omega
      have k1 : ¬ x.nd.z1 < v1 := by omega
      have k2 : ¬ x.nd.z2 < v2 := by omega
      have I0 := Rg.arr0 v0 v1 v2
      have I1 := Rg.arr1 v0 v1 v2
      have I2 := Rg.arr2 v0 v1 v2
      clear hb0 hb1 hb2 hbl u00 u01 u02 u10 u11 u12 u20 u21 u22 HUI
      obtain ⟨z2, rfl⟩ : ∃ q, q = wr := ⟨wr, rfl⟩
      have HZZ : Hid (w2.heap.size < z2.heap.size) := HZA.out
      have HXB : Hid (Hd.Bxn (z2.alloc (.cells #[.string x.nd.n, .int .i64 x.nd.z0, .int .i64 x.nd.z1, .int .i64 x.nd.z2, .slice x.a2 n1 x.c2, .slice x.a3 n2 x.c3, .int .i64 v0, .int .i64 v1, .int .i64 v2] 46)) z2.heap.size [.string x.nd.n, .int .i64 x.nd.z0, .int .i64 x.nd.z1, .int .i64 x.nd.z2, .slice x.a2 n1 x.c2, .slice x.a3 n2 x.c3, .int .i64 v0, .int .i64 v1, .int .i64 v2]) := Hd.Bxn.made z2 _ _
      have HT3 : Hid (Rg.Three (z2.alloc (.cells #[.string x.nd.n, .int .i64 x.nd.z0, .int .i64 x.nd.z1, .int .i64 x.nd.z2, .slice x.a2 n1 x.c2, .slice x.a3 n2 x.c3, .int .i64 v0, .int .i64 v1, .int .i64 v2] 46)) w2.heap.size t0 t1 t2') := HT2.out.alloc _
      have HB3 : Hid (Below w2.heap.size w2 (z2.alloc (.cells #[.string x.nd.n, .int .i64 x.nd.z0, .int .i64 x.nd.z1, .int .i64 x.nd.z2, .slice x.a2 n1 x.c2, .slice x.a3 n2 x.c3, .int .i64 v0, .int .i64 v1, .int .i64 v2] 46))) := HA.out.alloc (by have := HZZ.out; omega) _
      clear HT2 HA HZA
      go_wp2
      go_loopg [37] 3 (fun gi i wx => ∃ m : Nat, m + gi = 3 ∧ i = .int .i64 m ∧ Aside (Rg.Three wx w2.heap.size (Rg.pick m 0 t0 (t0 + v0)) (Rg.pick m 1 t1 (t1 + v1)) (Rg.pick m 2 t2' (t2' + v2))) ∧ Aside (Hd.Bxn wx z2.heap.size [.string x.nd.n, .int .i64 x.nd.z0, .int .i64 x.nd.z1, .int .i64 x.nd.z2, .slice x.a2 n1 x.c2, .slice x.a3 n2 x.c3, .int .i64 v0, .int .i64 v1, .int .i64 v2]) ∧ Aside (Below w2.heap.size w2 wx))
      case atStart => exact ⟨0, by omega, rfl, HT3.out, HXB.out, HB3.out⟩
      case round =>
        obtain ⟨m, hmg, rfl, HF, HG, HY⟩ := hrel
        cases gk with
        | zero =>
          obtain rfl : m = 3 := by omega
          clear hmg
          go_wp2
          go_roundg gg
          case measure => omega
          case rel =>
            refine ⟨j + 1, by have := HJG.out; omega, by simp, ?_, HF.out.lt, HY.out⟩
            show Rg.Three _ _ _ _ _
            rw [HS0.out, HS1.out, HS2.out]
            exact HF.out
        | succ gi =>
            have HG2 := Lib.hid hmg
            have h3 : m = 0 ∨ m = 1 ∨ m = 2 := by omega
            clear hmg
            rcases h3 with rfl | rfl | rfl
            · obtain ⟨n0, n1', n2', fz0, fz1, fz2⟩ := HF.out.cells
              have N : wr.cell? ⟨w2.heap.size, 0, none⟩ = some (.int .i64 t0) := n0
              have hx : wr.cell? ⟨z2.heap.size, 1, none⟩ = some (.int .i64 x.nd.z0) := HG.out.cell 1
              clear n0 n1' n2'
              have g1 : (wr.setCell ⟨w2.heap.size, 0, none⟩ (.int .i64 (t0 + v0))).cell? ⟨z2.heap.size, 1, none⟩ = some (.int .i64 x.nd.z0) := (World.cell?_setCell_far _ _ _ _ (by show w2.heap.size ≠ z2.heap.size; have := HZZ.out; omega)).trans hx
              clear hx
              go_wp2
              go_roundg gi
              case measure => omega
              case rel => exact ⟨1, by have := HG2.out; omega, rfl, HF.out.set0 _, HG.out.apart (by have := HZZ.out; omega) _ _, HY.out.setCell (Nat.le_refl _) _⟩
            · obtain ⟨n0, n1', n2', fz0, fz1, fz2⟩ := HF.out.cells
              have N : wr.cell? ⟨w2.heap.size, 1, none⟩ = some (.int .i64 t1) := n1'
              have hx : wr.cell? ⟨z2.heap.size, 2, none⟩ = some (.int .i64 x.nd.z1) := HG.out.cell 2
              clear n0 n1' n2'
              have g1 : (wr.setCell ⟨w2.heap.size, 1, none⟩ (.int .i64 (t1 + v1))).cell? ⟨z2.heap.size, 2, none⟩ = some (.int .i64 x.nd.z1) := (World.cell?_setCell_far _ _ _ _ (by show w2.heap.size ≠ z2.heap.size; have := HZZ.out; omega)).trans hx
              clear hx
              go_wp2
              go_roundg gi
              case measure => omega
              case rel => exact ⟨2, by have := HG2.out; omega, rfl, HF.out.set1 _, HG.out.apart (by have := HZZ.out; omega) _ _, HY.out.setCell (Nat.le_refl _) _⟩
            · obtain ⟨n0, n1', n2', fz0, fz1, fz2⟩ := HF.out.cells
              have N : wr.cell? ⟨w2.heap.size, 2, none⟩ = some (.int .i64 t2') := n2'
              have hx : wr.cell? ⟨z2.heap.size, 3, none⟩ = some (.int .i64 x.nd.z2) := HG.out.cell 3
              clear n0 n1' n2'
              have g1 : (wr.setCell ⟨w2.heap.size, 2, none⟩ (.int .i64 (t2' + v2))).cell? ⟨z2.heap.size, 3, none⟩ = some (.int .i64 x.nd.z2) := (World.cell?_setCell_far _ _ _ _ (by show w2.heap.size ≠ z2.heap.size; have := HZZ.out; omega)).trans hx
              clear hx
              go_wp2
              go_roundg gi
              case measure => omega
              case rel => exact ⟨3, by have := HG2.out; omega, rfl, HF.out.set2 _, HG.out.apart (by have := HZZ.out; omega) _ _, HY.out.setCell (Nat.le_refl _) _⟩
    | zero =>
      obtain rfl : j = l.length := by omega
      have HSU : Hid (Rg.Three wr w2.heap.size (sumI (·.z0) (onL b.ts b.bs)) (sumI (·.z1) (onL b.ts b.bs)) (sumI (·.z2) (onL b.ts b.bs))) := by
        have h1 := HT.out
        have e1 : b.ns.take l.length = b.ns := by rw [HLL.out]; exact List.take_length
        rw [e1] at h1
        have s0 := loads_sum HRB.out (·.z0)
        have s1 := loads_sum HRB.out (·.z1)
        have s2 := loads_sum HRB.out (·.z2)
        rw [← s0, ← s1, ← s2]
        exact h1
      have HXR := Lib.hid (HX2.out.below HA.out)
      have HBR : Hid (Below w.heap.size w wr) := HB2.out.trans (HA.out.mono HB2.out.size)
      have HBKR := Lib.hid (HBK2.out.on HA.out)
      clear hjg HA HT HZA HO HX2 HB2 HBK2
      obtain ⟨z1, rfl⟩ : ∃ q, q = wr := ⟨wr, rfl⟩
      have y1 : z1.cell? ⟨w.heap.size, 1, none⟩ = some (.slice b0 (b).ts.length d0) := HXR.out.cell 1
      go_wp2
      clear y1
      go_loopg [10, 63] b.ts.length (fun gg sv i wx => ∃ (k : Nat) (lm : List TdM), k + gg = b.ts.length ∧ i = .int .i64 k ∧ Aside (Own wx z1.heap.size 36 sv lm ∧ lm.map (·.td) = onL (b.ts.take k) b.bs) ∧ Aside (Below z1.heap.size z1 wx))
      case atStart => exact ⟨0, [], by omega, rfl, ⟨Own.nil _ _ _, rfl⟩, Below.refl _ _⟩
      case round =>
        obtain ⟨k, lm, hkg, rfl, HLM, HA⟩ := hrel
        obtain ⟨z2, rfl⟩ : ∃ q, q = wr := ⟨wr, rfl⟩
        have HU2 : Hid (Below z1.heap.size z1 z2) := HA.out
        have HX2 := Lib.hid (HXR.out.below HA.out)
        clear HA
        cases gk with
        | zero =>
          obtain rfl : k = b.ts.length := by omega
          have HTD : Hid (lm.map (·.td) = onL b.ts b.bs) := by have := HLM.out.2; rwa [List.take_length] at this
          have HLEN : Hid (lm.length ≤ 32) := by
            have h1 := congrArg List.length HTD.out
            rw [List.length_map, on_len b.ts HRB.out.rt b.bs (fun o ho => (HRB.out.on o ho).1)] at h1
            show _ ≤ _
            have := HLE.out
            omega
          have HSM : Hid (Calls Try.prog 10 #[u10] z2 fun e w' => e = .returned (.tuple #[.agg #[.int .i64 (sumI (·.z0) (onL b.ts b.bs)), .int .i64 (sumI (·.z1) (onL b.ts b.bs)), .int .i64 (sumI (·.z2) (onL b.ts b.bs))], .int .i64 0]) ∧ Below z2.heap.size z2 w') := by
            have hmem : ∀ x ∈ lm, x.td ∈ b.ts := fun x hx => on_mem (bs := b.bs) (by rw [← HTD.out]; exact List.mem_map_of_mem hx)
            refine (Rg.sum_any u10 (lm.map tkM) z2 (own_tasks HLM.out.1 (by have := HLEN.out; omega) (fun x hx => HFI.out.ft _ (hmem x hx)))).mono ?_
            rintro e w' ⟨he, hb⟩
            have h2 := sum_td HLEN.out (fun x hx => HRB.out.kt _ (hmem x hx)) he
            rw [HTD.out] at h2
            exact ⟨h2, hb⟩
          have HSZ := Lib.hid (HSU.out.below HU2.out HSU.out.lt)
          clear hkg HLM HTD HLEN
          generalize sumI (·.z0) (onL b.ts b.bs) = s0 at *
          generalize sumI (·.z1) (onL b.ts b.bs) = s1 at *
          generalize sumI (·.z2) (onL b.ts b.bs) = s2 at *
          go_wp2_with fail
          refine HSM.out.mono ?_
          rintro e z3 ⟨rfl, hb⟩
          have HS3 := Lib.hid ((HSZ.out.below hb HSZ.out.lt).alloc (.cells #[.int .i64 s0, .int .i64 s1, .int .i64 s2] 33))
          have HX3 := Lib.hid ((HX2.out.below hb).below (al z3 (.cells #[.int .i64 s0, .int .i64 s1, .int .i64 s2] 33)))
          have HE : Hid (Below w.heap.size w (z3.alloc (.cells #[.int .i64 s0, .int .i64 s1, .int .i64 s2] 33))) := by
            have h1 := HBR.out.trans (HU2.out.mono HBR.out.size)
            have h2 := h1.trans (hb.mono h1.size)
            exact h2.alloc h2.size _
          clear hb HSM HSZ
          obtain ⟨r0, r1, r2, -, -, -⟩ := HS3.out.cells
          have y0 : (z3.alloc (.cells #[.int .i64 s0, .int .i64 s1, .int .i64 s2] 33)).cell? ⟨w.heap.size, 0, none⟩ = some (.slice a0 (b).ns.length c0) := HX3.out.cell 0
          have hel := fun w => Rg.eql_arr s0 s1 s2 s0 s1 s2 w
          have hea : Rg.eqA s0 s1 s2 s0 s1 s2 = true := by simp [Rg.eqA]
          have hgd := Rg.guard_arr
          have hll : (l.length : Int) = (b.ns.length : Int) := by rw [HLL.out]
          rw [hea] at hel
          clear hea
          go_wp2
          go_ret
          exact ⟨rfl, HE.out⟩
        | succ go =>
          have hlk : k < b.ts.length := by omega
          have t2 : (k : Int) < (b.ts.length : Int) := by omega
          have t3 : IntKind.i64.wrap ((k : Int) + 1) = (k : Int) + 1 := by rw [IntKind.wrap_i64]; have := HLE.out; omega
          have t4 : (0 : Int) ≤ (k : Int) := by omega
          obtain ⟨gt, ot, x, rfl, hgl, hat, hxt⟩ := tds_at HBKR.out.ht k hlk
          obtain ⟨p0, p1, p2, p3, p4, p5, p6, p7, p8⟩ := at_td hat
          have e0' : z2.cell? ⟨gt, ot + k * 9, none⟩ = some (.string x.td.n) := (HU2.out.cell (by exact hgl)).trans p0
          have e1' : z2.cell? ⟨gt, ot + k * 9 + 1, none⟩ = some (.int .i64 x.td.z0) := (HU2.out.cell (by exact hgl)).trans p1
          have e2' : z2.cell? ⟨gt, ot + k * 9 + 2, none⟩ = some (.int .i64 x.td.z1) := (HU2.out.cell (by exact hgl)).trans p2
          have e3' : z2.cell? ⟨gt, ot + k * 9 + 3, none⟩ = some (.int .i64 x.td.z2) := (HU2.out.cell (by exact hgl)).trans p3
          have e4' : z2.cell? ⟨gt, ot + k * 9 + 4, none⟩ = some (.slice x.a4 x.td.ws.length x.c4) := (HU2.out.cell (by exact hgl)).trans p4
          have e5' : z2.cell? ⟨gt, ot + k * 9 + 5, none⟩ = some (.slice x.a5 x.td.bs.length x.c5) := (HU2.out.cell (by exact hgl)).trans p5
          have e6' : z2.cell? ⟨gt, ot + k * 9 + 6, none⟩ = some (.string x.td.g) := (HU2.out.cell (by exact hgl)).trans p6
          have e7' : z2.cell? ⟨gt, ot + k * 9 + 7, none⟩ = some (.string x.td.a) := (HU2.out.cell (by exact hgl)).trans p7
          have e8' : z2.cell? ⟨gt, ot + k * 9 + 8, none⟩ = some (.int .i64 x.td.r) := (HU2.out.cell (by exact hgl)).trans p8
          have HSN := Lib.hid (onL_snoc b.ts b.bs k hlk)
          rw [← hxt] at HSN
          have HKL : Hid (lm.length ≤ 1024) := by
            have h1 := congrArg List.length HLM.out.2
            have h2 := onL_len b.bs (b.ts.take k)
            rw [List.length_map] at h1
            rw [List.length_take] at h2
            have h3 := HLE.out
            have h4 : min k b.ts.length * b.bs.length ≤ 32 * 32 := Nat.mul_le_mul (by omega) (by omega)
            show _ ≤ _
            omega
          have HKG := Lib.hid hkg
          clear p0 p1 p2 p3 p4 p5 p6 p7 p8 hat hxt hkg hgl
          have HXE : Hid (tdE x = tdE x) := rfl
          have HXF : Hid (tdE x = [.string x.td.n, .int .i64 x.td.z0, .int .i64 x.td.z1, .int .i64 x.td.z2, .slice x.a4 x.td.ws.length x.c4, .slice x.a5 x.td.bs.length x.c5, .string x.td.g, .string x.td.a, .int .i64 x.td.r]) := rfl
          generalize x.td.ws.length = n1 at *
          generalize x.td.bs.length = n2 at *
          clear HXE
          obtain ⟨wy, hwy⟩ : ∃ wy, wy = z2.alloc (.cells #[.string x.td.n, .int .i64 x.td.z0, .int .i64 x.td.z1, .int .i64 x.td.z2, .slice x.a4 n1 x.c4, .slice x.a5 n2 x.c5, .string x.td.g, .string x.td.a, .int .i64 x.td.r] 36) := ⟨_, rfl⟩
          have HTX : Hid (Hd.Bxn wy z2.heap.size [.string x.td.n, .int .i64 x.td.z0, .int .i64 x.td.z1, .int .i64 x.td.z2, .slice x.a4 n1 x.c4, .slice x.a5 n2 x.c5, .string x.td.g, .string x.td.a, .int .i64 x.td.r]) := by rw [hwy]; exact Hd.Bxn.made z2 _ _
          have HYB : Hid (Below z2.heap.size z2 wy) := by rw [hwy]; exact al _ _
          have HWY := Lib.hid hwy
          clear hwy
          go_upto_region 22 with fail
          rw [← HWY.out]
          clear e0' e1' e2' e3' e4' e5' e6' e7' e8'
          have HUY : Hid (Below z1.heap.size z1 wy) := HU2.out.trans (HYB.out.mono HU2.out.size)
          have HXY := Lib.hid (HX2.out.below HYB.out)
          have HOY := Lib.hid (HLM.out.1.keep HYB.out)
          have HLT := Lib.hid HLM.out.2
          have HNE : Hid (∀ g, u10.ownBlock = some g → g ≠ z2.heap.size) := fun g hg e => by have := (HLM.out.1.lt g hg).2; omega
          have y2 : wy.cell? ⟨w.heap.size, 2, none⟩ = some (.slice e0 (b).bs.length f0) := HXY.out.cell 2
          clear HWY HX2 HLM HYB
          go_wp2
          clear y2
          go_loopg [10, 70] b.bs.length (fun gi sv i wx => ∃ (q : Nat) (ln : List TdM), q + gi = b.bs.length ∧ i = .int .i64 q ∧ Aside (Own wx z1.heap.size 36 sv ln ∧ ln.map (·.td) = onL (b.ts.take k) b.bs ++ onT (b.bs.take q) x.td ∧ ∀ g, sv.ownBlock = some g → g ≠ z2.heap.size) ∧ Aside (Hd.Bxn wx z2.heap.size [.string x.td.n, .int .i64 x.td.z0, .int .i64 x.td.z1, .int .i64 x.td.z2, .slice x.a4 n1 x.c4, .slice x.a5 n2 x.c5, .string x.td.g, .string x.td.a, .int .i64 x.td.r] ∧ Below z1.heap.size z1 wx))
          case atStart => exact ⟨0, lm, by omega, rfl, ⟨HOY.out, by rw [HLT.out]; simp [onT], HNE.out⟩, HTX.out, HUY.out⟩
          case round =>
            obtain ⟨q, ln, hqg, rfl, HLN, HBB⟩ := hrel
            obtain ⟨z4, rfl⟩ : ∃ q, q = wr := ⟨wr, rfl⟩
            have HTZ := Lib.hid HBB.out.1
            have HUF : Hid (Below z1.heap.size z1 z4) := HBB.out.2
            clear HBB
            cases gk with
            | zero =>
              obtain rfl : q = b.bs.length := by omega
              have HLF : Hid (ln.map (·.td) = onL (b.ts.take (k + 1)) b.bs) := by have := HLN.out.2.1; rw [List.take_length] at this; show _ = _; rw [HSN.out]; exact this
              clear hqg
              go_wp2
              go_roundg go
              case measure => omega
              case rel => exact ⟨k + 1, ln, by have := HKG.out; omega, by simp, ⟨HLN.out.1, HLF.out⟩, HUF.out⟩
            | succ gi =>
              have hlq : q < b.bs.length := by omega
              have u2' : (q : Int) < (b.bs.length : Int) := by omega
              have u3' : IntKind.i64.wrap ((q : Int) + 1) = (q : Int) + 1 := by rw [IntKind.wrap_i64]; have := HLE.out; omega
              have u4' : (0 : Int) ≤ (q : Int) := by omega
              obtain ⟨g, off, rfl, hgl4, hat4⟩ := bds_at HBKR.out.hb q hlq
              obtain ⟨p0, p1⟩ := at_bd hat4
              have f0' : z4.cell? ⟨g, off + q * 2, none⟩ = some (.string b.bs[q].k) := (HUF.out.cell (by exact hgl4)).trans p0
              have f1' : z4.cell? ⟨g, off + q * 2 + 1, none⟩ = some (.string b.bs[q].v) := (HUF.out.cell (by exact hgl4)).trans p1
              have HTS := Lib.hid (onT_snoc b.bs q hlq x.td)
              have hln : ln.length + 1 ≤ 4096 := by
                have h1 := congrArg List.length HLN.out.2.1
                have h2 := congrArg List.length HLT.out
                have h3 := onT_len (b.bs.take q) x.td
                rw [List.length_map, List.length_append] at h1
                rw [List.length_map] at h2
                rw [List.length_take] at h3
                have h4 := HKL.out
                have h5 := HLE.out
                omega
              have HMX : Hid (ln.length + 1 ≤ maxLen) := by show _ ≤ _; unfold maxLen; omega
              have HBY : Hid ((ln.length + 1) * 128 ≤ 140737488355328) := by show _ ≤ _; omega
              have HQG := Lib.hid hqg
              clear p0 p1 hat4 hgl4 hqg hln
              generalize b.bs[q] = y at *
              have HT5 := Lib.hid (HTZ.out.below (al z4 (.cells #[.string y.k, .string y.v] 38)))
              have v0 : (z4.alloc (.cells #[.string y.k, .string y.v] 38)).cell? ⟨z2.heap.size, 0, none⟩ = some (.string x.td.n) := HT5.out.cell 0
              by_cases he : y.k = x.td.n
              · have hs : (y.k.toList == x.td.n.toList) = true := by rw [he]; simp
                have hs2 : y.k.toList = x.td.n.toList := by rw [he]
                have HS2 : Hid (onT (b.bs.take (q + 1)) x.td = onT (b.bs.take q) x.td ++ [x.td]) := by show _ = _; rw [HTS.out, if_pos he]
                clear he HTS
                have g1' : (z4.alloc (.cells #[.string y.k, .string y.v] 38)).cell? ⟨z2.heap.size, 1, none⟩ = some (.int .i64 x.td.z0) := HT5.out.cell 1
                have g2' : (z4.alloc (.cells #[.string y.k, .string y.v] 38)).cell? ⟨z2.heap.size, 2, none⟩ = some (.int .i64 x.td.z1) := HT5.out.cell 2
                have g3' : (z4.alloc (.cells #[.string y.k, .string y.v] 38)).cell? ⟨z2.heap.size, 3, none⟩ = some (.int .i64 x.td.z2) := HT5.out.cell 3
                have g4' : (z4.alloc (.cells #[.string y.k, .string y.v] 38)).cell? ⟨z2.heap.size, 4, none⟩ = some (.slice x.a4 n1 x.c4) := HT5.out.cell 4
                have g5' : (z4.alloc (.cells #[.string y.k, .string y.v] 38)).cell? ⟨z2.heap.size, 5, none⟩ = some (.slice x.a5 n2 x.c5) := HT5.out.cell 5
                have g6' : (z4.alloc (.cells #[.string y.k, .string y.v] 38)).cell? ⟨z2.heap.size, 6, none⟩ = some (.string x.td.g) := HT5.out.cell 6
                have g7' : (z4.alloc (.cells #[.string y.k, .string y.v] 38)).cell? ⟨z2.heap.size, 7, none⟩ = some (.string x.td.a) := HT5.out.cell 7
                have g8' : (z4.alloc (.cells #[.string y.k, .string y.v] 38)).cell? ⟨z2.heap.size, 8, none⟩ = some (.int .i64 x.td.r) := HT5.out.cell 8
                have hbx : Below z4.heap.size z4 ((z4.alloc (.cells #[.string y.k, .string y.v] 38)).alloc (.cells #[.string x.td.n, .int .i64 x.td.z0, .int .i64 x.td.z1, .int .i64 x.td.z2, .slice x.a4 n1 x.c4, .slice x.a5 n2 x.c5, .string x.td.g, .string x.td.a, .int .i64 x.td.r] 36)) := (al z4 _).alloc (by simp) _
                have HO5 := Lib.hid (HLN.out.1.keep hbx)
                have HOL := Lib.hid HO5.out.lt
                have HU7 : Hid (Below z1.heap.size z1 ((z4.alloc (.cells #[.string y.k, .string y.v] 38)).alloc (.cells #[.string x.td.n, .int .i64 x.td.z0, .int .i64 x.td.z1, .int .i64 x.td.z2, .slice x.a4 n1 x.c4, .slice x.a5 n2 x.c5, .string x.td.g, .string x.td.a, .int .i64 x.td.r] 36))) := HUF.out.trans (hbx.mono HUF.out.size)
                have HBX := Lib.hid (HTZ.out.below hbx)
                have HNN := Lib.hid HLN.out.2.2
                have HLT2 := Lib.hid HLN.out.2.1
                have HN5 : Hid (∀ j u, ([.string x.td.n, .int .i64 x.td.z0, .int .i64 x.td.z1, .int .i64 x.td.z2, .slice x.a4 n1 x.c4, .slice x.a5 n2 x.c5, .string x.td.g, .string x.td.a, .int .i64 x.td.r] : List Value)[j]? = some u → ((z4.alloc (.cells #[.string y.k, .string y.v] 38)).alloc (.cells #[.string x.td.n, .int .i64 x.td.z0, .int .i64 x.td.z1, .int .i64 x.td.z2, .slice x.a4 n1 x.c4, .slice x.a5 n2 x.c5, .string x.td.g, .string x.td.a, .int .i64 x.td.r] 36)).cell? ((⟨z4.heap.size + 1, 0, none⟩ : Addr).add j) = some u) := by
                  have := Rg.news_new (z4.alloc (.cells #[.string y.k, .string y.v] 38)) 36 [.string x.td.n, .int .i64 x.td.z0, .int .i64 x.td.z1, .int .i64 x.td.z2, .slice x.a4 n1 x.c4, .slice x.a5 n2 x.c5, .string x.td.g, .string x.td.a, .int .i64 x.td.r]
                  rw [World.size_alloc] at this
                  exact this
                have H1 : Hid (∀ u ∈ ([.string x.td.n, .int .i64 x.td.z0, .int .i64 x.td.z1, .int .i64 x.td.z2, .slice x.a4 n1 x.c4, .slice x.a5 n2 x.c5, .string x.td.g, .string x.td.a, .int .i64 x.td.r] : List Value), u.oneCell' = true) := by rw [← HXF.out]; exact tdE_one x
                have HSZ : Hid (z1.heap.size ≤ ((z4.alloc (.cells #[.string y.k, .string y.v] 38)).alloc (.cells #[.string x.td.n, .int .i64 x.td.z0, .int .i64 x.td.z1, .int .i64 x.td.z2, .slice x.a4 n1 x.c4, .slice x.a5 n2 x.c5, .string x.td.g, .string x.td.a, .int .i64 x.td.r] 36)).heap.size) := HU7.out.size
                have HZL : Hid (z2.heap.size < ((z4.alloc (.cells #[.string y.k, .string y.v] 38)).alloc (.cells #[.string x.td.n, .int .i64 x.td.z0, .int .i64 x.td.z1, .int .i64 x.td.z2, .slice x.a4 n1 x.c4, .slice x.a5 n2 x.c5, .string x.td.g, .string x.td.a, .int .i64 x.td.r] 36)).heap.size) := HBX.out.lt
                have HSP : Hid (∀ (w5 : World) (v4 : Value), w5.ownsRow z1.heap.size 36 9 v4 (ln.length + 1) (flat ln ++ [.string x.td.n, .int .i64 x.td.z0, .int .i64 x.td.z1, .int .i64 x.td.z2, .slice x.a4 n1 x.c4, .slice x.a5 n2 x.c5, .string x.td.g, .string x.td.a, .int .i64 x.td.r]) → Own w5 z1.heap.size 36 v4 (ln ++ [x])) := by rw [← HXF.out]; exact fun w5 v4 h => Own.snoc (x := x) h
                clear hbx HTZ HT5 HLN
                go_wp2_with (at_builtin; go_loud ((refine wpList_append_own_at _ rfl _ _ 23 rfl z1.heap.size 36 i0 _ 9 128 Try.underlying23 hi hq0 hq1 hq2 rfl (by omega) _ _ _ rfl HO5.out ⟨z4.heap.size + 1, 0, none⟩ 1 1 [.string x.td.n, .int .i64 x.td.z0, .int .i64 x.td.z1, .int .i64 x.td.z2, .slice x.a4 n1 x.c4, .slice x.a5 n2 x.c5, .string x.td.g, .string x.td.a, .int .i64 x.td.r] rfl rfl HN5.out H1.out HMX.out HBY.out HSZ.out ?_); intro v4 w5 hown hg5 hnil hob; have HO6 := Lib.hid (HSP.out _ _ hown); have HB6 : Hid (Below z1.heap.size z1 w5) := (HU7.out.grown hg5 HU7.out.size (fun g hg => (HOL.out g hg).1)); have HX6 : Hid (Hd.Bxn w5 z2.heap.size [.string x.td.n, .int .i64 x.td.z0, .int .i64 x.td.z1, .int .i64 x.td.z2, .slice x.a4 n1 x.c4, .slice x.a5 n2 x.c5, .string x.td.g, .string x.td.a, .int .i64 x.td.r]) := (bxn_grown HBX.out hg5 (fun e => HNN.out _ e.symm rfl)); have HN6 : Hid (∀ g, v4.ownBlock = some g → g ≠ z2.heap.size) := (fun g hg e => by rcases hob with h | h; exact HNN.out g (h.symm.trans hg) e; have hg2 := h.symm.trans hg; cases hg2; have := HZL.out; omega); clear hown hg5 hnil hob))
                go_wp2
                go_roundg gi
                case measure => omega
                case rel => exact ⟨q + 1, ln ++ [x], by have := HQG.out; omega, by simp, ⟨HO6.out, by rw [HS2.out, List.map_append, List.map_singleton, HLT2.out, List.append_assoc], HN6.out⟩, HX6.out, HB6.out⟩
              · have hs : (y.k.toList == x.td.n.toList) = false := (Hd.ba_no he).1
                have hs2 : ¬ y.k.toList = x.td.n.toList := (Hd.ba_no he).2
                have HS2 : Hid (onT (b.bs.take (q + 1)) x.td = onT (b.bs.take q) x.td) := by show _ = _; rw [HTS.out, if_neg he, List.append_nil]
                have HU5 : Hid (Hd.Bxn (z4.alloc (.cells #[.string y.k, .string y.v] 38)) z2.heap.size [.string x.td.n, .int .i64 x.td.z0, .int .i64 x.td.z1, .int .i64 x.td.z2, .slice x.a4 n1 x.c4, .slice x.a5 n2 x.c5, .string x.td.g, .string x.td.a, .int .i64 x.td.r] ∧ Below z1.heap.size z1 (z4.alloc (.cells #[.string y.k, .string y.v] 38))) := ⟨HT5.out, HUF.out.alloc HUF.out.size _⟩
                have HO5 := Lib.hid (HLN.out.1.keep (al z4 (.cells #[.string y.k, .string y.v] 38)))
                have HLT2 := Lib.hid HLN.out.2.1
                have HNN := Lib.hid HLN.out.2.2
                clear he HTS HLN
                go_wp2
                go_roundg gi
                case measure => omega
                case rel => exact ⟨q + 1, ln, by have := HQG.out; omega, by simp, ⟨HO5.out, by rw [HS2.out]; exact HLT2.out, HNN.out⟩, HU5.out⟩
theorem loadsl_law (b : Bk) (vb0 : Value) (w : World) (hb : BookArg w vb0 b) : Calls Try.prog 4 #[vb0] w fun e w' => e = .returned (.bool true) ∧ Below w.heap.size w w' := by
  cases hc : chkB b
  · exact loadsl_no b vb0 w hb hc
  · exact loadsl_ok b vb0 w hb hc
end Bo
end Go.Proofs.Ythbmnkeigmbbdaa
