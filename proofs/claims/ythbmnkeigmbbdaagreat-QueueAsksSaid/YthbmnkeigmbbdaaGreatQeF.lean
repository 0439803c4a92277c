/-
  Merged: QeLoads, QeFree.
-/
import Derived.Test.YthbmnkeigmbbdaaGreatQeD
import Derived.Test.YthbmnkeigmbbdaaGreatQeA
import Derived.Test.YthbmnkeigmbbdaaGreatBgZ
import Derived.Test.YthbmnkeigmbbdaaGreatQeC
import Derived.Test.YthbmnkeigmbbdaaGreatQeB
import Derived.Test.YthbmnkeigmbbdaaGreatBgB
/-
  HOW FULL THE NODES ARE: queue.Loads.
-/
namespace Go.Proofs.YthbmnkeigmbbdaaGreat
open Go.RowKit Go.Lib
namespace Bo
open Rw
set_option linter.unusedVariables false
/-- A load as it lies in a row. -/
structure LdM where
  x : NdM
  u0 : Int
  u1 : Int
  u2 : Int
def ldE (y : LdM) : List Value := [.string y.x.nd.n, .int .i64 y.x.nd.z0, .int .i64 y.x.nd.z1, .int .i64 y.x.nd.z2, .slice y.x.a2 y.x.nd.ls.length y.x.c2, .slice y.x.a3 y.x.nd.ts.length y.x.c3, .int .i64 y.u0, .int .i64 y.u1, .int .i64 y.u2]
theorem ldE_one (x : LdM) : ∀ u ∈ ldE x, u.oneCell' = true := by
  intro u hu
  simp only [ldE, List.mem_cons, List.not_mem_nil, or_false] at hu
  rcases hu with rfl | rfl | rfl | rfl | rfl | rfl | rfl | rfl | rfl <;> rfl
instance : Rw.Flat LdM := ⟨ldE, 9, by omega, fun _ => rfl, ldE_one⟩
def mkL (b : Bk) (x : NdM) : LdM := ⟨x, us0 b x.nd.n, us1 b x.nd.n, us2 b x.nd.n⟩
theorem info_ld : (Tryz.prog.info? 47).map (fun i => (i.zero, i.size, i.bytes)) = some (some (.agg #[.string ByteArray.empty, .int .i64 0, .int .i64 0, .int .i64 0, .slice none 0 0, .slice none 0 0, .int .i64 0, .int .i64 0, .int .i64 0]), 9, 112) := by kernel_rfl
/-- What is told of how full the nodes are. -/
def LoadIs (b : Bk) (w : World) (e : Ending) (w' : World) : Prop := ∃ (v : Value) (l : List NdM), e = .returned (.tuple #[v, .int .i64 (chE (chkB b) : Nat)]) ∧ Own w' w.heap.size 47 v (l.map (mkL b)) ∧ l.map (·.nd) = (if chkB b = true then b.ns else []) ∧ (∀ x ∈ l, OwnN w' w.heap.size x) ∧ Below w.heap.size w w'
set_option maxRecDepth 100000 in
set_option maxHeartbeats 4000000 in
theorem loads_no (b : Bk) (vn vt vb : Value) (w : World) (hB : Books w w.heap.size vn vt vb b) (hc : chkB b = false) : Calls Tryz.prog 14 #[.agg #[vn, vt, vb, .int .u64 (b.fe : Nat)]] w (LoadIs b w) := by
  have HR : Hid (∀ w', Below w.heap.size w w' → LoadIs b w (.returned (.tuple #[.slice none 0 0, .int .i64 10])) w') := fun w' h => ⟨.slice none 0 0, [], by rw [hc]; rfl, Own.nil _ _ _, by rw [hc]; rfl, by simp, h⟩
  obtain ⟨W0, hW0⟩ : ∃ W0, W0 = w.alloc (.cells #[vn, vt, vb, .int .u64 (b.fe : Nat)] 27) := ⟨_, rfl⟩
  have hb0 : Below w.heap.size w W0 := by rw [hW0]; exact al w _
  have hx0 : Hd.Bxn W0 w.heap.size [vn, vt, vb, .int .u64 (b.fe : Nat)] := by rw [hW0]; exact Hd.Bxn.made w _ _
  have hz0 : W0.heap.size = w.heap.size + 1 := by rw [hW0]; simp
  have HOW : Hid (Calls Tryz.prog 34 #[.agg #[vn, vt, vb, .int .u64 (b.fe : Nat)]] W0 (GaveL bk0 10 W0)) := by
    have h := own_any b vn vt vb W0 (hB.on hb0)
    unfold ownB at h
    rw [hc] at h
    exact h
  obtain ⟨an, cn, hvn⟩ := hB.hn.slice
  obtain ⟨at', ct, hvt⟩ := hB.ht.slice
  obtain ⟨ab, cb, hvb⟩ := hB.hb.slice
  subst hvn hvt hvb
  have HW := Lib.hid hW0
  have HX0 : Hid (Hd.Bxn W0 w.heap.size [.slice an b.ns.length cn, .slice at' b.ts.length ct, .slice ab b.bs.length cb, .int .u64 (b.fe : Nat)]) := hx0
  have HB0 := Lib.hid hb0
  have HZ0 := Lib.hid hz0
  clear hW0 hb0 hx0 hz0
  go_enter Tryz.func14, Tryz.ntmps14
  go_upto_region 1 with fail
  rw [← HW.out]
  refine wp_region_list ?_
  refine wpList_load_mid rfl 27 (.tmp 1) rfl (w.heap.size) (0) rfl [.slice an b.ns.length cn, .slice at' b.ts.length ct, .slice ab b.bs.length cb, .int .u64 (b.fe : Nat)] _ (HX0.out.range 0) Tryz.underlying27 rfl rfl ?_
  refine wpList_plain rfl fun K hK => ?_
  go_wp2_with fail
  refine HOW.out.mono ?_
  rintro e w1 ⟨v1, v3, v5, m1, m3, rfl, he1, he3, how, hb⟩
  obtain ⟨a1, d1, rfl⟩ := how.hn.slice
  obtain ⟨a3, d3, rfl⟩ := how.ht.slice
  obtain ⟨a5, d5, rfl⟩ := how.hb.slice
  have HX1 : Hid (Hd.Bxn w1 w.heap.size [.slice an b.ns.length cn, .slice at' b.ts.length ct, .slice ab b.bs.length cb, .int .u64 (b.fe : Nat)]) := HX0.out.below hb
  have HB1 : Hid (Below w.heap.size w w1) := HB0.out.trans (hb.mono HB0.out.size)
  have HO1 : Hid (OwnL w1 (w.heap.size + 1) (.slice a1 m1.length d1) (.slice a3 m3.length d3) (.slice a5 bk0.bs.length d5) m1 m3 bk0.bs) := how.le (by rw [HZ0.out]; exact Nat.le_refl _)
  have HE1 := Lib.hid he1
  have HE3 := Lib.hid he3
  clear hb how he1 he3 HOW HW HX0 HB0
  refine hK _ _ ?_
  clear hK K
  refine wpList_plain rfl fun K hK => ?_
  go_simp
  refine hK _ _ ?_
  clear hK K
  refine wpList_plain rfl fun K hK => ?_
  go_simp
  refine hK _ _ ?_
  clear hK K
  refine wpList_plain rfl fun K hK => ?_
  go_simp
  refine hK _ _ ?_
  clear hK K
  have hthR := HX1.out.there 4 rfl
  refine wpList_store_mid rfl 27 (.tmp 1) (.tmp 13) rfl (w.heap.size) 0 #[.slice a1 m1.length d1, .slice a3 m3.length d3, .slice a5 bk0.bs.length d5, .int .u64 (bk0.fe : Nat)] rfl rfl hthR rfl (all_oneCell_toArray (List.all_eq_true.1 (show List.all ([.slice a1 m1.length d1, .slice a3 m3.length d3, .slice a5 bk0.bs.length d5, .int .u64 (bk0.fe : Nat)] : List Value) (fun v => v.oneCell') = true from rfl))) ?_
  rw [show (#[.slice a1 m1.length d1, .slice a3 m3.length d3, .slice a5 bk0.bs.length d5, .int .u64 (bk0.fe : Nat)] : Array Value).toList = [.slice a1 m1.length d1, .slice a3 m3.length d3, .slice a5 bk0.bs.length d5, .int .u64 (bk0.fe : Nat)] from rfl]
  have HX2 : Hid (Hd.Bxn (w1.setCells w.heap.size 0 [.slice a1 m1.length d1, .slice a3 m3.length d3, .slice a5 bk0.bs.length d5, .int .u64 (bk0.fe : Nat)]) w.heap.size [.slice a1 m1.length d1, .slice a3 m3.length d3, .slice a5 bk0.bs.length d5, .int .u64 (bk0.fe : Nat)]) := HX1.out.all [.slice a1 m1.length d1, .slice a3 m3.length d3, .slice a5 bk0.bs.length d5, .int .u64 (bk0.fe : Nat)] rfl
  have HB2 : Hid (Below w.heap.size w (w1.setCells w.heap.size 0 [.slice a1 m1.length d1, .slice a3 m3.length d3, .slice a5 bk0.bs.length d5, .int .u64 (bk0.fe : Nat)])) := below_setCells HB1.out (Nat.le_refl _) _ _
  have HO2 : Hid (OwnL (w1.setCells w.heap.size 0 [.slice a1 m1.length d1, .slice a3 m3.length d3, .slice a5 bk0.bs.length d5, .int .u64 (bk0.fe : Nat)]) (w.heap.size + 1) (.slice a1 m1.length d1) (.slice a3 m3.length d3) (.slice a5 bk0.bs.length d5) m1 m3 bk0.bs) := ownl_set HO1.out (by omega)
  clear hthR HX1 HB1 HO1 HZ0
  generalize w1.setCells w.heap.size 0 [.slice a1 m1.length d1, .slice a3 m3.length d3, .slice a5 bk0.bs.length d5, .int .u64 (bk0.fe : Nat)] = z1 at *
  refine wpList_plain rfl fun K hK => ?_
  go_simp
  refine hK _ _ ?_
  clear hK K
  refine wpList_nil ?_
  clear hB hc
  go_wp2
  go_ret2
  exact HR.out _ HB2.out
set_option maxRecDepth 100000 in
set_option maxHeartbeats 4000000 in
theorem loads_ok (b : Bk) (vn vt vb : Value) (w : World) (hB : Books w w.heap.size vn vt vb b) (hc : chkB b = true) : Calls Tryz.prog 14 #[.agg #[vn, vt, vb, .int .u64 (b.fe : Nat)]] w (LoadIs b w) := by
  obtain ⟨i0, hi, hq0, hq1, hq2⟩ := info_parts info_ld
  have HR : Hid (∀ (v : Value) (l : List NdM) (w' : World), Own w' w.heap.size 47 v (l.map (mkL b)) → l.map (·.nd) = b.ns → (∀ x ∈ l, OwnN w' w.heap.size x) → Below w.heap.size w w' → LoadIs b w (.returned (.tuple #[v, .int .i64 0])) w') := fun v l w' h1 h2 h3 h4 => ⟨v, l, by rw [hc]; rfl, h1, by rw [hc, if_pos rfl]; exact h2, h3, h4⟩
  have HFI := Lib.hid (hB.fine hc)
  have HCK := Lib.hid hc
  obtain ⟨W0, hW0⟩ : ∃ W0, W0 = w.alloc (.cells #[vn, vt, vb, .int .u64 (b.fe : Nat)] 27) := ⟨_, rfl⟩
  have hb0 : Below w.heap.size w W0 := by rw [hW0]; exact al w _
  have hx0 : Hd.Bxn W0 w.heap.size [vn, vt, vb, .int .u64 (b.fe : Nat)] := by rw [hW0]; exact Hd.Bxn.made w _ _
  have hz0 : W0.heap.size = w.heap.size + 1 := by rw [hW0]; simp
  have HOW : Hid (Calls Tryz.prog 34 #[.agg #[vn, vt, vb, .int .u64 (b.fe : Nat)]] W0 (GaveL b 0 W0)) := by
    have h := own_any b vn vt vb W0 (hB.on hb0)
    unfold ownB at h
    rw [hc] at h
    exact h
  obtain ⟨an, cn, hvn⟩ := hB.hn.slice
  obtain ⟨at', ct, hvt⟩ := hB.ht.slice
  obtain ⟨ab, cb, hvb⟩ := hB.hb.slice
  subst hvn hvt hvb
  have HW := Lib.hid hW0
  have HX0 : Hid (Hd.Bxn W0 w.heap.size [.slice an b.ns.length cn, .slice at' b.ts.length ct, .slice ab b.bs.length cb, .int .u64 (b.fe : Nat)]) := hx0
  have HB0 := Lib.hid hb0
  have HZ0 := Lib.hid hz0
  clear hW0 hb0 hx0 hz0
  go_enter Tryz.func14, Tryz.ntmps14
  go_upto_region 1 with fail
  rw [← HW.out]
  refine wp_region_list ?_
  refine wpList_load_mid rfl 27 (.tmp 1) rfl (w.heap.size) (0) rfl [.slice an b.ns.length cn, .slice at' b.ts.length ct, .slice ab b.bs.length cb, .int .u64 (b.fe : Nat)] _ (HX0.out.range 0) Tryz.underlying27 rfl rfl ?_
  refine wpList_plain rfl fun K hK => ?_
  go_wp2_with fail
  refine HOW.out.mono ?_
  rintro e w1 ⟨v1, v3, v5, m1, m3, rfl, he1, he3, how, hb⟩
  obtain ⟨a1, d1, rfl⟩ := how.hn.slice
  obtain ⟨a3, d3, rfl⟩ := how.ht.slice
  obtain ⟨a5, d5, rfl⟩ := how.hb.slice
  have HX1 : Hid (Hd.Bxn w1 w.heap.size [.slice an b.ns.length cn, .slice at' b.ts.length ct, .slice ab b.bs.length cb, .int .u64 (b.fe : Nat)]) := HX0.out.below hb
  have HB1 : Hid (Below w.heap.size w w1) := HB0.out.trans (hb.mono HB0.out.size)
  have HO1 : Hid (OwnL w1 (w.heap.size + 1) (.slice a1 m1.length d1) (.slice a3 m3.length d3) (.slice a5 b.bs.length d5) m1 m3 b.bs) := how.le (by rw [HZ0.out]; exact Nat.le_refl _)
  have HE1 := Lib.hid he1
  have HE3 := Lib.hid he3
  clear hb how he1 he3 HOW HW HX0 HB0
  refine hK _ _ ?_
  clear hK K
  refine wpList_plain rfl fun K hK => ?_
  go_simp
  refine hK _ _ ?_
  clear hK K
  refine wpList_plain rfl fun K hK => ?_
  go_simp
  refine hK _ _ ?_
  clear hK K
  refine wpList_plain rfl fun K hK => ?_
  go_simp
  refine hK _ _ ?_
  clear hK K
  have hthR := HX1.out.there 4 rfl
  refine wpList_store_mid rfl 27 (.tmp 1) (.tmp 13) rfl (w.heap.size) 0 #[.slice a1 m1.length d1, .slice a3 m3.length d3, .slice a5 b.bs.length d5, .int .u64 (b.fe : Nat)] rfl rfl hthR rfl (all_oneCell_toArray (List.all_eq_true.1 (show List.all ([.slice a1 m1.length d1, .slice a3 m3.length d3, .slice a5 b.bs.length d5, .int .u64 (b.fe : Nat)] : List Value) (fun v => v.oneCell') = true from rfl))) ?_
  rw [show (#[.slice a1 m1.length d1, .slice a3 m3.length d3, .slice a5 b.bs.length d5, .int .u64 (b.fe : Nat)] : Array Value).toList = [.slice a1 m1.length d1, .slice a3 m3.length d3, .slice a5 b.bs.length d5, .int .u64 (b.fe : Nat)] from rfl]
  have HX2 : Hid (Hd.Bxn (w1.setCells w.heap.size 0 [.slice a1 m1.length d1, .slice a3 m3.length d3, .slice a5 b.bs.length d5, .int .u64 (b.fe : Nat)]) w.heap.size [.slice a1 m1.length d1, .slice a3 m3.length d3, .slice a5 b.bs.length d5, .int .u64 (b.fe : Nat)]) := HX1.out.all [.slice a1 m1.length d1, .slice a3 m3.length d3, .slice a5 b.bs.length d5, .int .u64 (b.fe : Nat)] rfl
  have HB2 : Hid (Below w.heap.size w (w1.setCells w.heap.size 0 [.slice a1 m1.length d1, .slice a3 m3.length d3, .slice a5 b.bs.length d5, .int .u64 (b.fe : Nat)])) := below_setCells HB1.out (Nat.le_refl _) _ _
  have HO2 : Hid (OwnL (w1.setCells w.heap.size 0 [.slice a1 m1.length d1, .slice a3 m3.length d3, .slice a5 b.bs.length d5, .int .u64 (b.fe : Nat)]) (w.heap.size + 1) (.slice a1 m1.length d1) (.slice a3 m3.length d3) (.slice a5 b.bs.length d5) m1 m3 b.bs) := ownl_set HO1.out (by omega)
  clear hthR HX1 HB1 HO1 HZ0
  generalize w1.setCells w.heap.size 0 [.slice a1 m1.length d1, .slice a3 m3.length d3, .slice a5 b.bs.length d5, .int .u64 (b.fe : Nat)] = z1 at *
  refine wpList_plain rfl fun K hK => ?_
  go_simp
  refine hK _ _ ?_
  clear hK K
  refine wpList_nil ?_
  have HBK : Hid (Books z1 z1.heap.size (.slice a1 m1.length d1) (.slice a3 m3.length d3) (.slice a5 b.bs.length d5) b) := HO2.out.books HE1.out HE3.out HFI.out
  have HL1 : Hid (m1.length ≤ 4096) := by have h1 := HFI.out.ln; rw [HE1.out, List.length_map] at h1; exact h1
  have HUS : Hid (∀ x ∈ m1, ∀ z, Below z1.heap.size z1 z → Calls Tryz.prog 31 #[.agg #[.slice a1 m1.length d1, .slice a3 m3.length d3, .slice a5 b.bs.length d5, .int .u64 (b.fe : Nat)], .string x.nd.n] z fun e w' => e = .returned (.tuple #[.agg #[.int .i64 (us0 b x.nd.n), .int .i64 (us1 b x.nd.n), .int .i64 (us2 b x.nd.n)], .int .i64 0]) ∧ Below z.heap.size z w') := fun x hx z hz =>
    usedq_ok b _ _ _ x.nd.n z (HBK.out.on hz) HCK.out (by unfold hsN; rw [has_iff, HE1.out, List.map_map]; exact List.mem_map_of_mem hx)
  have q0 : z1.cell? ⟨w.heap.size, 0, none⟩ = some (.slice a1 m1.length d1) := HX2.out.cell 0
  clear hB hc HE3 HBK
  go_wp2
  clear q0
  go_loopg [5, 21] m1.length (fun gg sv i wx => ∃ k : Nat, k + gg = m1.length ∧ i = .int .i64 k ∧ Aside (Own wx z1.heap.size 47 sv ((m1.take k).map (mkL b))) ∧ Aside (Below z1.heap.size z1 wx))
  case atStart => exact ⟨0, by omega, rfl, Own.nil _ _ _, Below.refl _ _⟩
  case round =>
    obtain ⟨k, hkg, rfl, HA, HB⟩ := hrel
    cases gk with
    | zero =>
      obtain rfl : k = m1.length := by omega
      have HO : Hid (Own wr w.heap.size 47 u5 (m1.map (mkL b))) := by have := HA.out; rw [List.take_length] at this; exact this.le HB2.out.size
      have HDN : Hid (∀ x ∈ m1, OwnN wr w.heap.size x) := fun x hx => ((HO2.out.dn x hx).keep HB.out).le (by omega)
      have HBE : Hid (Below w.heap.size w wr) := HB2.out.trans (HB.out.mono HB2.out.size)
      clear hkg HA
      go_wp2
      go_ret2
      exact HR.out _ m1 _ HO.out HE1.out.symm HDN.out HBE.out
    | succ gg =>
      have hlk : k < m1.length := by omega
      have t2 : (k : Int) < (m1.length : Int) := by omega
      have t3 : IntKind.i64.wrap ((k : Int) + 1) = (k : Int) + 1 := by rw [IntKind.wrap_i64]; have := HL1.out; omega
      obtain ⟨g, cap, hv, hbg, hgl, hat, -⟩ := HO2.out.hn.form (by omega)
      simp only [Value.slice.injEq, true_and] at hv
      obtain ⟨rfl, rfl⟩ := hv
      have hatk : At z1 g (k * 6) m1[k] := hat k hlk
      obtain ⟨d0', d1', d2', d3', d4', d5'⟩ := at_nd hatk
      have e0 := (HB.out.cell (by exact hgl)).trans d0'
      have e1 := (HB.out.cell (by exact hgl)).trans d1'
      have e2 := (HB.out.cell (by exact hgl)).trans d2'
      have e3 := (HB.out.cell (by exact hgl)).trans d3'
      have e4 := (HB.out.cell (by exact hgl)).trans d4'
      have e5 := (HB.out.cell (by exact hgl)).trans d5'
      have HXR := Lib.hid (HX2.out.below HB.out)
      have HUX := Lib.hid (HUS.out m1[k] (List.getElem_mem hlk))
      have HTK : Hid ((m1.take (k + 1)).map (mkL b) = (m1.take k).map (mkL b) ++ [mkL b m1[k]]) := by show _ = _; rw [List.take_succ_eq_append_getElem hlk, List.map_append]; rfl
      have hlt : ((m1.take k).map (mkL b)).length + 1 ≤ 4096 := by rw [List.length_map, List.length_take]; have := HL1.out; omega
      have HMX : Hid (((m1.take k).map (mkL b)).length + 1 ≤ maxLen) := by show _ ≤ _; unfold maxLen; omega
      have HBY : Hid ((((m1.take k).map (mkL b)).length + 1) * 112 ≤ 140737488355328) := by show _ ≤ _; omega
      have HKG := Lib.hid hkg
      clear d0' d1' d2' d3' d4' d5' hatk hat hbg hgl hlt hkg
      generalize m1[k] = x at *
      have HSN : Hid (∀ (w5 : World) (v4 : Value), w5.ownsRow z1.heap.size 47 9 v4 (((m1.take k).map (mkL b)).length + 1) (flat ((m1.take k).map (mkL b)) ++ ldE (mkL b x)) → Own w5 z1.heap.size 47 v4 ((m1.take k).map (mkL b) ++ [mkL b x])) := fun w5 v4 h => Own.snoc (x := mkL b x) h
      have HLE : Hid (ldE (mkL b x) = [.string x.nd.n, .int .i64 x.nd.z0, .int .i64 x.nd.z1, .int .i64 x.nd.z2, .slice x.a2 x.nd.ls.length x.c2, .slice x.a3 x.nd.ts.length x.c3, .int .i64 (us0 b x.nd.n), .int .i64 (us1 b x.nd.n), .int .i64 (us2 b x.nd.n)]) := rfl
      have HON1 : Hid (∀ u ∈ ldE (mkL b x), u.oneCell' = true) := ldE_one _
      rw [HLE.out] at HSN HON1
      have HSN2 : Hid (∀ (w5 : World) (v4 : Value), w5.ownsRow z1.heap.size 47 9 v4 (((m1.take k).map (mkL b)).length + 1) (flat ((m1.take k).map (mkL b)) ++ [.string x.nd.n, .int .i64 x.nd.z0, .int .i64 x.nd.z1, .int .i64 x.nd.z2, .slice x.a2 x.nd.ls.length x.c2, .slice x.a3 x.nd.ts.length x.c3, .int .i64 (us0 b x.nd.n), .int .i64 (us1 b x.nd.n), .int .i64 (us2 b x.nd.n)]) → Own w5 z1.heap.size 47 v4 ((m1.take (k + 1)).map (mkL b))) := by rw [HTK.out]; exact HSN
      clear HSN HLE HTK
      generalize us0 b x.nd.n = u0 at *
      generalize us1 b x.nd.n = u1 at *
      generalize us2 b x.nd.n = u2 at *
      generalize x.nd.ls.length = n1 at *
      generalize x.nd.ts.length = n2 at *
      have HAO : Hid (Own wr z1.heap.size 47 u5 ((m1.take k).map (mkL b))) := HA.out
      clear HA
      generalize (m1.take k).map (mkL b) = ls at *
      obtain ⟨wy, hwy⟩ : ∃ wy, wy = wr.alloc (.cells #[.string x.nd.n, .int .i64 x.nd.z0, .int .i64 x.nd.z1, .int .i64 x.nd.z2, .slice x.a2 n1 x.c2, .slice x.a3 n2 x.c3] 45) := ⟨_, rfl⟩
      have HNX : Hid (Hd.Bxn wy wr.heap.size [.string x.nd.n, .int .i64 x.nd.z0, .int .i64 x.nd.z1, .int .i64 x.nd.z2, .slice x.a2 n1 x.c2, .slice x.a3 n2 x.c3]) := by rw [hwy]; exact Hd.Bxn.made wr _ _
      have HYB : Hid (Below wr.heap.size wr wy) := by rw [hwy]; exact al _ _
      have HWY := Lib.hid hwy
      clear hwy
      go_upto_region 8 with fail
      rw [← HWY.out]
      clear e0 e1 e2 e3 e4 e5
      have HXY := Lib.hid (HXR.out.below HYB.out)
      have HB3 : Hid (Below z1.heap.size z1 wy) := HB.out.trans (HYB.out.mono HB.out.size)
      have HOY := Lib.hid (HAO.out.keep HYB.out)
      have q0 : wy.cell? ⟨w.heap.size, 0, none⟩ = some (.slice (some ⟨g, 0, none⟩) m1.length d1) := HXY.out.cell 0
      have q1 : wy.cell? ⟨w.heap.size, 1, none⟩ = some (.slice a3 m3.length d3) := HXY.out.cell 1
      have q2 : wy.cell? ⟨w.heap.size, 2, none⟩ = some (.slice a5 b.bs.length d5) := HXY.out.cell 2
      have q3 : wy.cell? ⟨w.heap.size, 3, none⟩ = some (.int .u64 (b.fe : Nat)) := HXY.out.cell 3
      have n0 : wy.cell? ⟨wr.heap.size, 0, none⟩ = some (.string x.nd.n) := HNX.out.cell 0
      clear HWY HXR HB HAO HYB
      go_wp2_with fail
      refine (HUX.out wy HB3.out).mono ?_
      rintro e w2 ⟨rfl, hb⟩
      have HNZ := Lib.hid (HNX.out.below hb)
      have HB4 : Hid (Below z1.heap.size z1 w2) := HB3.out.trans (hb.mono HB3.out.size)
      have HOZ := Lib.hid (HOY.out.keep hb)
      clear hb q0 q1 q2 q3 n0 HNX HB3 HOY HXY HUX
      have HNA := Lib.hid (HNZ.out.below (al w2 (.cells #[.int .i64 u0, .int .i64 u1, .int .i64 u2] 39)))
      have n0 : (w2.alloc (.cells #[.int .i64 u0, .int .i64 u1, .int .i64 u2] 39)).cell? ⟨wr.heap.size, 0, none⟩ = some (.string x.nd.n) := HNA.out.cell 0
      have n1' : (w2.alloc (.cells #[.int .i64 u0, .int .i64 u1, .int .i64 u2] 39)).cell? ⟨wr.heap.size, 1, none⟩ = some (.int .i64 x.nd.z0) := HNA.out.cell 1
      have n2' : (w2.alloc (.cells #[.int .i64 u0, .int .i64 u1, .int .i64 u2] 39)).cell? ⟨wr.heap.size, 2, none⟩ = some (.int .i64 x.nd.z1) := HNA.out.cell 2
      have n3' : (w2.alloc (.cells #[.int .i64 u0, .int .i64 u1, .int .i64 u2] 39)).cell? ⟨wr.heap.size, 3, none⟩ = some (.int .i64 x.nd.z2) := HNA.out.cell 3
      have n4' : (w2.alloc (.cells #[.int .i64 u0, .int .i64 u1, .int .i64 u2] 39)).cell? ⟨wr.heap.size, 4, none⟩ = some (.slice x.a2 n1 x.c2) := HNA.out.cell 4
      have n5' : (w2.alloc (.cells #[.int .i64 u0, .int .i64 u1, .int .i64 u2] 39)).cell? ⟨wr.heap.size, 5, none⟩ = some (.slice x.a3 n2 x.c3) := HNA.out.cell 5
      have hbx : Below w2.heap.size w2 ((w2.alloc (.cells #[.int .i64 u0, .int .i64 u1, .int .i64 u2] 39)).alloc (.cells #[.string x.nd.n, .int .i64 x.nd.z0, .int .i64 x.nd.z1, .int .i64 x.nd.z2, .slice x.a2 n1 x.c2, .slice x.a3 n2 x.c3, .int .i64 u0, .int .i64 u1, .int .i64 u2] 47)) := (al w2 _).alloc (by simp) _
      have HB5 : Hid (Below z1.heap.size z1 ((w2.alloc (.cells #[.int .i64 u0, .int .i64 u1, .int .i64 u2] 39)).alloc (.cells #[.string x.nd.n, .int .i64 x.nd.z0, .int .i64 x.nd.z1, .int .i64 x.nd.z2, .slice x.a2 n1 x.c2, .slice x.a3 n2 x.c3, .int .i64 u0, .int .i64 u1, .int .i64 u2] 47))) := HB4.out.trans (hbx.mono HB4.out.size)
      have HO5 := Lib.hid (HOZ.out.keep hbx)
      have HOL := Lib.hid HO5.out.lt
      have HN5 : Hid (∀ j u, ([.string x.nd.n, .int .i64 x.nd.z0, .int .i64 x.nd.z1, .int .i64 x.nd.z2, .slice x.a2 n1 x.c2, .slice x.a3 n2 x.c3, .int .i64 u0, .int .i64 u1, .int .i64 u2] : List Value)[j]? = some u → ((w2.alloc (.cells #[.int .i64 u0, .int .i64 u1, .int .i64 u2] 39)).alloc (.cells #[.string x.nd.n, .int .i64 x.nd.z0, .int .i64 x.nd.z1, .int .i64 x.nd.z2, .slice x.a2 n1 x.c2, .slice x.a3 n2 x.c3, .int .i64 u0, .int .i64 u1, .int .i64 u2] 47)).cell? ((⟨w2.heap.size + 1, 0, none⟩ : Addr).add j) = some u) := by
        have := Rg.news_new (w2.alloc (.cells #[.int .i64 u0, .int .i64 u1, .int .i64 u2] 39)) 47 [.string x.nd.n, .int .i64 x.nd.z0, .int .i64 x.nd.z1, .int .i64 x.nd.z2, .slice x.a2 n1 x.c2, .slice x.a3 n2 x.c3, .int .i64 u0, .int .i64 u1, .int .i64 u2]
        rw [World.size_alloc] at this
        exact this
      have HSZ : Hid (z1.heap.size ≤ ((w2.alloc (.cells #[.int .i64 u0, .int .i64 u1, .int .i64 u2] 39)).alloc (.cells #[.string x.nd.n, .int .i64 x.nd.z0, .int .i64 x.nd.z1, .int .i64 x.nd.z2, .slice x.a2 n1 x.c2, .slice x.a3 n2 x.c3, .int .i64 u0, .int .i64 u1, .int .i64 u2] 47)).heap.size) := HB5.out.size
      clear hbx HNA HNZ HOZ
      go_wp2_with (at_builtin; (refine wpList_append_own_at _ rfl _ _ 31 rfl z1.heap.size 47 i0 _ 9 112 Tryz.underlying31 hi hq0 hq1 hq2 rfl (by omega) _ _ _ rfl HO5.out ⟨w2.heap.size + 1, 0, none⟩ 1 1 [.string x.nd.n, .int .i64 x.nd.z0, .int .i64 x.nd.z1, .int .i64 x.nd.z2, .slice x.a2 n1 x.c2, .slice x.a3 n2 x.c3, .int .i64 u0, .int .i64 u1, .int .i64 u2] rfl rfl HN5.out HON1.out HMX.out HBY.out HSZ.out ?_); intro v4 w5 hown hg5 hnil hob; have HO6 := Lib.hid (HSN2.out _ _ hown); have HB6 : Hid (Below z1.heap.size z1 w5) := (HB5.out.grown hg5 HB5.out.size (fun g hg => (HOL.out g hg).1)); clear hown hg5 hnil hob)
      go_wp2
      go_roundg gg
      case measure => omega
      case rel => exact ⟨k + 1, by have := HKG.out; omega, by simp, HO6.out, HB6.out⟩
theorem loads_any (b : Bk) (vn vt vb : Value) (w : World) (hB : Books w w.heap.size vn vt vb b) : Calls Tryz.prog 14 #[.agg #[vn, vt, vb, .int .u64 (b.fe : Nat)]] w (LoadIs b w) := by
  cases hc : chkB b
  · exact loads_no b vn vt vb w hB hc
  · exact loads_ok b vn vt vb w hB hc
end Bo
end Go.Proofs.YthbmnkeigmbbdaaGreat

/-
  WHERE A TASK CAN BE: queue.Free.
-/
namespace Go.Proofs.YthbmnkeigmbbdaaGreat
open Go.RowKit Go.Lib
namespace Bo
open Rw
set_option linter.unusedVariables false
theorem str_one (x : ByteArray) : ∀ u ∈ ([.string x] : List Value), u.oneCell' = true := by
  intro u hu
  rw [List.mem_singleton.1 hu]
  rfl
instance : Rw.Flat ByteArray := ⟨fun x => [.string x], 1, by omega, fun _ => rfl, str_one⟩
theorem info_str : (Tryz.prog.info? 9).map (fun i => (i.zero, i.size, i.bytes)) = some (some (.string ByteArray.empty), 1, 16) := by kernel_rfl
def frE (b : Bk) (k : ByteArray) : Nat := if chkB b = true then (if hasK (b.ts.map (·.n)) k = true then (if hasK (b.bs.map (·.k)) k = true then 7 else 0) else 6) else 10
def frL (b : Bk) (k : ByteArray) (l : List ByteArray) : List ByteArray := l.filter (fun v => decide (canE b k v = 0))
def frV (b : Bk) (k : ByteArray) : List ByteArray := if frE b k = 0 then frL b k (b.ns.map (·.n)) else []
/-- What is told of where a task can be. -/
def FreeIs (b : Bk) (k : ByteArray) (w : World) (e : Ending) (w' : World) : Prop := ∃ v : Value, e = .returned (.tuple #[v, .int .i64 (frE b k : Nat)]) ∧ Own w' w.heap.size 9 v (frV b k) ∧ Below w.heap.size w w'
set_option maxHeartbeats 1000000 in
set_option maxRecDepth 100000 in
theorem free1 (k : ByteArray) (g : Nat) (x : TdM) (w z : World) (hg : w.cell? ⟨g, 0, none⟩ = some (.string k)) (hz : Below w.heap.size w z) :
    Calls Tryz.prog 46 #[.agg #[.string x.td.n, .int .i64 x.td.z0, .int .i64 x.td.z1, .int .i64 x.td.z2, .slice x.a4 x.td.ws.length x.c4, .slice x.a5 x.td.bs.length x.c5, .string x.td.g, .string x.td.a, .int .i64 x.td.r], .pointer (some ⟨g, 0, none⟩)] z fun e z' => e = .returned (.bool (decide (x.td.n = k))) ∧ Below z.heap.size z z' := by
  have hgl := World.block_lt_of_cell? w _ hg
  have h1 : (z.alloc (.cells #[.string x.td.n, .int .i64 x.td.z0, .int .i64 x.td.z1, .int .i64 x.td.z2, .slice x.a4 x.td.ws.length x.c4, .slice x.a5 x.td.bs.length x.c5, .string x.td.g, .string x.td.a, .int .i64 x.td.r] 42)).cell? ⟨g, 0, none⟩ = some (.string k) := cell_old _ ((hz.cell (by exact hgl)).trans hg)
  have HE : Hid (decide (x.td.n = k) = (x.td.n.toList == k.toList)) := by
    show _ = _
    rw [Bool.eq_iff_iff, decide_eq_true_eq, beq_iff_eq]
    exact ⟨fun e => by rw [e], fun e => Hd.ba_ext e⟩
  have HB := Lib.hid (al z (.cells #[.string x.td.n, .int .i64 x.td.z0, .int .i64 x.td.z1, .int .i64 x.td.z2, .slice x.a4 x.td.ws.length x.c4, .slice x.a5 x.td.bs.length x.c5, .string x.td.g, .string x.td.a, .int .i64 x.td.r] 42))
  clear hg hz hgl
  go_enter Tryz.func46, Tryz.ntmps46
  go_wp2
  go_ret
  exact ⟨by rw [HE.out]; rfl, HB.out⟩
set_option maxRecDepth 100000 in
set_option maxHeartbeats 4000000 in
theorem free_no (b : Bk) (vn vt vb : Value) (k : ByteArray) (w : World) (hB : Books w w.heap.size vn vt vb b) (hc : chkB b = false) : Calls Tryz.prog 16 #[.agg #[vn, vt, vb, .int .u64 (b.fe : Nat)], .string k] w (FreeIs b k w) := by
  have hf : frE b k = 10 ∧ frV b k = [] := by
    have h : frE b k = 10 := by unfold frE; rw [hc, if_neg (by decide)]
    exact ⟨h, by unfold frV; rw [h]; rfl⟩
  have HR : Hid (∀ w', Below w.heap.size w w' → FreeIs b k w (.returned (.tuple #[.slice none 0 0, .int .i64 10])) w') := fun w' h => ⟨.slice none 0 0, by rw [hf.1]; rfl, by rw [hf.2]; exact Own.nil _ _ _, h⟩
  have hE : ∀ args z, (callFunc 46 args).run Tryz.prog z = .ok (.enter 46 args) z := enters_of Tryz.func46 (by kernel_rfl) rfl
  obtain ⟨W0, hW0⟩ : ∃ W0, W0 = (w.alloc (.cells #[vn, vt, vb, .int .u64 (b.fe : Nat)] 27)).alloc (.cells #[.string k] 9) := ⟨_, rfl⟩
  have hb0 : Below w.heap.size w W0 := by rw [hW0]; exact (al w _).trans ((al _ _).mono (by simp))
  have hk : W0.cell? ⟨w.heap.size + 1, 0, none⟩ = some (.string k) := by
    rw [hW0]
    have := cell_new (w.alloc (.cells #[vn, vt, vb, .int .u64 (b.fe : Nat)] 27)) (.string k) 9
    rw [World.size_alloc] at this
    exact this
  have hx0 : Hd.Bxn W0 w.heap.size [vn, vt, vb, .int .u64 (b.fe : Nat)] := by rw [hW0]; exact (Hd.Bxn.made w _ _).below (al _ _)
  have hkx : Hd.Bxn W0 (w.heap.size + 1) [.string k] := by
    rw [hW0]
    have := Hd.Bxn.made (w.alloc (.cells #[vn, vt, vb, .int .u64 (b.fe : Nat)] 27)) [.string k] 9
    rwa [World.size_alloc] at this
  have HCK : Hid (Calls Tryz.prog 28 #[.agg #[vn, vt, vb, .int .u64 (b.fe : Nat)]] W0 fun e w' => e = .returned (.int .i64 10) ∧ Below W0.heap.size W0 w') := by
    have h := check_any b vn vt vb W0 (hB.on hb0)
    rw [hc] at h
    exact h
  obtain ⟨an, cn, hvn⟩ := hB.hn.slice
  obtain ⟨at', ct, hvt⟩ := hB.ht.slice
  obtain ⟨ab, cb, hvb⟩ := hB.hb.slice
  subst hvn hvt hvb
  have HW := Lib.hid hW0
  have HX0 : Hid (Hd.Bxn W0 w.heap.size [.slice an b.ns.length cn, .slice at' b.ts.length ct, .slice ab b.bs.length cb, .int .u64 (b.fe : Nat)]) := hx0
  have HK0 := Lib.hid hkx
  have HB0 := Lib.hid hb0
  clear hW0 hb0 hx0 hkx hk
  clear hf hE
  go_enter Tryz.func16, Tryz.ntmps16
  go_upto_region 1 with fail
  rw [← HW.out]
  have b0 : W0.cell? ⟨w.heap.size, 0, none⟩ = some (.slice an b.ns.length cn) := HX0.out.cell 0
  have b1 : W0.cell? ⟨w.heap.size, 1, none⟩ = some (.slice at' b.ts.length ct) := HX0.out.cell 1
  have b2 : W0.cell? ⟨w.heap.size, 2, none⟩ = some (.slice ab b.bs.length cb) := HX0.out.cell 2
  have b3 : W0.cell? ⟨w.heap.size, 3, none⟩ = some (.int .u64 (b.fe : Nat)) := HX0.out.cell 3
  go_wp2_with fail
  refine HCK.out.mono ?_
  rintro e w1 ⟨rfl, hb⟩
  have HU1 : Hid (Below W0.heap.size W0 w1) := hb
  have H1 : Hid (Below w.heap.size w w1) := HB0.out.trans (hb.mono HB0.out.size)
  have HX1 := Lib.hid (HX0.out.below hb)
  have HK1 := Lib.hid (HK0.out.below hb)
  clear hb b0 b1 b2 b3 HX0 HK0 HCK HW
  clear hc
  clear hB
  go_wp2
  go_ret2
  exact HR.out _ H1.out
set_option maxRecDepth 100000 in
set_option maxHeartbeats 4000000 in
theorem free_none (b : Bk) (vn vt vb : Value) (k : ByteArray) (w : World) (hB : Books w w.heap.size vn vt vb b) (hc : chkB b = true) (hh : hasK (b.ts.map (·.n)) k = false) : Calls Tryz.prog 16 #[.agg #[vn, vt, vb, .int .u64 (b.fe : Nat)], .string k] w (FreeIs b k w) := by
  have hf : frE b k = 6 ∧ frV b k = [] := by
    have h : frE b k = 6 := by unfold frE; rw [hc, if_pos rfl, hh, if_neg (by decide)]
    exact ⟨h, by unfold frV; rw [h]; rfl⟩
  have HR : Hid (∀ w', Below w.heap.size w w' → FreeIs b k w (.returned (.tuple #[.slice none 0 0, .int .i64 6])) w') := fun w' h => ⟨.slice none 0 0, by rw [hf.1]; rfl, by rw [hf.2]; exact Own.nil _ _ _, h⟩
  have hE : ∀ args z, (callFunc 46 args).run Tryz.prog z = .ok (.enter 46 args) z := enters_of Tryz.func46 (by kernel_rfl) rfl
  obtain ⟨W0, hW0⟩ : ∃ W0, W0 = (w.alloc (.cells #[vn, vt, vb, .int .u64 (b.fe : Nat)] 27)).alloc (.cells #[.string k] 9) := ⟨_, rfl⟩
  have hb0 : Below w.heap.size w W0 := by rw [hW0]; exact (al w _).trans ((al _ _).mono (by simp))
  have hk : W0.cell? ⟨w.heap.size + 1, 0, none⟩ = some (.string k) := by
    rw [hW0]
    have := cell_new (w.alloc (.cells #[vn, vt, vb, .int .u64 (b.fe : Nat)] 27)) (.string k) 9
    rw [World.size_alloc] at this
    exact this
  have hx0 : Hd.Bxn W0 w.heap.size [vn, vt, vb, .int .u64 (b.fe : Nat)] := by rw [hW0]; exact (Hd.Bxn.made w _ _).below (al _ _)
  have hkx : Hd.Bxn W0 (w.heap.size + 1) [.string k] := by
    rw [hW0]
    have := Hd.Bxn.made (w.alloc (.cells #[vn, vt, vb, .int .u64 (b.fe : Nat)] 27)) [.string k] 9
    rwa [World.size_alloc] at this
  have HCK : Hid (Calls Tryz.prog 28 #[.agg #[vn, vt, vb, .int .u64 (b.fe : Nat)]] W0 fun e w' => e = .returned (.int .i64 0) ∧ Below W0.heap.size W0 w') := by
    have h := check_any b vn vt vb W0 (hB.on hb0)
    rw [hc] at h
    exact h
  have HCT : Hid (∀ z, Below W0.heap.size W0 z → Calls Tryz.prog 45 #[vt, .func (.func 46) #[] #[.pointer (some ⟨w.heap.size + 1, 0, none⟩)]] z fun e w' => e = .returned (.bool false) ∧ Below z.heap.size z w') := fun z hz => by
    obtain ⟨m, hm, hsm, -⟩ := hB.ht
    refine (contains_t 46 hE (.pointer (some ⟨w.heap.size + 1, 0, none⟩)) (fun x => decide (x.td.n = k)) vt m z (hsm.on (hb0.trans (hz.mono hb0.size))) (fun x _ y hy => free1 k _ x W0 y hk (hz.trans (hy.mono hz.size)))).mono ?_
    rintro e w' ⟨he, hb⟩
    refine ⟨?_, hb⟩
    rw [he, ← hh, hm]
    unfold hasK
    rw [List.any_map, List.any_map]
    rfl
  obtain ⟨an, cn, hvn⟩ := hB.hn.slice
  obtain ⟨at', ct, hvt⟩ := hB.ht.slice
  obtain ⟨ab, cb, hvb⟩ := hB.hb.slice
  subst hvn hvt hvb
  have HW := Lib.hid hW0
  have HX0 : Hid (Hd.Bxn W0 w.heap.size [.slice an b.ns.length cn, .slice at' b.ts.length ct, .slice ab b.bs.length cb, .int .u64 (b.fe : Nat)]) := hx0
  have HK0 := Lib.hid hkx
  have HB0 := Lib.hid hb0
  clear hW0 hb0 hx0 hkx hk
  clear hf hE
  go_enter Tryz.func16, Tryz.ntmps16
  go_upto_region 1 with fail
  rw [← HW.out]
  have b0 : W0.cell? ⟨w.heap.size, 0, none⟩ = some (.slice an b.ns.length cn) := HX0.out.cell 0
  have b1 : W0.cell? ⟨w.heap.size, 1, none⟩ = some (.slice at' b.ts.length ct) := HX0.out.cell 1
  have b2 : W0.cell? ⟨w.heap.size, 2, none⟩ = some (.slice ab b.bs.length cb) := HX0.out.cell 2
  have b3 : W0.cell? ⟨w.heap.size, 3, none⟩ = some (.int .u64 (b.fe : Nat)) := HX0.out.cell 3
  go_wp2_with fail
  refine HCK.out.mono ?_
  rintro e w1 ⟨rfl, hb⟩
  have HU1 : Hid (Below W0.heap.size W0 w1) := hb
  have H1 : Hid (Below w.heap.size w w1) := HB0.out.trans (hb.mono HB0.out.size)
  have HX1 := Lib.hid (HX0.out.below hb)
  have HK1 := Lib.hid (HK0.out.below hb)
  clear hb b0 b1 b2 b3 HX0 HK0 HCK HW
  clear hc hh
  have c1 : w1.cell? ⟨w.heap.size, 1, none⟩ = some (.slice at' b.ts.length ct) := HX1.out.cell 1
  go_wp2_with fail
  refine (HCT.out w1 HU1.out).mono ?_
  rintro e w2 ⟨rfl, hb⟩
  have H2 : Hid (Below w.heap.size w w2) := H1.out.trans (hb.mono H1.out.size)
  have HX2 := Lib.hid (HX1.out.below hb)
  have HK2 := Lib.hid (HK1.out.below hb)
  clear hb c1 HX1 HK1 HCT H1 HU1
  clear hB
  go_wp2
  go_ret2
  exact HR.out _ H2.out
set_option maxRecDepth 100000 in
set_option maxHeartbeats 4000000 in
theorem free_on (b : Bk) (vn vt vb : Value) (k : ByteArray) (w : World) (hB : Books w w.heap.size vn vt vb b) (hc : chkB b = true) (hh : hasK (b.ts.map (·.n)) k = true) (ho : hasK (b.bs.map (·.k)) k = true) : Calls Tryz.prog 16 #[.agg #[vn, vt, vb, .int .u64 (b.fe : Nat)], .string k] w (FreeIs b k w) := by
  have hf : frE b k = 7 ∧ frV b k = [] := by
    have h : frE b k = 7 := by unfold frE; rw [hc, if_pos rfl, hh, if_pos rfl, ho, if_pos rfl]
    exact ⟨h, by unfold frV; rw [h]; rfl⟩
  have HR : Hid (∀ w', Below w.heap.size w w' → FreeIs b k w (.returned (.tuple #[.slice none 0 0, .int .i64 7])) w') := fun w' h => ⟨.slice none 0 0, by rw [hf.1]; rfl, by rw [hf.2]; exact Own.nil _ _ _, h⟩
  have hE : ∀ args z, (callFunc 46 args).run Tryz.prog z = .ok (.enter 46 args) z := enters_of Tryz.func46 (by kernel_rfl) rfl
  obtain ⟨W0, hW0⟩ : ∃ W0, W0 = (w.alloc (.cells #[vn, vt, vb, .int .u64 (b.fe : Nat)] 27)).alloc (.cells #[.string k] 9) := ⟨_, rfl⟩
  have hb0 : Below w.heap.size w W0 := by rw [hW0]; exact (al w _).trans ((al _ _).mono (by simp))
  have hk : W0.cell? ⟨w.heap.size + 1, 0, none⟩ = some (.string k) := by
    rw [hW0]
    have := cell_new (w.alloc (.cells #[vn, vt, vb, .int .u64 (b.fe : Nat)] 27)) (.string k) 9
    rw [World.size_alloc] at this
    exact this
  have hx0 : Hd.Bxn W0 w.heap.size [vn, vt, vb, .int .u64 (b.fe : Nat)] := by rw [hW0]; exact (Hd.Bxn.made w _ _).below (al _ _)
  have hkx : Hd.Bxn W0 (w.heap.size + 1) [.string k] := by
    rw [hW0]
    have := Hd.Bxn.made (w.alloc (.cells #[vn, vt, vb, .int .u64 (b.fe : Nat)] 27)) [.string k] 9
    rwa [World.size_alloc] at this
  have HCK : Hid (Calls Tryz.prog 28 #[.agg #[vn, vt, vb, .int .u64 (b.fe : Nat)]] W0 fun e w' => e = .returned (.int .i64 0) ∧ Below W0.heap.size W0 w') := by
    have h := check_any b vn vt vb W0 (hB.on hb0)
    rw [hc] at h
    exact h
  have HCT : Hid (∀ z, Below W0.heap.size W0 z → Calls Tryz.prog 45 #[vt, .func (.func 46) #[] #[.pointer (some ⟨w.heap.size + 1, 0, none⟩)]] z fun e w' => e = .returned (.bool true) ∧ Below z.heap.size z w') := fun z hz => by
    obtain ⟨m, hm, hsm, -⟩ := hB.ht
    refine (contains_t 46 hE (.pointer (some ⟨w.heap.size + 1, 0, none⟩)) (fun x => decide (x.td.n = k)) vt m z (hsm.on (hb0.trans (hz.mono hb0.size))) (fun x _ y hy => free1 k _ x W0 y hk (hz.trans (hy.mono hz.size)))).mono ?_
    rintro e w' ⟨he, hb⟩
    refine ⟨?_, hb⟩
    rw [he, ← hh, hm]
    unfold hasK
    rw [List.any_map, List.any_map]
    rfl
  have HIO : Hid (∀ z, Below w.heap.size w z → Calls Tryz.prog 47 #[.agg #[vn, vt, vb, .int .u64 (b.fe : Nat)], .string k] z fun e w' => e = .returned (.bool true) ∧ Below z.heap.size z w') := fun z hz => by
    have h := isOn_any b vn vt vb k z (hB.on hz)
    rw [ho] at h
    exact h
  obtain ⟨an, cn, hvn⟩ := hB.hn.slice
  obtain ⟨at', ct, hvt⟩ := hB.ht.slice
  obtain ⟨ab, cb, hvb⟩ := hB.hb.slice
  subst hvn hvt hvb
  have HW := Lib.hid hW0
  have HX0 : Hid (Hd.Bxn W0 w.heap.size [.slice an b.ns.length cn, .slice at' b.ts.length ct, .slice ab b.bs.length cb, .int .u64 (b.fe : Nat)]) := hx0
  have HK0 := Lib.hid hkx
  have HB0 := Lib.hid hb0
  clear hW0 hb0 hx0 hkx hk
  clear hf hE
  go_enter Tryz.func16, Tryz.ntmps16
  go_upto_region 1 with fail
  rw [← HW.out]
  have b0 : W0.cell? ⟨w.heap.size, 0, none⟩ = some (.slice an b.ns.length cn) := HX0.out.cell 0
  have b1 : W0.cell? ⟨w.heap.size, 1, none⟩ = some (.slice at' b.ts.length ct) := HX0.out.cell 1
  have b2 : W0.cell? ⟨w.heap.size, 2, none⟩ = some (.slice ab b.bs.length cb) := HX0.out.cell 2
  have b3 : W0.cell? ⟨w.heap.size, 3, none⟩ = some (.int .u64 (b.fe : Nat)) := HX0.out.cell 3
  go_wp2_with fail
  refine HCK.out.mono ?_
  rintro e w1 ⟨rfl, hb⟩
  have HU1 : Hid (Below W0.heap.size W0 w1) := hb
  have H1 : Hid (Below w.heap.size w w1) := HB0.out.trans (hb.mono HB0.out.size)
  have HX1 := Lib.hid (HX0.out.below hb)
  have HK1 := Lib.hid (HK0.out.below hb)
  clear hb b0 b1 b2 b3 HX0 HK0 HCK HW
  clear hc hh ho
  have c1 : w1.cell? ⟨w.heap.size, 1, none⟩ = some (.slice at' b.ts.length ct) := HX1.out.cell 1
  go_wp2_with fail
  refine (HCT.out w1 HU1.out).mono ?_
  rintro e w2 ⟨rfl, hb⟩
  have H2 : Hid (Below w.heap.size w w2) := H1.out.trans (hb.mono H1.out.size)
  have HX2 := Lib.hid (HX1.out.below hb)
  have HK2 := Lib.hid (HK1.out.below hb)
  clear hb c1 HX1 HK1 HCT H1 HU1
  have c0 : w2.cell? ⟨w.heap.size, 0, none⟩ = some (.slice an b.ns.length cn) := HX2.out.cell 0
  have c1 : w2.cell? ⟨w.heap.size, 1, none⟩ = some (.slice at' b.ts.length ct) := HX2.out.cell 1
  have c2 : w2.cell? ⟨w.heap.size, 2, none⟩ = some (.slice ab b.bs.length cb) := HX2.out.cell 2
  have c3 : w2.cell? ⟨w.heap.size, 3, none⟩ = some (.int .u64 (b.fe : Nat)) := HX2.out.cell 3
  have c4 : w2.cell? ⟨w.heap.size + 1, 0, none⟩ = some (.string k) := HK2.out.cell 0
  go_wp2_with fail
  refine (HIO.out w2 H2.out).mono ?_
  rintro e w3 ⟨rfl, hb⟩
  have H3 : Hid (Below w.heap.size w w3) := H2.out.trans (hb.mono H2.out.size)
  have HX3 := Lib.hid (HX2.out.below hb)
  have HK3 := Lib.hid (HK2.out.below hb)
  clear hb c0 c1 c2 c3 c4 HX2 HK2 HIO H2
  clear hB
  go_wp2
  go_ret2
  exact HR.out _ H3.out
set_option maxRecDepth 100000 in
set_option maxHeartbeats 4000000 in
theorem free_ok (b : Bk) (vn vt vb : Value) (k : ByteArray) (w : World) (hB : Books w w.heap.size vn vt vb b) (hc : chkB b = true) (hh : hasK (b.ts.map (·.n)) k = true) (ho : hasK (b.bs.map (·.k)) k = false) : Calls Tryz.prog 16 #[.agg #[vn, vt, vb, .int .u64 (b.fe : Nat)], .string k] w (FreeIs b k w) := by
  obtain ⟨i0, hi, hq0, hq1, hq2⟩ := info_parts info_str
  have hf : frE b k = 0 := by unfold frE; rw [hc, if_pos rfl, hh, if_pos rfl, ho, if_neg (by decide)]
  have HR : Hid (∀ (v : Value) (w' : World), Own w' w.heap.size 9 v (frL b k (b.ns.map (·.n))) → Below w.heap.size w w' → FreeIs b k w (.returned (.tuple #[v, .int .i64 0])) w') := fun v w' h1 h => ⟨v, by rw [hf]; rfl, by unfold frV; rw [hf, if_pos rfl]; exact h1, h⟩
  have HFI := Lib.hid (hB.fine hc)
  have hE : ∀ args z, (callFunc 46 args).run Tryz.prog z = .ok (.enter 46 args) z := enters_of Tryz.func46 (by kernel_rfl) rfl
  obtain ⟨W0, hW0⟩ : ∃ W0, W0 = (w.alloc (.cells #[vn, vt, vb, .int .u64 (b.fe : Nat)] 27)).alloc (.cells #[.string k] 9) := ⟨_, rfl⟩
  have hb0 : Below w.heap.size w W0 := by rw [hW0]; exact (al w _).trans ((al _ _).mono (by simp))
  have hk : W0.cell? ⟨w.heap.size + 1, 0, none⟩ = some (.string k) := by
    rw [hW0]
    have := cell_new (w.alloc (.cells #[vn, vt, vb, .int .u64 (b.fe : Nat)] 27)) (.string k) 9
    rw [World.size_alloc] at this
    exact this
  have hx0 : Hd.Bxn W0 w.heap.size [vn, vt, vb, .int .u64 (b.fe : Nat)] := by rw [hW0]; exact (Hd.Bxn.made w _ _).below (al _ _)
  have hkx : Hd.Bxn W0 (w.heap.size + 1) [.string k] := by
    rw [hW0]
    have := Hd.Bxn.made (w.alloc (.cells #[vn, vt, vb, .int .u64 (b.fe : Nat)] 27)) [.string k] 9
    rwa [World.size_alloc] at this
  have HCK : Hid (Calls Tryz.prog 28 #[.agg #[vn, vt, vb, .int .u64 (b.fe : Nat)]] W0 fun e w' => e = .returned (.int .i64 0) ∧ Below W0.heap.size W0 w') := by
    have h := check_any b vn vt vb W0 (hB.on hb0)
    rw [hc] at h
    exact h
  have HCT : Hid (∀ z, Below W0.heap.size W0 z → Calls Tryz.prog 45 #[vt, .func (.func 46) #[] #[.pointer (some ⟨w.heap.size + 1, 0, none⟩)]] z fun e w' => e = .returned (.bool true) ∧ Below z.heap.size z w') := fun z hz => by
    obtain ⟨m, hm, hsm, -⟩ := hB.ht
    refine (contains_t 46 hE (.pointer (some ⟨w.heap.size + 1, 0, none⟩)) (fun x => decide (x.td.n = k)) vt m z (hsm.on (hb0.trans (hz.mono hb0.size))) (fun x _ y hy => free1 k _ x W0 y hk (hz.trans (hy.mono hz.size)))).mono ?_
    rintro e w' ⟨he, hb⟩
    refine ⟨?_, hb⟩
    rw [he, ← hh, hm]
    unfold hasK
    rw [List.any_map, List.any_map]
    rfl
  have HIO : Hid (∀ z, Below w.heap.size w z → Calls Tryz.prog 47 #[.agg #[vn, vt, vb, .int .u64 (b.fe : Nat)], .string k] z fun e w' => e = .returned (.bool false) ∧ Below z.heap.size z w') := fun z hz => by
    have h := isOn_any b vn vt vb k z (hB.on hz)
    rw [ho] at h
    exact h
  have HCA : Hid (∀ z v, Below w.heap.size w z → Calls Tryz.prog 30 #[.agg #[vn, vt, vb, .int .u64 (b.fe : Nat)], .string k, .string v] z fun e w' => e = .returned (.int .i64 (canE b k v : Nat)) ∧ Below z.heap.size z w') := fun z v hz => by
    have h := canq_any b vn vt vb k v z (hB.on hz)
    unfold canF at h
    rw [hc, if_pos rfl] at h
    exact h
  obtain ⟨an, cn, hvn⟩ := hB.hn.slice
  obtain ⟨at', ct, hvt⟩ := hB.ht.slice
  obtain ⟨ab, cb, hvb⟩ := hB.hb.slice
  subst hvn hvt hvb
  have HW := Lib.hid hW0
  have HX0 : Hid (Hd.Bxn W0 w.heap.size [.slice an b.ns.length cn, .slice at' b.ts.length ct, .slice ab b.bs.length cb, .int .u64 (b.fe : Nat)]) := hx0
  have HK0 := Lib.hid hkx
  have HB0 := Lib.hid hb0
  clear hW0 hb0 hx0 hkx hk
  clear hf hE
  go_enter Tryz.func16, Tryz.ntmps16
  go_upto_region 1 with fail
  rw [← HW.out]
  have b0 : W0.cell? ⟨w.heap.size, 0, none⟩ = some (.slice an b.ns.length cn) := HX0.out.cell 0
  have b1 : W0.cell? ⟨w.heap.size, 1, none⟩ = some (.slice at' b.ts.length ct) := HX0.out.cell 1
  have b2 : W0.cell? ⟨w.heap.size, 2, none⟩ = some (.slice ab b.bs.length cb) := HX0.out.cell 2
  have b3 : W0.cell? ⟨w.heap.size, 3, none⟩ = some (.int .u64 (b.fe : Nat)) := HX0.out.cell 3
  go_wp2_with fail
  refine HCK.out.mono ?_
  rintro e w1 ⟨rfl, hb⟩
  have HU1 : Hid (Below W0.heap.size W0 w1) := hb
  have H1 : Hid (Below w.heap.size w w1) := HB0.out.trans (hb.mono HB0.out.size)
  have HX1 := Lib.hid (HX0.out.below hb)
  have HK1 := Lib.hid (HK0.out.below hb)
  clear hb b0 b1 b2 b3 HX0 HK0 HCK HW
  clear hc hh ho
  have c1 : w1.cell? ⟨w.heap.size, 1, none⟩ = some (.slice at' b.ts.length ct) := HX1.out.cell 1
  go_wp2_with fail
  refine (HCT.out w1 HU1.out).mono ?_
  rintro e w2 ⟨rfl, hb⟩
  have H2 : Hid (Below w.heap.size w w2) := H1.out.trans (hb.mono H1.out.size)
  have HX2 := Lib.hid (HX1.out.below hb)
  have HK2 := Lib.hid (HK1.out.below hb)
  clear hb c1 HX1 HK1 HCT H1 HU1
  have c0 : w2.cell? ⟨w.heap.size, 0, none⟩ = some (.slice an b.ns.length cn) := HX2.out.cell 0
  have c1 : w2.cell? ⟨w.heap.size, 1, none⟩ = some (.slice at' b.ts.length ct) := HX2.out.cell 1
  have c2 : w2.cell? ⟨w.heap.size, 2, none⟩ = some (.slice ab b.bs.length cb) := HX2.out.cell 2
  have c3 : w2.cell? ⟨w.heap.size, 3, none⟩ = some (.int .u64 (b.fe : Nat)) := HX2.out.cell 3
  have c4 : w2.cell? ⟨w.heap.size + 1, 0, none⟩ = some (.string k) := HK2.out.cell 0
  go_wp2_with fail
  refine (HIO.out w2 H2.out).mono ?_
  rintro e w3 ⟨rfl, hb⟩
  have H3 : Hid (Below w.heap.size w w3) := H2.out.trans (hb.mono H2.out.size)
  have HX3 := Lib.hid (HX2.out.below hb)
  have HK3 := Lib.hid (HK2.out.below hb)
  clear hb c0 c1 c2 c3 c4 HX2 HK2 HIO H2
  have c0 : w3.cell? ⟨w.heap.size, 0, none⟩ = some (.slice an b.ns.length cn) := HX3.out.cell 0
  obtain ⟨mn, hmn, hsn, -⟩ := hB.hn
  have hlen : b.ns.length = mn.length := by rw [hmn, List.length_map]
  have HLN : Hid (mn.length ≤ 4096) := by have h1 := HFI.out.ln; rw [hlen] at h1; exact h1
  have HNM : Hid (frL b k (b.ns.map (·.n)) = frL b k (mn.map (·.nd.n))) := by show _ = _; rw [hmn, List.map_map]; rfl
  have hsn3 := hsn.on H3.out
  obtain ⟨av, cv, hav, hcap, -, hlenb, hcells⟩ := hsn3
  simp only [Value.slice.injEq] at hav
  obtain ⟨rfl, -, rfl⟩ := hav
  have HC := Lib.hid hcells
  clear hB hmn hsn hcap hlenb hcells HFI
  rw [hlen] at c0 HX3 HCA
  clear hlen
  go_wp2
  clear c0
  go_loopg [7, 28] mn.length (fun gg sv i wx => ∃ q : Nat, q + gg = mn.length ∧ i = .int .i64 q ∧ Aside (Own wx w3.heap.size 9 sv (frL b k ((mn.take q).map (·.nd.n)))) ∧ Aside (Below w3.heap.size w3 wx))
  case atStart => exact ⟨0, by omega, rfl, Own.nil _ _ _, Below.refl _ _⟩
  case round =>
    obtain ⟨q, hkg, rfl, HA, HB⟩ := hrel
    cases gk with
    | zero =>
      obtain rfl : q = mn.length := by omega
      have HO : Hid (Own wr w.heap.size 9 u7 (frL b k (b.ns.map (·.n)))) := by have := HA.out; rw [List.take_length, ← HNM.out] at this; exact this.le H3.out.size
      have HBE : Hid (Below w.heap.size w wr) := H3.out.trans (HB.out.mono H3.out.size)
      clear hkg HA
      go_wp2
      go_ret2
      exact HR.out _ _ HO.out HBE.out
    | succ gg =>
      have hlk : q < mn.length := by omega
      have t2 : (q : Int) < (mn.length : Int) := by omega
      have t3 : IntKind.i64.wrap ((q : Int) + 1) = (q : Int) + 1 := by rw [IntKind.wrap_i64]; have := HLN.out; omega
      obtain ⟨g, off, rfl, -, hgl, hat⟩ := HC.out (by omega)
      have hatk : At w3 g (off + q * 6) mn[q] := hat q hlk
      obtain ⟨d0', d1', d2', d3', d4', d5'⟩ := at_nd hatk
      have e0 := (HB.out.cell (by exact hgl)).trans d0'
      have e1 := (HB.out.cell (by exact hgl)).trans d1'
      have e2 := (HB.out.cell (by exact hgl)).trans d2'
      have e3 := (HB.out.cell (by exact hgl)).trans d3'
      have e4 := (HB.out.cell (by exact hgl)).trans d4'
      have e5 := (HB.out.cell (by exact hgl)).trans d5'
      have HXR := Lib.hid (HX3.out.below HB.out)
      have HKR := Lib.hid (HK3.out.below HB.out)
      have HTK : Hid (frL b k ((mn.take (q + 1)).map (·.nd.n)) = frL b k ((mn.take q).map (·.nd.n)) ++ frL b k [mn[q].nd.n]) := by
        show _ = _
        unfold frL
        rw [List.take_succ_eq_append_getElem hlk, List.map_append, List.filter_append]
        rfl
      have hlt : (frL b k ((mn.take q).map (·.nd.n))).length + 1 ≤ 4096 := by
        have h1 := List.length_filter_le (fun v => decide (canE b k v = 0)) ((mn.take q).map (·.nd.n))
        rw [List.length_map, List.length_take] at h1
        have h2 := HLN.out
        unfold frL
        omega
      have HMX : Hid ((frL b k ((mn.take q).map (·.nd.n))).length + 1 ≤ maxLen) := by show _ ≤ _; unfold maxLen; omega
      have HBY : Hid (((frL b k ((mn.take q).map (·.nd.n))).length + 1) * 16 ≤ 140737488355328) := by show _ ≤ _; omega
      have HKG := Lib.hid hkg
      clear d0' d1' d2' d3' d4' d5' hatk hat hgl hlt hkg
      generalize mn[q] = x at *
      have HAO : Hid (Own wr w3.heap.size 9 u7 (frL b k ((mn.take q).map (·.nd.n)))) := HA.out
      clear HA
      generalize frL b k ((mn.take q).map (·.nd.n)) = ls at *
      generalize x.nd.ls.length = n1 at *
      generalize x.nd.ts.length = n2 at *
      obtain ⟨wy, hwy⟩ : ∃ wy, wy = wr.alloc (.cells #[.string x.nd.n, .int .i64 x.nd.z0, .int .i64 x.nd.z1, .int .i64 x.nd.z2, .slice x.a2 n1 x.c2, .slice x.a3 n2 x.c3] 45) := ⟨_, rfl⟩
      have HNX : Hid (Hd.Bxn wy wr.heap.size [.string x.nd.n, .int .i64 x.nd.z0, .int .i64 x.nd.z1, .int .i64 x.nd.z2, .slice x.a2 n1 x.c2, .slice x.a3 n2 x.c3]) := by rw [hwy]; exact Hd.Bxn.made wr _ _
      have HYB : Hid (Below wr.heap.size wr wy) := by rw [hwy]; exact al _ _
      have HWY := Lib.hid hwy
      clear hwy
      go_upto_region 12 with fail
      rw [← HWY.out]
      clear e0 e1 e2 e3 e4 e5
      have HXY := Lib.hid (HXR.out.below HYB.out)
      have HKY := Lib.hid (HKR.out.below HYB.out)
      have HB3 : Hid (Below w3.heap.size w3 wy) := HB.out.trans (HYB.out.mono HB.out.size)
      have HB3W : Hid (Below w.heap.size w wy) := H3.out.trans (HB3.out.mono H3.out.size)
      have HOY := Lib.hid (HAO.out.keep HYB.out)
      have q0 : wy.cell? ⟨w.heap.size, 0, none⟩ = some (.slice (some ⟨g, off, none⟩) mn.length cn) := HXY.out.cell 0
      have q1 : wy.cell? ⟨w.heap.size, 1, none⟩ = some (.slice at' b.ts.length ct) := HXY.out.cell 1
      have q2 : wy.cell? ⟨w.heap.size, 2, none⟩ = some (.slice ab b.bs.length cb) := HXY.out.cell 2
      have q3 : wy.cell? ⟨w.heap.size, 3, none⟩ = some (.int .u64 (b.fe : Nat)) := HXY.out.cell 3
      have q4 : wy.cell? ⟨w.heap.size + 1, 0, none⟩ = some (.string k) := HKY.out.cell 0
      have n0 : wy.cell? ⟨wr.heap.size, 0, none⟩ = some (.string x.nd.n) := HNX.out.cell 0
      have HCX := Lib.hid (HCA.out wy x.nd.n HB3W.out)
      clear HWY HXR HKR HB HAO HYB HB3W
      generalize x.nd.n = nm at *
      by_cases hz : canE b k nm = 0
      · have HTN : Hid (frL b k [nm] = [nm]) := by show _ = _; unfold frL; rw [List.filter_cons_of_pos (by simpa using hz)]; rfl
        rw [hz] at HCX
        clear hz
        go_wp2_with fail
        refine HCX.out.mono ?_
        rintro e w4 ⟨rfl, hb⟩
        have HNZ := Lib.hid (HNX.out.below hb)
        have HB4 : Hid (Below w3.heap.size w3 w4) := HB3.out.trans (hb.mono HB3.out.size)
        have HOZ := Lib.hid (HOY.out.keep hb)
        clear hb q0 q1 q2 q3 q4 n0 HNX HB3 HOY HXY HKY HCX
        have n0 : w4.cell? ⟨wr.heap.size, 0, none⟩ = some (.string nm) := HNZ.out.cell 0
        have hbx : Below w4.heap.size w4 (w4.alloc (.cells #[.string nm] 9)) := al w4 _
        have HB5 : Hid (Below w3.heap.size w3 (w4.alloc (.cells #[.string nm] 9))) := HB4.out.trans (hbx.mono HB4.out.size)
        have HO5 := Lib.hid (HOZ.out.keep hbx)
        have HOL := Lib.hid HO5.out.lt
        have HN5 : Hid (∀ j u, ([.string nm] : List Value)[j]? = some u → (w4.alloc (.cells #[.string nm] 9)).cell? ((⟨w4.heap.size, 0, none⟩ : Addr).add j) = some u) := Rg.news_new w4 9 [.string nm]
        have HSZ : Hid (w3.heap.size ≤ (w4.alloc (.cells #[.string nm] 9)).heap.size) := HB5.out.size
        have HON1 : Hid (∀ u ∈ ([.string nm] : List Value), u.oneCell' = true) := str_one nm
        have HSN : Hid (∀ (w5 : World) (v4 : Value), w5.ownsRow w3.heap.size 9 1 v4 (ls.length + 1) (flat ls ++ [.string nm]) → Own w5 w3.heap.size 9 v4 (ls ++ [nm])) := fun w5 v4 h => Own.snoc (x := nm) h
        clear hbx HNZ HOZ
        go_wp2_with (at_builtin; (refine wpList_append_own_at _ rfl _ _ 34 rfl w3.heap.size 9 i0 _ 1 16 Tryz.underlying34 hi hq0 hq1 hq2 rfl (by omega) _ _ _ rfl HO5.out ⟨w4.heap.size, 0, none⟩ 1 1 [.string nm] rfl rfl HN5.out HON1.out HMX.out HBY.out HSZ.out ?_); intro v4 w5 hown hg5 hnil hob; have HO6 := Lib.hid (HSN.out _ _ hown); have HB6 : Hid (Below w3.heap.size w3 w5) := (HB5.out.grown hg5 HB5.out.size (fun g hg => (HOL.out g hg).1)); clear hown hg5 hnil hob)
        go_wp2
        go_roundg gg
        case measure => omega
        case rel => exact ⟨q + 1, by have := HKG.out; omega, by simp, by rw [HTK.out, HTN.out]; exact HO6.out, HB6.out⟩
      · have HTN : Hid (frL b k [nm] = []) := by show _ = _; unfold frL; rw [List.filter_cons_of_neg (by simpa using hz)]; rfl
        have hz1 : ¬ ((canE b k nm : Nat) : Int) = 0 := by omega
        have hz2 : decide (((canE b k nm : Nat) : Int) = 0) = false := decide_eq_false hz1
        clear hz
        go_wp2_with fail
        refine HCX.out.mono ?_
        rintro e w4 ⟨rfl, hb⟩
        have HB4 : Hid (Below w3.heap.size w3 w4) := HB3.out.trans (hb.mono HB3.out.size)
        have HOZ := Lib.hid (HOY.out.keep hb)
        clear hb q0 q1 q2 q3 q4 n0 HNX HB3 HOY HXY HKY HCX
        generalize ((canE b k nm : Nat) : Int) = r at *
        have hz3 : (r == 0) = false := by simpa using hz1
        go_wp2
        go_roundg gg
        case measure => omega
        case rel => exact ⟨q + 1, by have := HKG.out; omega, by simp, by rw [HTK.out, HTN.out, List.append_nil]; exact HOZ.out, HB4.out⟩
theorem free_any (b : Bk) (vn vt vb : Value) (k : ByteArray) (w : World) (hB : Books w w.heap.size vn vt vb b) : Calls Tryz.prog 16 #[.agg #[vn, vt, vb, .int .u64 (b.fe : Nat)], .string k] w (FreeIs b k w) := by
  cases hc : chkB b
  · exact free_no b vn vt vb k w hB hc
  · cases hh : hasK (b.ts.map (·.n)) k
    · exact free_none b vn vt vb k w hB hc hh
    · cases ho : hasK (b.bs.map (·.k)) k
      · exact free_ok b vn vt vb k w hB hc hh ho
      · exact free_on b vn vt vb k w hB hc hh ho
end Bo
end Go.Proofs.YthbmnkeigmbbdaaGreat
