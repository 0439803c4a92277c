/-
  Merged: BoUsed, BoWay, BoCan, BoChk.
-/
import Derived.Test.YthbmnkeigmbbdaaGreatBgT
import Derived.Deep.RegionHeld3
/-
  WHAT IS USED OF A NODE: book.used.
-/
namespace Go.Proofs.YthbmnkeigmbbdaaGreat
open Go.RowKit Go.Lib
namespace Bo
open Rw
set_option linter.unusedVariables false
theorem info_task2 : (Tryz.prog.info? 42).map (fun i => (i.zero, i.size, i.bytes)) = some (some (.agg #[.string ByteArray.empty, .int .i64 0, .int .i64 0, .int .i64 0, .slice none 0 0, .slice none 0 0, .string ByteArray.empty, .string ByteArray.empty, .int .i64 0]), 9, 128) := by kernel_rfl
theorem own_tasks {w : World} {base : Nat} {v : Value} {l : List TdM} (h : Own w base 42 v l) (hl : l.length ≤ 4096) (hf : ∀ x ∈ l, FitT x.td) : Rg.Tasks w w.heap.size v (l.map tkM) := by
  have h2 : Rg.OwnT w base v (l.map tkM) := by
    unfold Rg.OwnT
    rw [flat_tkM, List.length_map]
    exact h
  refine h2.tasks (by rw [List.length_map]; omega) ?_
  intro x hx
  obtain ⟨y, hy, rfl⟩ := List.mem_map.1 hx
  have := (hf y hy).2.1
  exact ⟨this.1, this.2.1, this.2.2.1⟩
theorem sum_td {l : List TdM} (hl : l.length ≤ 32) (hk : ∀ x ∈ l, okT x.td = true) {e : Ending} (h : Rg.SumIs (l.map tkM) e) :
    e = .returned (.tuple #[.agg #[.int .i64 (sumI (·.z0) (l.map (·.td))), .int .i64 (sumI (·.z1) (l.map (·.td))), .int .i64 (sumI (·.z2) (l.map (·.td)))], .int .i64 0]) := by
  have h1 : Rg.sumE (l.map tkM) = 0 := by
    refine Rg.sumE_ok _ (by rw [List.length_map]; omega) ?_
    unfold Rg.okT
    rw [List.all_eq_true]
    intro x hx
    obtain ⟨y, hy, rfl⟩ := List.mem_map.1 hx
    exact okT_upto (hk y hy)
  unfold Rg.SumIs at h
  rw [h, Rg.sumV_ok _ _ h1, Rg.sumV_ok _ _ h1, Rg.sumV_ok _ _ h1, h1, sm_tkM (·.z0) (·.z0) (fun _ => rfl), sm_tkM (·.z1) (·.z1) (fun _ => rfl), sm_tkM (·.z2) (·.z2) (fun _ => rfl)]
  rfl
set_option maxRecDepth 100000 in
set_option maxHeartbeats 4000000 in
theorem used_any (b : Bk) (vn vt vb : Value) (v : ByteArray) (w : World) (hB : Books w w.heap.size vn vt vb b) (hL : Lists b) :
    Calls Tryz.prog 73 #[.agg #[vn, vt, vb, .int .u64 (b.fe : Nat)], .string v] w fun e w' => e = .returned (.agg #[.int .i64 (us0 b v), .int .i64 (us1 b v), .int .i64 (us2 b v)]) ∧ Below w.heap.size w w' := by
  obtain ⟨i0, hi, hz0, hz1, hz2⟩ := info_parts info_task2
  obtain ⟨m, hm, hsm, hdm, -⟩ := hB.ht
  have hkm : b.ts.map (·.n) = m.map (·.td.n) := by rw [hm, List.map_map]; rfl
  have hrm : Ris (m.map (·.td.n)) := by rw [← hkm]; exact hL.rt
  have hfm := Lib.hid (fun x hx => (hdm x hx).2)
  have hokm : Hid (∀ x ∈ m, okT x.td = true) := fun x hx => hL.kt _ (by rw [hm]; exact List.mem_map_of_mem hx)
  obtain ⟨W1, hW1⟩ : ∃ W1, W1 = (w.alloc (.cells #[vn, vt, vb, .int .u64 (b.fe : Nat)] 27)).alloc (.cells #[.int .i64 0, .int .i64 0, .int .i64 0] 39) := ⟨_, rfl⟩
  have hb0 : Below w.heap.size w W1 := by rw [hW1]; exact ((Below.refl _ w).alloc (Nat.le_refl _) _).alloc (by simp) _
  have hz1' : W1.heap.size = w.heap.size + 1 + 1 := by rw [hW1]; simp
  have hbk : Hd.Bxn W1 w.heap.size [vn, vt, vb, .int .u64 (b.fe : Nat)] := by
    rw [hW1]
    exact (Hd.Bxn.made w [vn, vt, vb, .int .u64 (b.fe : Nat)] 27).below (al _ _)
  have hrs : Hd.Bxn W1 (w.heap.size + 1) [.int .i64 0, .int .i64 0, .int .i64 0] := by
    rw [hW1]
    have := Hd.Bxn.made (w.alloc (.cells #[vn, vt, vb, .int .u64 (b.fe : Nat)] 27)) [.int .i64 0, .int .i64 0, .int .i64 0] 39
    rwa [World.size_alloc] at this
  have HT : Hid (∀ (o : Rg.Pr) z, o ∈ b.bs → Below W1.heap.size W1 z → Calls Tryz.prog 134 #[.agg #[vn, vt, vb, .int .u64 (b.fe : Nat)], .agg #[.string o.k, .string o.v]] z fun e w' => ∃ x ∈ m, x.td = tOf b.ts o.k ∧ e = .returned (.agg #[.string x.td.n, .int .i64 x.td.z0, .int .i64 x.td.z1, .int .i64 x.td.z2, .slice x.a4 x.td.ws.length x.c4, .slice x.a5 x.td.bs.length x.c5, .string x.td.g, .string x.td.a, .int .i64 x.td.r]) ∧ Below z.heap.size z w') := by
    intro o z ho hz
    have hzw : Below w.heap.size w z := hb0.trans (hz.mono hb0.size)
    refine (task_of vn vt vb b.fe m o z (hsm.on hzw) hrm (by rw [← hkm]; exact hL.bt o ho)).mono ?_
    rintro e w' ⟨x, hx, hk, he, hb⟩
    refine ⟨x, hx, ?_, he, hb⟩
    rw [← hk]
    exact (tOf_at hL.rt (by rw [hm]; exact List.mem_map_of_mem hx)).symm
  have hsb := hB.hb.1
  have hlb := hL.lb
  obtain ⟨a, c, rfl, hcap, -, -, hc⟩ := hsb
  have HC := Lib.hid hc
  have HB0 := Lib.hid hb0
  have HBK := Lib.hid hbk
  have HRS := Lib.hid hrs
  have HSZ := Lib.hid hz1'
  have HW := Lib.hid hW1
  have hbv : W1.cell? ⟨w.heap.size, 2, none⟩ = some (.slice a b.bs.length c) := hbk.cell 2
  unfold us0 us1 us2
  clear hc hsm hdm hb0 hbk hrs hB hkm hm hz1' hL hrm
  go_enter Tryz.func73, Tryz.ntmps73
  go_upto_region 1 with fail
  rw [← HW.out]
  clear hW1
  go_wp2
  go_loopg [5, 13] b.bs.length (fun gg sv i wx => ∃ k : Nat, k + gg = b.bs.length ∧ i = .int .i64 k ∧ Aside (∃ lm : List TdM, Own wx W1.heap.size 42 sv lm ∧ lm.map (·.td) = thr b.ts (b.bs.take k) v ∧ ∀ x ∈ lm, x ∈ m) ∧ Aside (Below W1.heap.size W1 wx))
  case atStart => exact ⟨0, by omega, rfl, ⟨[], Own.nil _ _ _, by simp [thr], by simp⟩, Below.refl _ _⟩
  case round =>
    obtain ⟨k, hkg, rfl, HA, HB⟩ := hrel
    obtain ⟨lm, hown, hlm, hmem⟩ := HA.out
    have HO := Lib.hid hown
    have HLM := Lib.hid hlm
    have HMEM := Lib.hid hmem
    have hl1 : lm.length ≤ k := by
      have h1 := thr_len b.ts (b.bs.take k) v
      rw [← hlm, List.length_map, List.length_take] at h1
      omega
    have q0 : wr.cell? ⟨w.heap.size, 0, none⟩ = some vn := (HB.out.cell (by show w.heap.size < _; rw [HSZ.out]; omega)).trans (HBK.out.cell 0)
    have q1 : wr.cell? ⟨w.heap.size, 1, none⟩ = some vt := (HB.out.cell (by show w.heap.size < _; rw [HSZ.out]; omega)).trans (HBK.out.cell 1)
    have q2 : wr.cell? ⟨w.heap.size, 2, none⟩ = some (.slice a b.bs.length c) := (HB.out.cell (by show w.heap.size < _; rw [HSZ.out]; omega)).trans (HBK.out.cell 2)
    have q3 : wr.cell? ⟨w.heap.size, 3, none⟩ = some (.int .u64 (b.fe : Nat)) := (HB.out.cell (by show w.heap.size < _; rw [HSZ.out]; omega)).trans (HBK.out.cell 3)
    have hszr : w.heap.size + 1 + 1 ≤ wr.heap.size := by have := HB.out.size; rw [HSZ.out] at this; omega
    clear hown hlm hmem HA
    cases gk with
    | zero =>
      obtain rfl : k = b.bs.length := by omega
      have HLM2 : Hid (lm.map (·.td) = thr b.ts b.bs v) := by have := HLM.out; rwa [List.take_length] at this
      have HSUM : Hid (Calls Tryz.prog 135 #[u5] wr fun e w' => e = .returned (.tuple #[.agg #[.int .i64 (sumI (·.z0) (thr b.ts b.bs v)), .int .i64 (sumI (·.z1) (thr b.ts b.bs v)), .int .i64 (sumI (·.z2) (thr b.ts b.bs v))], .int .i64 0]) ∧ Below wr.heap.size wr w') := by
        refine (Rg.sum_any u5 (lm.map tkM) wr (own_tasks HO.out (by omega) (fun x hx => hfm.out x (HMEM.out x hx)))).mono ?_
        rintro e w' ⟨he, hb⟩
        have h2 := sum_td (by omega) (fun x hx => hokm.out x (HMEM.out x hx)) he
        rw [HLM2.out] at h2
        exact ⟨h2, hb⟩
      have HRS1 : Hid (Hd.Bxn wr (w.heap.size + 1) [.int .i64 0, .int .i64 0, .int .i64 0]) := HRS.out.below HB.out
      clear hkg q0 q1 q2 q3
      obtain ⟨s0, hs0⟩ : ∃ s0, s0 = sumI (·.z0) (thr b.ts b.bs v) := ⟨_, rfl⟩
      obtain ⟨s1, hs1⟩ : ∃ s1, s1 = sumI (·.z1) (thr b.ts b.bs v) := ⟨_, rfl⟩
      obtain ⟨s2, hs2⟩ : ∃ s2, s2 = sumI (·.z2) (thr b.ts b.bs v) := ⟨_, rfl⟩
      rw [← hs0, ← hs1, ← hs2] at HSUM
      have HQ := Lib.hid (And.intro hs0 (And.intro hs1 hs2))
      clear hs0 hs1 hs2
      go_wp2_with fail
      refine HSUM.out.mono ?_
      rintro e w2 ⟨rfl, hb⟩
      have HB2 : Hid (Below W1.heap.size W1 w2) := HB.out.trans (hb.mono HB.out.size)
      have HRS2 : Hid (Hd.Bxn w2 (w.heap.size + 1) [.int .i64 0, .int .i64 0, .int .i64 0]) := HRS1.out.below hb
      clear hb
      go_upto_region 9 with fail
      have HB3 : Hid (Below w.heap.size w (w2.alloc (.cells #[.int .i64 s0, .int .i64 s1, .int .i64 s2] 39))) := (HB0.out.trans (HB2.out.mono HB0.out.size)).alloc (by have := (HB0.out.trans (HB2.out.mono HB0.out.size)).size; omega) _
      have HX1 : Hid (Hd.Bxn (w2.alloc (.cells #[.int .i64 s0, .int .i64 s1, .int .i64 s2] 39)) (w.heap.size + 1) [.int .i64 0, .int .i64 0, .int .i64 0]) := HRS2.out.below (al w2 _)
      have hth := HX1.out.there 3 rfl
      have hrg : (w2.alloc (.cells #[.int .i64 s0, .int .i64 s1, .int .i64 s2] 39)).rangeAt w2.heap.size 0 [.int .i64 s0, .int .i64 s1, .int .i64 s2] := (Hd.Bxn.made w2 [.int .i64 s0, .int .i64 s1, .int .i64 s2] 39).range 0
      refine wp_region_list ?_
      refine wpList_load_mid rfl 39 (.tmp 8) rfl w2.heap.size 0 rfl [.int .i64 s0, .int .i64 s1, .int .i64 s2] _ hrg Tryz.underlying39 rfl rfl ?_
      refine wpList_store_mid rfl 39 (.tmp 4) (.tmp 33) rfl (w.heap.size + 1) 0 #[.int .i64 s0, .int .i64 s1, .int .i64 s2] rfl rfl hth rfl (all_oneCell_toArray (cs := [.int .i64 s0, .int .i64 s1, .int .i64 s2]) (by intro v hv; simp only [List.mem_cons, List.not_mem_nil, or_false] at hv; rcases hv with rfl | rfl | rfl <;> rfl)) ?_
      rw [show (#[.int .i64 s0, .int .i64 s1, .int .i64 s2] : Array Value).toList = [.int .i64 s0, .int .i64 s1, .int .i64 s2] from rfl]
      have HE := Lib.hid (HX1.out.all [.int .i64 s0, .int .i64 s1, .int .i64 s2] rfl)
      have HB4 : Hid (Below w.heap.size w ((w2.alloc (.cells #[.int .i64 s0, .int .i64 s1, .int .i64 s2] 39)).setCells (w.heap.size + 1) 0 [.int .i64 s0, .int .i64 s1, .int .i64 s2])) := below_setCells HB3.out (by omega) _ _
      clear hrg hth HX1 HB3
      generalize (w2.alloc (.cells #[.int .i64 s0, .int .i64 s1, .int .i64 s2] 39)).setCells (w.heap.size + 1) 0 [.int .i64 s0, .int .i64 s1, .int .i64 s2] = w4 at *
      refine wpList_nil ?_
      go_wp2
      exact Hd.bodyPost_bx rfl (w.heap.size + 1) [.int .i64 s0, .int .i64 s1, .int .i64 s2] _ rfl rfl HE.out Tryz.underlying39 rfl rfl ⟨by rw [HQ.out.1, HQ.out.2.1, HQ.out.2.2], HB4.out⟩
    | succ gg =>
      have hlk : k < b.bs.length := by omega
      have t2 : (k : Int) < (b.bs.length : Int) := by omega
      have t3 : IntKind.i64.wrap ((k : Int) + 1) = (k : Int) + 1 := by rw [IntKind.wrap_i64]; omega
      obtain ⟨bb, off, rfl, -, hblt, hcc⟩ := HC.out (by omega)
      have hat : At w bb (off + k * 2) b.bs[k] := hcc k hlk
      obtain ⟨d0, d1⟩ := at_bd hat
      have HWR : Hid (Below w.heap.size w wr) := HB0.out.trans (HB.out.mono HB0.out.size)
      have e0 := (HWR.out.cell (by exact hblt)).trans d0
      have e1 := (HWR.out.cell (by exact hblt)).trans d1
      have HYES := Lib.hid (thr_yes b.ts b.bs v k hlk)
      have HNO := Lib.hid (thr_no b.ts b.bs v k hlk)
      have HTK := Lib.hid (fun z => HT.out b.bs[k] z (List.getElem_mem hlk))
      clear d0 d1 hat hcc
      generalize b.bs[k] = o at *
      by_cases hov : o.v = v
      · have HTH := Lib.hid (HYES.out hov)
        have HOV := Lib.hid hov
        have g0 : (o.v.toList == v.toList) = true := by rw [hov]; simp
        have g1 : o.v.toList = v.toList := by rw [hov]
        clear hov HYES HNO
        have p0 := cell_old (.cells #[.string o.k, .string o.v] 106) q0
        have p1 := cell_old (.cells #[.string o.k, .string o.v] 106) q1
        have p2 := cell_old (.cells #[.string o.k, .string o.v] 106) q2
        have p3 := cell_old (.cells #[.string o.k, .string o.v] 106) q3
        have H1 : Hid (Below W1.heap.size W1 (wr.alloc (.cells #[.string o.k, .string o.v] 106))) := HB.out.alloc HB.out.size _
        have HOK : Hid (∀ z, Below (wr.alloc (.cells #[.string o.k, .string o.v] 106)).heap.size (wr.alloc (.cells #[.string o.k, .string o.v] 106)) z → ∀ T x, (z.alloc (.cells (tdE x).toArray T)).ownsRow W1.heap.size 42 9 u5 lm.length (flat lm)) :=
          fun z hz T x => (HO.out.keep ((al wr _).trans (hz.mono (al wr _).size))).keep (al z _)
        clear q0 q1 q2 q3
        go_wp2_with (first
          | (go_at_call 134; refine (HTK.out _ H1.out).mono ?_; rintro e w2 ⟨x, hx, htd, rfl, hb⟩; have HX := Lib.hid (And.intro hx htd); have HB2 : Hid (Below W1.heap.size W1 w2) := H1.out.trans (hb.mono H1.out.size); have hox := HOK.out _ hb 42 x; have HN := Lib.hid (Rg.news_new w2 42 (tdE x)); clear hx htd hb)
          | (at_builtin; go_loud (refine wpList_append_own _ rfl _ _ 23 rfl W1.heap.size 42 i0 _ 9 128 Tryz.underlying23 hi hz0 hz1 hz2 rfl (by omega) u5 lm.length (flat lm) rfl hox ⟨w2.heap.size, 0, none⟩ 1 1 (tdE x) rfl rfl HN.out (tdE_one x) (by simp only [maxLen]; omega) (by omega) (by have := HB2.out.size; simp; omega) ?_); intro v' w3 hown3 hgrow3 hnil3))
        have HB3 : Hid (Below W1.heap.size W1 w3) := (HB2.out.alloc HB2.out.size _).grown hgrow3 (by have := HB2.out.size; simp; omega) (fun g hg => (World.ownsRow.lt hox g hg).1)
        have HO3 : Hid (Own w3 W1.heap.size 42 v' (lm ++ [x])) := Own.snoc hown3
        clear hown3 hgrow3 hnil3 hox
        go_roundg gg
        case measure => omega
        case rel =>
          refine ⟨k + 1, by omega, by simp, ⟨lm ++ [x], HO3.out, ?_, ?_⟩, HB3.out⟩
          · rw [HTH.out, ← HLM.out, List.map_append, List.map_singleton, HX.out.2]
          · intro y hy
            rcases List.mem_append.1 hy with h | h
            · exact HMEM.out y h
            · rw [List.mem_singleton.1 h]; exact HX.out.1
      · have HTH := Lib.hid (HNO.out hov)
        have g0 : (o.v.toList == v.toList) = false := (Hd.ba_no hov).1
        have g1 : ¬ o.v.toList = v.toList := (Hd.ba_no hov).2
        clear hov HYES HNO
        have H1 : Hid (Below W1.heap.size W1 (wr.alloc (.cells #[.string o.k, .string o.v] 106))) := HB.out.alloc HB.out.size _
        have HO3 : Hid (Own (wr.alloc (.cells #[.string o.k, .string o.v] 106)) W1.heap.size 42 u5 lm) := HO.out.keep (al wr _)
        go_wp2
        go_roundg gg
        case measure => omega
        case rel => exact ⟨k + 1, by omega, by simp, ⟨lm, HO3.out, by rw [HTH.out]; exact HLM.out, HMEM.out⟩, H1.out⟩
end Bo
end Go.Proofs.YthbmnkeigmbbdaaGreat

/-
  WHO IS IN THE WAY: book.inWay.
-/
namespace Go.Proofs.YthbmnkeigmbbdaaGreat
open Go.RowKit Go.Lib
namespace Bo
open Rw
set_option linter.unusedVariables false
set_option maxRecDepth 100000 in
set_option maxHeartbeats 4000000 in
theorem way_any (b : Bk) (vn vt vb : Value) (x : TdM) (v : ByteArray) (w : World) (hB : Books w w.heap.size vn vt vb b) (hL : Lists b) :
    Calls Tryz.prog 128 #[.agg #[vn, vt, vb, .int .u64 (b.fe : Nat)], .agg #[.string x.td.n, .int .i64 x.td.z0, .int .i64 x.td.z1, .int .i64 x.td.z2, .slice x.a4 x.td.ws.length x.c4, .slice x.a5 x.td.bs.length x.c5, .string x.td.g, .string x.td.a, .int .i64 x.td.r], .string v] w fun e w' => e = .returned (.bool (waB b x.td v)) ∧ Below w.heap.size w w' := by
  obtain ⟨m, hm, hsm, hdm, -⟩ := hB.ht
  have hkm : b.ts.map (·.n) = m.map (·.td.n) := by rw [hm, List.map_map]; rfl
  have hrm : Ris (m.map (·.td.n)) := by rw [← hkm]; exact hL.rt
  obtain ⟨W1, hW1⟩ : ∃ W1, W1 = (w.alloc (.cells #[vn, vt, vb, .int .u64 (b.fe : Nat)] 27)).alloc (.cells #[.string x.td.n, .int .i64 x.td.z0, .int .i64 x.td.z1, .int .i64 x.td.z2, .slice x.a4 x.td.ws.length x.c4, .slice x.a5 x.td.bs.length x.c5, .string x.td.g, .string x.td.a, .int .i64 x.td.r] 42) := ⟨_, rfl⟩
  have hb0 : Below w.heap.size w W1 := by rw [hW1]; exact ((Below.refl _ w).alloc (Nat.le_refl _) _).alloc (by simp) _
  have hz1' : W1.heap.size = w.heap.size + 1 + 1 := by rw [hW1]; simp
  have hbk : Hd.Bxn W1 w.heap.size [vn, vt, vb, .int .u64 (b.fe : Nat)] := by
    rw [hW1]
    exact (Hd.Bxn.made w [vn, vt, vb, .int .u64 (b.fe : Nat)] 27).below (al _ _)
  have htk : Hd.Bxn W1 (w.heap.size + 1) [.string x.td.n, .int .i64 x.td.z0, .int .i64 x.td.z1, .int .i64 x.td.z2, .slice x.a4 x.td.ws.length x.c4, .slice x.a5 x.td.bs.length x.c5, .string x.td.g, .string x.td.a, .int .i64 x.td.r] := by
    rw [hW1]
    have := Hd.Bxn.made (w.alloc (.cells #[vn, vt, vb, .int .u64 (b.fe : Nat)] 27)) [.string x.td.n, .int .i64 x.td.z0, .int .i64 x.td.z1, .int .i64 x.td.z2, .slice x.a4 x.td.ws.length x.c4, .slice x.a5 x.td.bs.length x.c5, .string x.td.g, .string x.td.a, .int .i64 x.td.r] 42
    rwa [World.size_alloc] at this
  have HT : Hid (∀ (o : Rg.Pr) z, o ∈ b.bs → Below W1.heap.size W1 z → Calls Tryz.prog 134 #[.agg #[vn, vt, vb, .int .u64 (b.fe : Nat)], .agg #[.string o.k, .string o.v]] z fun e w' => ∃ y ∈ m, y.td = tOf b.ts o.k ∧ e = .returned (.agg #[.string y.td.n, .int .i64 y.td.z0, .int .i64 y.td.z1, .int .i64 y.td.z2, .slice y.a4 y.td.ws.length y.c4, .slice y.a5 y.td.bs.length y.c5, .string y.td.g, .string y.td.a, .int .i64 y.td.r]) ∧ Below z.heap.size z w') := by
    intro o z ho hz
    have hzw : Below w.heap.size w z := hb0.trans (hz.mono hb0.size)
    refine (task_of vn vt vb b.fe m o z (hsm.on hzw) hrm (by rw [← hkm]; exact hL.bt o ho)).mono ?_
    rintro e w' ⟨y, hy, hk, he, hb⟩
    refine ⟨y, hy, ?_, he, hb⟩
    rw [← hk]
    exact (tOf_at hL.rt (by rw [hm]; exact List.mem_map_of_mem hy)).symm
  have hsb := hB.hb.1
  have hlb := hL.lb
  obtain ⟨a, c, rfl, hcap, -, -, hc⟩ := hsb
  have HC := Lib.hid hc
  have HB0 := Lib.hid hb0
  have HBK := Lib.hid hbk
  have HTB := Lib.hid htk
  have HSZ := Lib.hid hz1'
  have HW := Lib.hid hW1
  have hbv : W1.cell? ⟨w.heap.size, 2, none⟩ = some (.slice a b.bs.length c) := hbk.cell 2
  unfold waB
  clear hc hsm hdm hb0 hbk htk hB hkm hm hz1' hL hrm
  go_enter Tryz.func128, Tryz.ntmps128
  go_upto_region 1 with fail
  rw [← HW.out]
  clear hW1
  go_wp2
  go_step3
  go_wp2
  go_step3
  go_wp2
  go_loopg [7, 13] b.bs.length (fun gg sv i wx => ∃ k : Nat, k + gg = b.bs.length ∧ i = .int .i64 k ∧ sv = .bool false ∧ Aside ((thr b.ts (b.bs.take k) v).any (fun u => !(beB x.td u)) = false) ∧ Aside (Below W1.heap.size W1 wx))
  case atStart => exact ⟨0, by omega, rfl, rfl, by show _ = _; simp [thr], Below.refl _ _⟩
  case round =>
    obtain ⟨k, hkg, rfl, rfl, HA, HB⟩ := hrel
    have hszr : w.heap.size + 1 + 1 ≤ wr.heap.size := by have := HB.out.size; rw [HSZ.out] at this; omega
    cases gk with
    | zero =>
      obtain rfl : k = b.bs.length := by omega
      have HR : Hid ((thr b.ts b.bs v).any (fun u => !(beB x.td u)) = false) := by have := HA.out; rwa [List.take_length] at this
      have HWR : Hid (Below w.heap.size w wr) := HB0.out.trans (HB.out.mono HB0.out.size)
      clear hkg
      go_wp2
      rw [Exit.noGoto_ret]
      go_ret
      exact ⟨by rw [HR.out]; rfl, HWR.out⟩
    | succ gg =>
      have hlk : k < b.bs.length := by omega
      have t2 : (k : Int) < (b.bs.length : Int) := by omega
      have t3 : IntKind.i64.wrap ((k : Int) + 1) = (k : Int) + 1 := by rw [IntKind.wrap_i64]; omega
      obtain ⟨bb, off, rfl, -, hblt, hcc⟩ := HC.out (by omega)
      have hat : At w bb (off + k * 2) b.bs[k] := hcc k hlk
      obtain ⟨d0, d1⟩ := at_bd hat
      have HWR : Hid (Below w.heap.size w wr) := HB0.out.trans (HB.out.mono HB0.out.size)
      have e0 := (HWR.out.cell (by exact hblt)).trans d0
      have e1 := (HWR.out.cell (by exact hblt)).trans d1
      have HYES := Lib.hid (thr_yes b.ts b.bs v k hlk)
      have HNO := Lib.hid (thr_no b.ts b.bs v k hlk)
      have HTK := Lib.hid (fun z => HT.out b.bs[k] z (List.getElem_mem hlk))
      have HIN : Hid (b.bs[k].v = v → tOf b.ts b.bs[k].k ∈ thr b.ts b.bs v) := fun h => List.mem_map.2 ⟨b.bs[k], List.mem_filter.2 ⟨List.getElem_mem hlk, by simp [h]⟩, rfl⟩
      clear d0 d1 hat hcc
      generalize b.bs[k] = o at *
      by_cases hov : o.v = v
      · have HTH := Lib.hid (HYES.out hov)
        have HIN2 := Lib.hid (HIN.out hov)
        have g0 : (o.v.toList == v.toList) = true := by rw [hov]; simp
        have g1 : o.v.toList = v.toList := by rw [hov]
        have g2 : (o.v.toList != v.toList) = false := by rw [hov]; simp
        clear hov HYES HNO HIN
        have H1 : Hid (Below W1.heap.size W1 (wr.alloc (.cells #[.string o.k, .string o.v] 106))) := HB.out.alloc HB.out.size _
        have HBD : Hid (Hd.Bxn (wr.alloc (.cells #[.string o.k, .string o.v] 106)) wr.heap.size [.string o.k, .string o.v]) := Hd.Bxn.made wr [.string o.k, .string o.v] 106
        go_upto_region 6 with fail
        generalize hW2 : wr.alloc (.cells #[.string o.k, .string o.v] 106) = W2 at *
        have HW2 := Lib.hid hW2
        clear hW2
        have HP : Hid (∀ z, Hid (Below W2.heap.size W2 z) → (Hid (Below W2.heap.size W2 z) ∧ z.cell? ⟨w.heap.size, 0, none⟩ = some (vn) ∧ z.cell? ⟨w.heap.size, 1, none⟩ = some (vt) ∧ z.cell? ⟨w.heap.size, 2, none⟩ = some (.slice (some ⟨bb, off, none⟩) b.bs.length c) ∧ z.cell? ⟨w.heap.size, 3, none⟩ = some (.int .u64 (b.fe : Nat)) ∧ z.cell? ⟨w.heap.size + 1, 0, none⟩ = some (.string x.td.n) ∧ z.cell? ⟨w.heap.size + 1, 1, none⟩ = some (.int .i64 x.td.z0) ∧ z.cell? ⟨w.heap.size + 1, 2, none⟩ = some (.int .i64 x.td.z1) ∧ z.cell? ⟨w.heap.size + 1, 3, none⟩ = some (.int .i64 x.td.z2) ∧ z.cell? ⟨w.heap.size + 1, 4, none⟩ = some (.slice x.a4 x.td.ws.length x.c4) ∧ z.cell? ⟨w.heap.size + 1, 5, none⟩ = some (.slice x.a5 x.td.bs.length x.c5) ∧ z.cell? ⟨w.heap.size + 1, 6, none⟩ = some (.string x.td.g) ∧ z.cell? ⟨w.heap.size + 1, 7, none⟩ = some (.string x.td.a) ∧ z.cell? ⟨w.heap.size + 1, 8, none⟩ = some (.int .i64 x.td.r) ∧ z.cell? ⟨wr.heap.size, 0, none⟩ = some (.string o.k) ∧ z.cell? ⟨wr.heap.size, 1, none⟩ = some (.string o.v))) := fun z hz => by
          have k1 := (HBK.out.below (H1.out.trans (hz.out.mono H1.out.size)))
          have k2 := (HTB.out.below (H1.out.trans (hz.out.mono H1.out.size)))
          have k3 := HBD.out.below hz.out
          exact ⟨hz, k1.cell 0, k1.cell 1, k1.cell 2, k1.cell 3, k2.cell 0, k2.cell 1, k2.cell 2, k2.cell 3, k2.cell 4, k2.cell 5, k2.cell 6, k2.cell 7, k2.cell 8, k3.cell 0, k3.cell 1⟩
        have H0d : Hid (Below W2.heap.size W2 W2.drew) := ⟨rfl, rfl, rfl, Nat.le_refl _, fun _ _ => rfl⟩
        have KD := Lib.hid (HP.out W2.drew H0d)
        have HTK2 : Hid (∀ z, Hid (Below W2.heap.size W2 z) → Calls Tryz.prog 134 #[.agg #[vn, vt, .slice (some ⟨bb, off, none⟩) b.bs.length c, .int .u64 (b.fe : Nat)], .agg #[.string o.k, .string o.v]] z fun e w' => ∃ y : TdM, y.td = tOf b.ts o.k ∧ e = .returned (.agg #[.string y.td.n, .int .i64 y.td.z0, .int .i64 y.td.z1, .int .i64 y.td.z2, .slice y.a4 y.td.ws.length y.c4, .slice y.a5 y.td.bs.length y.c5, .string y.td.g, .string y.td.a, .int .i64 y.td.r]) ∧ Hid (Below W2.heap.size W2 w')) := fun z hz => (HTK.out z (H1.out.trans (hz.out.mono H1.out.size))).mono fun e w' ⟨y, _, hy, he, hb⟩ => ⟨y, hy, he, hz.out.trans (hb.mono hz.out.size)⟩
        have HBE : Hid (∀ z (y : TdM) (r : Bool), beB x.td y.td = r → Hid (Below W2.heap.size W2 z) → Calls Tryz.prog 185 #[.agg #[.string x.td.n, .int .i64 x.td.z0, .int .i64 x.td.z1, .int .i64 x.td.z2, .slice x.a4 x.td.ws.length x.c4, .slice x.a5 x.td.bs.length x.c5, .string x.td.g, .string x.td.a, .int .i64 x.td.r], .agg #[.string y.td.n, .int .i64 y.td.z0, .int .i64 y.td.z1, .int .i64 y.td.z2, .slice y.a4 y.td.ws.length y.c4, .slice y.a5 y.td.bs.length y.c5, .string y.td.g, .string y.td.a, .int .i64 y.td.r]] z fun e w' => e = .returned (.bool r) ∧ Hid (Below W2.heap.size W2 w')) := fun z y r hr hz => (Rg.bear_at hr z).mono fun e w' ⟨he, hb⟩ => ⟨he, hz.out.trans (hb.mono hz.out.size)⟩
        cases hbe : beB x.td (tOf b.ts o.k)
        · have HR : Hid ((thr b.ts b.bs v).any (fun u => !(beB x.td u)) = true) := by
            refine List.any_eq_true.2 ⟨_, HIN2.out, ?_⟩
            rw [hbe]; rfl
          have HBE2 : Hid (∀ z (y : TdM), y.td = tOf b.ts o.k → Hid (Below W2.heap.size W2 z) → Calls Tryz.prog 185 #[.agg #[.string x.td.n, .int .i64 x.td.z0, .int .i64 x.td.z1, .int .i64 x.td.z2, .slice x.a4 x.td.ws.length x.c4, .slice x.a5 x.td.bs.length x.c5, .string x.td.g, .string x.td.a, .int .i64 x.td.r], .agg #[.string y.td.n, .int .i64 y.td.z0, .int .i64 y.td.z1, .int .i64 y.td.z2, .slice y.a4 y.td.ws.length y.c4, .slice y.a5 y.td.bs.length y.c5, .string y.td.g, .string y.td.a, .int .i64 y.td.r]] z fun e w' => e = .returned (.bool false) ∧ Hid (Below W2.heap.size W2 w')) := fun z y hy hz => HBE.out z y false (by rw [hy]; exact hbe) hz
          clear hbe HBE
          go_region_held3 (fun z => Hid (Below W2.heap.size W2 z) ∧ z.cell? ⟨w.heap.size, 0, none⟩ = some (vn) ∧ z.cell? ⟨w.heap.size, 1, none⟩ = some (vt) ∧ z.cell? ⟨w.heap.size, 2, none⟩ = some (.slice (some ⟨bb, off, none⟩) b.bs.length c) ∧ z.cell? ⟨w.heap.size, 3, none⟩ = some (.int .u64 (b.fe : Nat)) ∧ z.cell? ⟨w.heap.size + 1, 0, none⟩ = some (.string x.td.n) ∧ z.cell? ⟨w.heap.size + 1, 1, none⟩ = some (.int .i64 x.td.z0) ∧ z.cell? ⟨w.heap.size + 1, 2, none⟩ = some (.int .i64 x.td.z1) ∧ z.cell? ⟨w.heap.size + 1, 3, none⟩ = some (.int .i64 x.td.z2) ∧ z.cell? ⟨w.heap.size + 1, 4, none⟩ = some (.slice x.a4 x.td.ws.length x.c4) ∧ z.cell? ⟨w.heap.size + 1, 5, none⟩ = some (.slice x.a5 x.td.bs.length x.c5) ∧ z.cell? ⟨w.heap.size + 1, 6, none⟩ = some (.string x.td.g) ∧ z.cell? ⟨w.heap.size + 1, 7, none⟩ = some (.string x.td.a) ∧ z.cell? ⟨w.heap.size + 1, 8, none⟩ = some (.int .i64 x.td.r) ∧ z.cell? ⟨wr.heap.size, 0, none⟩ = some (.string o.k) ∧ z.cell? ⟨wr.heap.size, 1, none⟩ = some (.string o.v)) (first | assumption | exact KD.out | exact HP.out _ ‹_›)
            (first
              | ((with_reducible refine (HTK2.out _ ?_).mono ?_); (first | assumption | exact H0d); rintro e w7 ⟨y, hy, rfl, hb7⟩; have hs7 := HP.out _ hb7; have HY := Lib.hid hy; clear hy)
              | ((with_reducible refine (HBE2.out _ _ HY.out ?_).mono ?_); (first | assumption | exact H0d); rintro e w8 ⟨rfl, hb8⟩; have hs8 := HP.out _ hb8))
          all_goals
            have HE8 : Hid (Below w.heap.size w w8) := HB0.out.trans ((H1.out.trans (hb8.out.mono H1.out.size)).mono HB0.out.size)
            clear hs7 hs8
            go_wp2
            rw [Exit.noGoto_ret]
            go_ret
            exact ⟨by rw [HR.out]; rfl, HE8.out⟩
        · have HR : Hid ((thr b.ts (b.bs.take (k + 1)) v).any (fun u => !(beB x.td u)) = false) := by
            show _ = _
            rw [HTH.out, List.any_append, HA.out]
            simp [hbe]
          have HBE2 : Hid (∀ z (y : TdM), y.td = tOf b.ts o.k → Hid (Below W2.heap.size W2 z) → Calls Tryz.prog 185 #[.agg #[.string x.td.n, .int .i64 x.td.z0, .int .i64 x.td.z1, .int .i64 x.td.z2, .slice x.a4 x.td.ws.length x.c4, .slice x.a5 x.td.bs.length x.c5, .string x.td.g, .string x.td.a, .int .i64 x.td.r], .agg #[.string y.td.n, .int .i64 y.td.z0, .int .i64 y.td.z1, .int .i64 y.td.z2, .slice y.a4 y.td.ws.length y.c4, .slice y.a5 y.td.bs.length y.c5, .string y.td.g, .string y.td.a, .int .i64 y.td.r]] z fun e w' => e = .returned (.bool true) ∧ Hid (Below W2.heap.size W2 w')) := fun z y hy hz => HBE.out z y true (by rw [hy]; exact hbe) hz
          clear hbe HBE
          go_region_held3 (fun z => Hid (Below W2.heap.size W2 z) ∧ z.cell? ⟨w.heap.size, 0, none⟩ = some (vn) ∧ z.cell? ⟨w.heap.size, 1, none⟩ = some (vt) ∧ z.cell? ⟨w.heap.size, 2, none⟩ = some (.slice (some ⟨bb, off, none⟩) b.bs.length c) ∧ z.cell? ⟨w.heap.size, 3, none⟩ = some (.int .u64 (b.fe : Nat)) ∧ z.cell? ⟨w.heap.size + 1, 0, none⟩ = some (.string x.td.n) ∧ z.cell? ⟨w.heap.size + 1, 1, none⟩ = some (.int .i64 x.td.z0) ∧ z.cell? ⟨w.heap.size + 1, 2, none⟩ = some (.int .i64 x.td.z1) ∧ z.cell? ⟨w.heap.size + 1, 3, none⟩ = some (.int .i64 x.td.z2) ∧ z.cell? ⟨w.heap.size + 1, 4, none⟩ = some (.slice x.a4 x.td.ws.length x.c4) ∧ z.cell? ⟨w.heap.size + 1, 5, none⟩ = some (.slice x.a5 x.td.bs.length x.c5) ∧ z.cell? ⟨w.heap.size + 1, 6, none⟩ = some (.string x.td.g) ∧ z.cell? ⟨w.heap.size + 1, 7, none⟩ = some (.string x.td.a) ∧ z.cell? ⟨w.heap.size + 1, 8, none⟩ = some (.int .i64 x.td.r) ∧ z.cell? ⟨wr.heap.size, 0, none⟩ = some (.string o.k) ∧ z.cell? ⟨wr.heap.size, 1, none⟩ = some (.string o.v)) (first | assumption | exact KD.out | exact HP.out _ ‹_›)
            (first
              | ((with_reducible refine (HTK2.out _ ?_).mono ?_); (first | assumption | exact H0d); rintro e w7 ⟨y, hy, rfl, hb7⟩; have hs7 := HP.out _ hb7; have HY := Lib.hid hy; clear hy)
              | ((with_reducible refine (HBE2.out _ _ HY.out ?_).mono ?_); (first | assumption | exact H0d); rintro e w8 ⟨rfl, hb8⟩; have hs8 := HP.out _ hb8))
          all_goals
            have HE8 : Hid (Below W1.heap.size W1 w8) := H1.out.trans (hb8.out.mono H1.out.size)
            clear hs7 hs8
            go_wp2
            go_roundg gg
            case measure => omega
            case rel => exact ⟨k + 1, by omega, by simp, rfl, HR.out, HE8.out⟩
      · have HR : Hid ((thr b.ts (b.bs.take (k + 1)) v).any (fun u => !(beB x.td u)) = false) := by show _ = _; rw [HNO.out hov, HA.out]
        have g0 : (o.v.toList == v.toList) = false := (Hd.ba_no hov).1
        have g1 : ¬ o.v.toList = v.toList := (Hd.ba_no hov).2
        have g2 : (o.v.toList != v.toList) = true := by rw [bne, g0]; rfl
        clear hov HYES HNO HIN
        have H1 : Hid (Below W1.heap.size W1 (wr.alloc (.cells #[.string o.k, .string o.v] 106))) := HB.out.alloc HB.out.size _
        go_wp2
        go_roundg gg
        case measure => omega
        case rel => exact ⟨k + 1, by omega, by simp, rfl, HR.out, H1.out⟩
end Bo
end Go.Proofs.YthbmnkeigmbbdaaGreat

/-
  WHETHER A TASK CAN BE ON A NODE: book.can.
-/
namespace Go.Proofs.YthbmnkeigmbbdaaGreat
open Go.RowKit Go.Lib
namespace Bo
open Rw
set_option linter.unusedVariables false
theorem get_ta (v : Value) (l : List TdM) (want : ByteArray) (w : World) {A : Nat} (hv : Sl w A w.heap.size v l) (hr : Ris (l.map (·.td.n))) :
    Calls Tryz.prog 123 #[v, .func (.func 65) #[] #[], .string want] w fun e w' => ∃ x : TdM, (hasK (l.map (·.td.n)) want = true → x ∈ l ∧ x.td.n = want) ∧ e = .returned (.tuple #[.agg #[.string x.td.n, .int .i64 x.td.z0, .int .i64 x.td.z1, .int .i64 x.td.z2, .slice x.a4 x.td.ws.length x.c4, .slice x.a5 x.td.bs.length x.c5, .string x.td.g, .string x.td.a, .int .i64 x.td.r], .bool (hasK (l.map (·.td.n)) want)]) ∧ Below w.heap.size w w' := by
  refine (get_t v l want w hv hr).mono ?_
  rintro e w' ⟨h | h, hb⟩
  · obtain ⟨hh, hl, hk, he⟩ := h
    rw [hh]
    exact ⟨_, fun _ => ⟨List.getElem_mem hl, hk⟩, he, hb⟩
  · rw [h.1]
    exact ⟨⟨Hd.td0, none, 0, none, 0⟩, (fun h => by cases h), h.2, hb⟩
theorem get_na (v : Value) (l : List NdM) (want : ByteArray) (w : World) {A : Nat} (hv : Sl w A w.heap.size v l) (hr : Ris (l.map (·.nd.n))) :
    Calls Tryz.prog 124 #[v, .func (.func 62) #[] #[], .string want] w fun e w' => ∃ x : NdM, (hasK (l.map (·.nd.n)) want = true → x ∈ l ∧ x.nd.n = want) ∧ e = .returned (.tuple #[.agg #[.string x.nd.n, .int .i64 x.nd.z0, .int .i64 x.nd.z1, .int .i64 x.nd.z2, .slice x.a2 x.nd.ls.length x.c2, .slice x.a3 x.nd.ts.length x.c3], .bool (hasK (l.map (·.nd.n)) want)]) ∧ Below w.heap.size w w' := by
  refine (get_n v l want w hv hr).mono ?_
  rintro e w' ⟨h | h, hb⟩
  · obtain ⟨hh, hl, hk, he⟩ := h
    rw [hh]
    exact ⟨_, fun _ => ⟨List.getElem_mem hl, hk⟩, he, hb⟩
  · rw [h.1]
    exact ⟨⟨Hd.nd0, none, 0, none, 0⟩, (fun h => by cases h), h.2, hb⟩
set_option maxRecDepth 100000 in
set_option maxHeartbeats 4000000 in
theorem can_any (b : Bk) (vn vt vb : Value) (k v : ByteArray) (w : World) (hB : Books w w.heap.size vn vt vb b) (hL : Lists b) :
    Calls Tryz.prog 68 #[.agg #[vn, vt, vb, .int .u64 (b.fe : Nat)], .string k, .string v] w fun e w' => e = .returned (.int .i64 (canE b k v : Nat)) ∧ Below w.heap.size w w' := by
  have HBK := Lib.hid hB
  obtain ⟨m, hm, hsm, hdm, -⟩ := hB.ht
  obtain ⟨n, hn, hsn, hdn, -⟩ := hB.hn
  have hkm : b.ts.map (·.n) = m.map (·.td.n) := by rw [hm, List.map_map]; rfl
  have hkn : b.ns.map (·.n) = n.map (·.nd.n) := by rw [hn, List.map_map]; rfl
  have hrm : Ris (m.map (·.td.n)) := by rw [← hkm]; exact hL.rt
  have hrn : Ris (n.map (·.nd.n)) := by rw [← hkn]; exact hL.rn
  have h0 := al w (.cells #[vn, vt, vb, .int .u64 (b.fe : Nat)] 27)
  have hbx := Hd.Bxn.made w [vn, vt, vb, .int .u64 (b.fe : Nat)] 27
  obtain ⟨W0, hW0⟩ : ∃ W0, W0 = w.alloc (.cells #[vn, vt, vb, .int .u64 (b.fe : Nat)] 27) := ⟨_, rfl⟩
  rw [← hW0] at h0
  have hbx : Hd.Bxn W0 w.heap.size [vn, vt, vb, .int .u64 (b.fe : Nat)] := by rw [hW0]; exact hbx
  have HW := Lib.hid hW0
  have H0 := Lib.hid h0
  have HBX := Lib.hid hbx
  have HGT : Hid (∀ z, Below W0.heap.size W0 z → Calls Tryz.prog 123 #[vt, .func (.func 65) #[] #[], .string k] z fun e w' => ∃ x : TdM, (hasK (b.ts.map (·.n)) k = true → x ∈ m ∧ x.td = tOf b.ts k) ∧ e = .returned (.tuple #[.agg #[.string x.td.n, .int .i64 x.td.z0, .int .i64 x.td.z1, .int .i64 x.td.z2, .slice x.a4 x.td.ws.length x.c4, .slice x.a5 x.td.bs.length x.c5, .string x.td.g, .string x.td.a, .int .i64 x.td.r], .bool (hasK (b.ts.map (·.n)) k)]) ∧ Below z.heap.size z w') := by
    intro z hz
    rw [hkm]
    refine (get_ta vt m k z (hsm.on (H0.out.trans (hz.mono H0.out.size))) hrm).mono ?_
    rintro e w' ⟨x, hx, he, hb⟩
    refine ⟨x, fun hh => ⟨(hx hh).1, ?_⟩, he, hb⟩
    rw [← (hx hh).2]
    exact (tOf_at hL.rt (by rw [hm]; exact List.mem_map_of_mem (hx hh).1)).symm
  have HGN : Hid (∀ z, Below W0.heap.size W0 z → Calls Tryz.prog 124 #[vn, .func (.func 62) #[] #[], .string v] z fun e w' => ∃ y : NdM, (hasK (b.ns.map (·.n)) v = true → y ∈ n ∧ y.nd = nOf b.ns v) ∧ e = .returned (.tuple #[.agg #[.string y.nd.n, .int .i64 y.nd.z0, .int .i64 y.nd.z1, .int .i64 y.nd.z2, .slice y.a2 y.nd.ls.length y.c2, .slice y.a3 y.nd.ts.length y.c3], .bool (hasK (b.ns.map (·.n)) v)]) ∧ Below z.heap.size z w') := by
    intro z hz
    rw [hkn]
    refine (get_na vn n v z (hsn.on (H0.out.trans (hz.mono H0.out.size))) hrn).mono ?_
    rintro e w' ⟨x, hx, he, hb⟩
    refine ⟨x, fun hh => ⟨(hx hh).1, ?_⟩, he, hb⟩
    rw [← (hx hh).2]
    exact (nOf_at hL.rn (by rw [hn]; exact List.mem_map_of_mem (hx hh).1)).symm
  have HFB : Hid (∀ z, Below W0.heap.size W0 z → Calls Tryz.prog 125 #[vb, .func (.func 67) #[] #[], .string k] z fun e w' => (∃ i : Nat, e = .returned (.tuple #[.int .i64 (i : Nat), .bool (hasK (b.bs.map (·.k)) k)])) ∧ Below z.heap.size z w') := by
    intro z hz
    refine (find_b vb b.bs k z (HBK.out.hb.1.on (H0.out.trans (hz.mono H0.out.size))) hL.rb).mono ?_
    rintro e w' ⟨he, hb⟩
    exact ⟨⟨_, he⟩, hb⟩
  have HDM : Hid (∀ x ∈ m, ∀ z, Below W0.heap.size W0 z → Rg.Pairs z z.heap.size x.v4 x.td.ws ∧ Rg.Pairs z z.heap.size x.v5 x.td.bs) := fun x hx z hz => ((hdm x hx).1.on (H0.out.trans (hz.mono H0.out.size))).pr (hdm x hx).2
  have HDN : Hid (∀ x ∈ n, ∀ z, Below W0.heap.size W0 z → Rg.Pairs z z.heap.size x.v2 x.nd.ls ∧ Rg.Pairs z z.heap.size x.v3 x.nd.ts) := fun x hx z hz => ((hdn x hx).1.on (H0.out.trans (hz.mono H0.out.size))).pr (hdn x hx).2
  have HUS : Hid (∀ z, Below W0.heap.size W0 z → Calls Tryz.prog 73 #[.agg #[vn, vt, vb, .int .u64 (b.fe : Nat)], .string v] z fun e w' => e = .returned (.agg #[.int .i64 (us0 b v), .int .i64 (us1 b v), .int .i64 (us2 b v)]) ∧ Below z.heap.size z w') := fun z hz => used_any b vn vt vb v z (HBK.out.on (H0.out.trans (hz.mono H0.out.size))) hL
  have HWY : Hid (∀ z (x : TdM), Below W0.heap.size W0 z → Calls Tryz.prog 128 #[.agg #[vn, vt, vb, .int .u64 (b.fe : Nat)], .agg #[.string x.td.n, .int .i64 x.td.z0, .int .i64 x.td.z1, .int .i64 x.td.z2, .slice x.a4 x.td.ws.length x.c4, .slice x.a5 x.td.bs.length x.c5, .string x.td.g, .string x.td.a, .int .i64 x.td.r], .string v] z fun e w' => e = .returned (.bool (waB b x.td v)) ∧ Below z.heap.size z w') := fun z x hz => way_any b vn vt vb x v z (HBK.out.on (H0.out.trans (hz.mono H0.out.size))) hL
  obtain ⟨an, cn, hvn⟩ := HBK.out.hn.slice
  obtain ⟨at', ct, hvt⟩ := HBK.out.ht.slice
  obtain ⟨ab, cb, hvb⟩ := HBK.out.hb.slice
  subst hvn hvt hvb
  obtain ⟨E, hE⟩ : ∃ E, E = canE b k v := ⟨_, rfl⟩
  have HE := Lib.hid hE
  rw [← hE]
  clear hE hW0 hB hm hn hsm hsn hdm hdn hkm hkn hrm hrn h0 hbx
  go_enter Tryz.func68, Tryz.ntmps68
  go_upto_region 1 with fail
  rw [← HW.out]
  clear HW HBK hL
  have b0 : W0.cell? ⟨w.heap.size, 0, none⟩ = some (.slice an b.ns.length cn) := HBX.out.cell 0
  have b1 : W0.cell? ⟨w.heap.size, 1, none⟩ = some (.slice at' b.ts.length ct) := HBX.out.cell 1
  go_wp2_with fail
  refine (HGT.out _ (Below.refl _ _)).mono ?_
  rintro e w1 ⟨x, hx, rfl, hb⟩
  have HX := Lib.hid hx
  have H1 := Lib.hid hb
  have HT1 : Hid (Hd.Bxn (w1.alloc (.cells #[.string x.td.n, .int .i64 x.td.z0, .int .i64 x.td.z1, .int .i64 x.td.z2, .slice x.a4 x.td.ws.length x.c4, .slice x.a5 x.td.bs.length x.c5, .string x.td.g, .string x.td.a, .int .i64 x.td.r] 42)) w1.heap.size (tdE x)) := Hd.Bxn.made w1 (tdE x) 42
  have H2 : Hid (Below W0.heap.size W0 (w1.alloc (.cells #[.string x.td.n, .int .i64 x.td.z0, .int .i64 x.td.z1, .int .i64 x.td.z2, .slice x.a4 x.td.ws.length x.c4, .slice x.a5 x.td.bs.length x.c5, .string x.td.g, .string x.td.a, .int .i64 x.td.r] 42))) := H1.out.alloc H1.out.size _
  have HB1 : Hid (Hd.Bxn (w1.alloc (.cells #[.string x.td.n, .int .i64 x.td.z0, .int .i64 x.td.z1, .int .i64 x.td.z2, .slice x.a4 x.td.ws.length x.c4, .slice x.a5 x.td.bs.length x.c5, .string x.td.g, .string x.td.a, .int .i64 x.td.r] 42)) w.heap.size [.slice an b.ns.length cn, .slice at' b.ts.length ct, .slice ab b.bs.length cb, .int .u64 (b.fe : Nat)]) := HBX.out.below H2.out
  clear hx hb HBX b0 b1 HGT
  go_upto_region 2 with fail
  generalize hW2 : w1.alloc (.cells #[.string x.td.n, .int .i64 x.td.z0, .int .i64 x.td.z1, .int .i64 x.td.z2, .slice x.a4 x.td.ws.length x.c4, .slice x.a5 x.td.bs.length x.c5, .string x.td.g, .string x.td.a, .int .i64 x.td.r] 42) = W2 at *
  have HW2 := Lib.hid hW2
  clear hW2
  have b0 : W2.cell? ⟨w.heap.size, 0, none⟩ = some (.slice an b.ns.length cn) := HB1.out.cell 0
  go_wp2_with fail
  refine (HGN.out _ H2.out).mono ?_
  rintro e w3 ⟨y, hy, rfl, hb⟩
  have HY := Lib.hid hy
  have H3 : Hid (Below W0.heap.size W0 w3) := H2.out.trans (hb.mono H2.out.size)
  have HT3 : Hid (Hd.Bxn (w3.alloc (.cells #[.string y.nd.n, .int .i64 y.nd.z0, .int .i64 y.nd.z1, .int .i64 y.nd.z2, .slice y.a2 y.nd.ls.length y.c2, .slice y.a3 y.nd.ts.length y.c3] 45)) w1.heap.size (tdE x)) := (HT1.out.below hb).below (al w3 _)
  have HB3 : Hid (Hd.Bxn (w3.alloc (.cells #[.string y.nd.n, .int .i64 y.nd.z0, .int .i64 y.nd.z1, .int .i64 y.nd.z2, .slice y.a2 y.nd.ls.length y.c2, .slice y.a3 y.nd.ts.length y.c3] 45)) w.heap.size [.slice an b.ns.length cn, .slice at' b.ts.length ct, .slice ab b.bs.length cb, .int .u64 (b.fe : Nat)]) := (HB1.out.below hb).below (al w3 _)
  have HN3 : Hid (Hd.Bxn (w3.alloc (.cells #[.string y.nd.n, .int .i64 y.nd.z0, .int .i64 y.nd.z1, .int .i64 y.nd.z2, .slice y.a2 y.nd.ls.length y.c2, .slice y.a3 y.nd.ts.length y.c3] 45)) w3.heap.size (ndE y)) := Hd.Bxn.made w3 (ndE y) 45
  have H4 : Hid (Below W0.heap.size W0 (w3.alloc (.cells #[.string y.nd.n, .int .i64 y.nd.z0, .int .i64 y.nd.z1, .int .i64 y.nd.z2, .slice y.a2 y.nd.ls.length y.c2, .slice y.a3 y.nd.ts.length y.c3] 45))) := H3.out.alloc H3.out.size _
  clear hy hb HT1 HB1 b0 HGN
  go_upto_region 3 with fail
  generalize hW4 : w3.alloc (.cells #[.string y.nd.n, .int .i64 y.nd.z0, .int .i64 y.nd.z1, .int .i64 y.nd.z2, .slice y.a2 y.nd.ls.length y.c2, .slice y.a3 y.nd.ts.length y.c3] 45) = W4 at *
  have HW4 := Lib.hid hW4
  clear hW4
  have b0 : W4.cell? ⟨w.heap.size, 2, none⟩ = some (.slice ab b.bs.length cb) := HB3.out.cell 2
  go_wp2_with fail
  refine (HFB.out _ H4.out).mono ?_
  rintro e w5 ⟨⟨i, rfl⟩, hb⟩
  have H5 : Hid (Below W0.heap.size W0 w5) := H4.out.trans (hb.mono H4.out.size)
  have HT5 : Hid (Hd.Bxn w5 w1.heap.size (tdE x)) := HT3.out.below hb
  have HB5 : Hid (Hd.Bxn w5 w.heap.size [.slice an b.ns.length cn, .slice at' b.ts.length ct, .slice ab b.bs.length cb, .int .u64 (b.fe : Nat)]) := HB3.out.below hb
  have HN5 : Hid (Hd.Bxn w5 w3.heap.size (ndE y)) := HN3.out.below hb
  have HW5 : Hid (Below w.heap.size w w5) := H0.out.trans (H5.out.mono H0.out.size)
  clear hb HT3 HB3 HN3 b0 HFB
  unfold canE at HE
  obtain ⟨qt, hqt⟩ : ∃ q, q = hasK (b.ts.map (·.n)) k := ⟨_, rfl⟩
  obtain ⟨qn, hqn⟩ : ∃ q, q = hasK (b.ns.map (·.n)) v := ⟨_, rfl⟩
  obtain ⟨qb, hqb⟩ : ∃ q, q = hasK (b.bs.map (·.k)) k := ⟨_, rfl⟩
  rw [← hqt] at HX HE ⊢
  rw [← hqn] at HY HE ⊢
  rw [← hqb] at HE ⊢
  clear hqt hqn hqb
  cases qt
  · have HE2 : Hid (E = 6) := by show _ = _; rw [HE.out]; simp
    clear HE HX HY HDM HDN HUS HWY
    go_wp2
    go_ret
    exact ⟨by rw [HE2.out]; rfl, HW5.out⟩
  cases qn
  · have HE2 : Hid (E = 6) := by show _ = _; rw [HE.out]; simp
    clear HE HX HY HDM HDN HUS HWY
    go_wp2
    go_ret
    exact ⟨by rw [HE2.out]; rfl, HW5.out⟩
  cases qb
  rotate_left
  · have HE2 : Hid (E = 7) := by show _ = _; rw [HE.out]; simp
    clear HE HX HY HDM HDN HUS HWY
    go_wp2
    go_ret
    exact ⟨by rw [HE2.out]; rfl, HW5.out⟩
  obtain ⟨hxm, hxt⟩ := HX.out rfl
  obtain ⟨hyn, hyt⟩ := HY.out rfl
  have HE2 : Hid (E = if suB x.td y.nd = true then (if roB b x.td y.nd v = true then (if waB b x.td v = true then 13 else 0) else 13) else 13) := by show _ = _; rw [HE.out, hxt, hyt]; simp
  clear HE HX HY hxt hyt
  have HP : Hid (∀ z, Hid (Below w5.heap.size w5 z) → (Hid (Below w5.heap.size w5 z) ∧ z.cell? ⟨w.heap.size, 0, none⟩ = some (.slice an b.ns.length cn) ∧ z.cell? ⟨w.heap.size, 1, none⟩ = some (.slice at' b.ts.length ct) ∧ z.cell? ⟨w.heap.size, 2, none⟩ = some (.slice ab b.bs.length cb) ∧ z.cell? ⟨w.heap.size, 3, none⟩ = some (.int .u64 (b.fe : Nat)) ∧ z.cell? ⟨w1.heap.size, 0, none⟩ = some (.string x.td.n) ∧ z.cell? ⟨w1.heap.size, 1, none⟩ = some (.int .i64 x.td.z0) ∧ z.cell? ⟨w1.heap.size, 2, none⟩ = some (.int .i64 x.td.z1) ∧ z.cell? ⟨w1.heap.size, 3, none⟩ = some (.int .i64 x.td.z2) ∧ z.cell? ⟨w1.heap.size, 4, none⟩ = some (.slice x.a4 x.td.ws.length x.c4) ∧ z.cell? ⟨w1.heap.size, 5, none⟩ = some (.slice x.a5 x.td.bs.length x.c5) ∧ z.cell? ⟨w1.heap.size, 6, none⟩ = some (.string x.td.g) ∧ z.cell? ⟨w1.heap.size, 7, none⟩ = some (.string x.td.a) ∧ z.cell? ⟨w1.heap.size, 8, none⟩ = some (.int .i64 x.td.r) ∧ z.cell? ⟨w3.heap.size, 0, none⟩ = some (.string y.nd.n) ∧ z.cell? ⟨w3.heap.size, 1, none⟩ = some (.int .i64 y.nd.z0) ∧ z.cell? ⟨w3.heap.size, 2, none⟩ = some (.int .i64 y.nd.z1) ∧ z.cell? ⟨w3.heap.size, 3, none⟩ = some (.int .i64 y.nd.z2) ∧ z.cell? ⟨w3.heap.size, 4, none⟩ = some (.slice y.a2 y.nd.ls.length y.c2) ∧ z.cell? ⟨w3.heap.size, 5, none⟩ = some (.slice y.a3 y.nd.ts.length y.c3))) := fun z hz => by
    have k1 := HB5.out.below hz.out
    have k2 := HT5.out.below hz.out
    have k3 := HN5.out.below hz.out
    exact ⟨hz, k1.cell 0, k1.cell 1, k1.cell 2, k1.cell 3, k2.cell 0, k2.cell 1, k2.cell 2, k2.cell 3, k2.cell 4, k2.cell 5, k2.cell 6, k2.cell 7, k2.cell 8, k3.cell 0, k3.cell 1, k3.cell 2, k3.cell 3, k3.cell 4, k3.cell 5⟩
  have H0d : Hid (Below w5.heap.size w5 w5.drew) := ⟨rfl, rfl, rfl, Nat.le_refl _, fun _ _ => rfl⟩
  have KD := Lib.hid (HP.out w5.drew H0d)
  have HON : Hid (∀ z, Hid (Below w5.heap.size w5 z) → Below W0.heap.size W0 z) := fun z hz => H5.out.trans (hz.out.mono H5.out.size)
  have HSU : Hid (∀ z (r : Bool), suB x.td y.nd = r → Hid (Below w5.heap.size w5 z) → Calls Tryz.prog 126 #[.agg #[.string x.td.n, .int .i64 x.td.z0, .int .i64 x.td.z1, .int .i64 x.td.z2, .slice x.a4 x.td.ws.length x.c4, .slice x.a5 x.td.bs.length x.c5, .string x.td.g, .string x.td.a, .int .i64 x.td.r], .agg #[.string y.nd.n, .int .i64 y.nd.z0, .int .i64 y.nd.z1, .int .i64 y.nd.z2, .slice y.a2 y.nd.ls.length y.c2, .slice y.a3 y.nd.ts.length y.c3]] z fun e w' => e = .returned (.bool r) ∧ Hid (Below w5.heap.size w5 w')) := fun z r hr hz => by
    have hd := HDM.out x hxm z (HON.out z hz)
    have hd2 := HDN.out y hyn z (HON.out z hz)
    exact (Rg.suits_at hr hd.1 hd.2 hd2.1 hd2.2).mono fun e w' ⟨he, hb⟩ => ⟨he, hz.out.trans (hb.mono hz.out.size)⟩
  have HUS2 : Hid (∀ z, Hid (Below w5.heap.size w5 z) → Calls Tryz.prog 73 #[.agg #[.slice an b.ns.length cn, .slice at' b.ts.length ct, .slice ab b.bs.length cb, .int .u64 (b.fe : Nat)], .string v] z fun e w' => e = .returned (.agg #[.int .i64 (us0 b v), .int .i64 (us1 b v), .int .i64 (us2 b v)]) ∧ Hid (Below w5.heap.size w5 w')) := fun z hz => (HUS.out z (HON.out z hz)).mono fun e w' ⟨he, hb⟩ => ⟨he, hz.out.trans (hb.mono hz.out.size)⟩
  have HRO : Hid (∀ z (r : Bool), roB b x.td y.nd v = r → Hid (Below w5.heap.size w5 z) → Calls Tryz.prog 127 #[.agg #[.string y.nd.n, .int .i64 y.nd.z0, .int .i64 y.nd.z1, .int .i64 y.nd.z2, .slice y.a2 y.nd.ls.length y.c2, .slice y.a3 y.nd.ts.length y.c3], .agg #[.int .i64 (us0 b v), .int .i64 (us1 b v), .int .i64 (us2 b v)], .agg #[.int .i64 x.td.z0, .int .i64 x.td.z1, .int .i64 x.td.z2]] z fun e w' => e = .returned (.bool r) ∧ Hid (Below w5.heap.size w5 w')) := fun z r hr hz => (Rg.room_at hr z).mono fun e w' ⟨he, hb⟩ => ⟨he, hz.out.trans (hb.mono hz.out.size)⟩
  have HWA : Hid (∀ z (r : Bool), waB b x.td v = r → Hid (Below w5.heap.size w5 z) → Calls Tryz.prog 128 #[.agg #[.slice an b.ns.length cn, .slice at' b.ts.length ct, .slice ab b.bs.length cb, .int .u64 (b.fe : Nat)], .agg #[.string x.td.n, .int .i64 x.td.z0, .int .i64 x.td.z1, .int .i64 x.td.z2, .slice x.a4 x.td.ws.length x.c4, .slice x.a5 x.td.bs.length x.c5, .string x.td.g, .string x.td.a, .int .i64 x.td.r], .string v] z fun e w' => e = .returned (.bool r) ∧ Hid (Below w5.heap.size w5 w')) := fun z r hr hz => by
    rw [← hr]
    exact (HWY.out z x (HON.out z hz)).mono fun e w' ⟨he, hb⟩ => ⟨he, hz.out.trans (hb.mono hz.out.size)⟩
  clear HUS HWY HDM HDN
  cases hsu : suB x.td y.nd
  · have HE3 : Hid (E = 13) := by show _ = _; rw [HE2.out, hsu]; rfl
    have HS1 := Lib.hid (fun z => HSU.out z false hsu)
    clear HE2 HSU hsu
    go_upto_region 8 with fail
    refine wp_region_held_drew (S := fun z => Hid (Below w5.heap.size w5 z) ∧ z.cell? ⟨w.heap.size, 0, none⟩ = some (.slice an b.ns.length cn) ∧ z.cell? ⟨w.heap.size, 1, none⟩ = some (.slice at' b.ts.length ct) ∧ z.cell? ⟨w.heap.size, 2, none⟩ = some (.slice ab b.bs.length cb) ∧ z.cell? ⟨w.heap.size, 3, none⟩ = some (.int .u64 (b.fe : Nat)) ∧ z.cell? ⟨w1.heap.size, 0, none⟩ = some (.string x.td.n) ∧ z.cell? ⟨w1.heap.size, 1, none⟩ = some (.int .i64 x.td.z0) ∧ z.cell? ⟨w1.heap.size, 2, none⟩ = some (.int .i64 x.td.z1) ∧ z.cell? ⟨w1.heap.size, 3, none⟩ = some (.int .i64 x.td.z2) ∧ z.cell? ⟨w1.heap.size, 4, none⟩ = some (.slice x.a4 x.td.ws.length x.c4) ∧ z.cell? ⟨w1.heap.size, 5, none⟩ = some (.slice x.a5 x.td.bs.length x.c5) ∧ z.cell? ⟨w1.heap.size, 6, none⟩ = some (.string x.td.g) ∧ z.cell? ⟨w1.heap.size, 7, none⟩ = some (.string x.td.a) ∧ z.cell? ⟨w1.heap.size, 8, none⟩ = some (.int .i64 x.td.r) ∧ z.cell? ⟨w3.heap.size, 0, none⟩ = some (.string y.nd.n) ∧ z.cell? ⟨w3.heap.size, 1, none⟩ = some (.int .i64 y.nd.z0) ∧ z.cell? ⟨w3.heap.size, 2, none⟩ = some (.int .i64 y.nd.z1) ∧ z.cell? ⟨w3.heap.size, 3, none⟩ = some (.int .i64 y.nd.z2) ∧ z.cell? ⟨w3.heap.size, 4, none⟩ = some (.slice y.a2 y.nd.ls.length y.c2) ∧ z.cell? ⟨w3.heap.size, 5, none⟩ = some (.slice y.a3 y.nd.ts.length y.c3)) (by kernel_rfl) KD.out (fun hHeld => ?_)
    refine wpAnyH_take (i := 0) (v := ?_) rfl (by kernel_rfl) (by kernel_rfl) (by kernel_rfl) (fun _ _ _ h => h) (Or.inl ⟨by rfl, ?_⟩) (by assumption) ?_
    rotate_left
    · intro z hSz
      obtain ⟨-, c0, c1, c2, c3, c4, c5, c6, c7, c8, c9, c10, c11, c12, c13, c14, c15, c16, c17, c18⟩ := hSz
      go_simp
      try with_reducible rfl
    try simp only [Act.put, List.setIfInBounds_toArray, List.set_cons_zero, List.set_cons_succ, List.getElem_toArray, List.getElem_cons_zero]
    refine wpAnyH_take (i := 1) (v := ?_) rfl (by kernel_rfl) (by kernel_rfl) (by kernel_rfl) (fun _ _ _ h => h) (Or.inl ⟨by rfl, ?_⟩) (by assumption) ?_
    rotate_left
    · intro z hSz
      obtain ⟨-, c0, c1, c2, c3, c4, c5, c6, c7, c8, c9, c10, c11, c12, c13, c14, c15, c16, c17, c18⟩ := hSz
      go_simp
      try with_reducible rfl
    try simp only [Act.put, List.setIfInBounds_toArray, List.set_cons_zero, List.set_cons_succ, List.getElem_toArray, List.getElem_cons_succ, List.getElem_cons_zero]
    refine wpAnyH_ready (rs := [2]) (by kernel_rfl) (by simp) ?_
    refine AllReadyH.cons rfl (fun K hK => ?_) AllReadyH.nil
    go_simp
    (with_reducible refine (HS1.out _ ?_).mono ?_)
    · first | assumption | exact H0d
    rintro e w7 ⟨rfl, hb7⟩
    refine hK.out _ _ (HP.out _ hb7) (fun hHeld2 => ?_)
    clear hK K hHeld
    have hHeld := hHeld2
    clear hHeld2
    try simp only [Act.put, List.setIfInBounds_toArray, List.set_cons_zero, List.set_cons_succ, List.getElem_toArray, List.getElem_cons_succ, List.getElem_cons_zero]
    refine wpAnyH_take (i := 3) (v := ?_) rfl (by kernel_rfl) (by kernel_rfl) (by kernel_rfl) (fun _ _ _ h => h) (Or.inl ⟨by rfl, ?_⟩) (by assumption) ?_
    rotate_left
    · intro z hSz
      obtain ⟨-, c0, c1, c2, c3, c4, c5, c6, c7, c8, c9, c10, c11, c12, c13, c14, c15, c16, c17, c18⟩ := hSz
      go_simp
      try with_reducible rfl
    try simp only [Act.put, List.setIfInBounds_toArray, List.set_cons_zero, List.set_cons_succ, List.getElem_toArray, List.getElem_cons_succ, List.getElem_cons_zero]
    refine wpAnyH_take (i := 4) (v := ?_) rfl (by kernel_rfl) (by kernel_rfl) (by kernel_rfl) (fun _ _ _ h => h) (Or.inl ⟨by rfl, ?_⟩) (by assumption) ?_
    rotate_left
    · intro z hSz
      obtain ⟨-, c0, c1, c2, c3, c4, c5, c6, c7, c8, c9, c10, c11, c12, c13, c14, c15, c16, c17, c18⟩ := hSz
      go_simp
      try with_reducible rfl
    try simp only [Act.put, List.setIfInBounds_toArray, List.set_cons_zero, List.set_cons_succ, List.getElem_toArray, List.getElem_cons_succ, List.getElem_cons_zero]
    refine wpAnyH_take (i := 5) (v := undef) rfl (by kernel_rfl) (by kernel_rfl) (by kernel_rfl) (fun _ _ _ h => h) (Or.inr ⟨by rfl, rfl⟩) (by assumption) ?_
    try simp only [Act.put, List.setIfInBounds_toArray, List.set_cons_zero, List.set_cons_succ, List.getElem_toArray, List.getElem_cons_succ, List.getElem_cons_zero]
    refine wpAnyH_take (i := 6) (v := undef) rfl (by kernel_rfl) (by kernel_rfl) (by kernel_rfl) (fun _ _ _ h => h) (Or.inr ⟨by rfl, rfl⟩) (by assumption) ?_
    try simp only [Act.put, List.setIfInBounds_toArray, List.set_cons_zero, List.set_cons_succ, List.getElem_toArray, List.getElem_cons_succ, List.getElem_cons_zero]
    refine wpAnyH_take (i := 7) (v := undef) rfl (by kernel_rfl) (by kernel_rfl) (by kernel_rfl) (fun _ _ _ h => h) (Or.inr ⟨by rfl, rfl⟩) (by assumption) ?_
    try simp only [Act.put, List.setIfInBounds_toArray, List.set_cons_zero, List.set_cons_succ, List.getElem_toArray, List.getElem_cons_succ, List.getElem_cons_zero]
    refine wpAnyH_take (i := 8) (v := undef) rfl (by kernel_rfl) (by kernel_rfl) (by kernel_rfl) (fun _ _ _ h => h) (Or.inr ⟨by rfl, rfl⟩) (by assumption) ?_
    try simp only [Act.put, List.setIfInBounds_toArray, List.set_cons_zero, List.set_cons_succ, List.getElem_toArray, List.getElem_cons_succ, List.getElem_cons_zero]
    refine wpAnyH_take (i := 9) (v := undef) rfl (by kernel_rfl) (by kernel_rfl) (by kernel_rfl) (fun _ _ _ h => h) (Or.inr ⟨by rfl, rfl⟩) (by assumption) ?_
    try simp only [Act.put, List.setIfInBounds_toArray, List.set_cons_zero, List.set_cons_succ, List.getElem_toArray, List.getElem_cons_succ, List.getElem_cons_zero]
    refine wpAnyH_take (i := 10) (v := undef) rfl (by kernel_rfl) (by kernel_rfl) (by kernel_rfl) (fun _ _ _ h => h) (Or.inr ⟨by rfl, rfl⟩) (by assumption) ?_
    try simp only [Act.put, List.setIfInBounds_toArray, List.set_cons_zero, List.set_cons_succ, List.getElem_toArray, List.getElem_cons_succ, List.getElem_cons_zero]
    refine wpAnyH_take (i := 11) (v := undef) rfl (by kernel_rfl) (by kernel_rfl) (by kernel_rfl) (fun _ _ _ h => h) (Or.inr ⟨by rfl, rfl⟩) (by assumption) ?_
    try simp only [Act.put, List.setIfInBounds_toArray, List.set_cons_zero, List.set_cons_succ, List.getElem_toArray, List.getElem_cons_succ, List.getElem_cons_zero]
    refine wpAnyH_take (i := 12) (v := undef) rfl (by kernel_rfl) (by kernel_rfl) (by kernel_rfl) (fun _ _ _ h => h) (Or.inr ⟨by rfl, rfl⟩) (by assumption) ?_
    try simp only [Act.put, List.setIfInBounds_toArray, List.set_cons_zero, List.set_cons_succ, List.getElem_toArray, List.getElem_cons_succ, List.getElem_cons_zero]
    refine wpAnyH_take (i := 13) (v := ?_) rfl (by kernel_rfl) (by kernel_rfl) (by kernel_rfl) (fun _ _ _ h => h) (Or.inl ⟨by rfl, ?_⟩) (by assumption) ?_
    rotate_left
    · intro z hSz
      obtain ⟨-, c0, c1, c2, c3, c4, c5, c6, c7, c8, c9, c10, c11, c12, c13, c14, c15, c16, c17, c18⟩ := hSz
      go_simp
      try with_reducible rfl
    try simp only [Act.put, List.setIfInBounds_toArray, List.set_cons_zero, List.set_cons_succ, List.getElem_toArray, List.getElem_cons_succ, List.getElem_cons_zero]
    refine wpAnyH_take (i := 14) (v := ?_) rfl (by kernel_rfl) (by kernel_rfl) (by kernel_rfl) (fun _ _ _ h => h) (Or.inl ⟨by rfl, ?_⟩) (by assumption) ?_
    rotate_left
    · intro z hSz
      obtain ⟨-, c0, c1, c2, c3, c4, c5, c6, c7, c8, c9, c10, c11, c12, c13, c14, c15, c16, c17, c18⟩ := hSz
      go_simp
      try with_reducible rfl
    try simp only [Act.put, List.setIfInBounds_toArray, List.set_cons_zero, List.set_cons_succ, List.getElem_toArray, List.getElem_cons_succ, List.getElem_cons_zero]
    refine wpAnyH_take (i := 15) (v := undef) rfl (by kernel_rfl) (by kernel_rfl) (by kernel_rfl) (fun _ _ _ h => h) (Or.inr ⟨by rfl, rfl⟩) (by assumption) ?_
    try simp only [Act.put, List.setIfInBounds_toArray, List.set_cons_zero, List.set_cons_succ, List.getElem_toArray, List.getElem_cons_succ, List.getElem_cons_zero]
    refine wpAnyH_take (i := 16) (v := undef) rfl (by kernel_rfl) (by kernel_rfl) (by kernel_rfl) (fun _ _ _ h => h) (Or.inr ⟨by rfl, rfl⟩) (by assumption) ?_
    try simp only [Act.put, List.setIfInBounds_toArray, List.set_cons_zero, List.set_cons_succ, List.getElem_toArray, List.getElem_cons_succ, List.getElem_cons_zero]
    refine wpAnyH_take (i := 17) (v := undef) rfl (by kernel_rfl) (by kernel_rfl) (by kernel_rfl) (fun _ _ _ h => h) (Or.inr ⟨by rfl, rfl⟩) (by assumption) ?_
    try simp only [Act.put, List.setIfInBounds_toArray, List.set_cons_zero, List.set_cons_succ, List.getElem_toArray, List.getElem_cons_succ, List.getElem_cons_zero]
    refine wpAnyH_take (i := 18) (v := undef) rfl (by kernel_rfl) (by kernel_rfl) (by kernel_rfl) (fun _ _ _ h => h) (Or.inr ⟨by rfl, rfl⟩) (by assumption) ?_
    try simp only [Act.put, List.setIfInBounds_toArray, List.set_cons_zero, List.set_cons_succ, List.getElem_toArray, List.getElem_cons_succ, List.getElem_cons_zero]
    refine wpAnyH_take (i := 19) (v := ?_) rfl (by kernel_rfl) (by kernel_rfl) (by kernel_rfl) (fun _ _ _ h => h) (Or.inl ⟨by rfl, ?_⟩) (by assumption) ?_
    rotate_left
    · intro z hSz
      obtain ⟨-, c0, c1, c2, c3, c4, c5, c6, c7, c8, c9, c10, c11, c12, c13, c14, c15, c16, c17, c18⟩ := hSz
      go_simp
      try with_reducible rfl
    try simp only [Act.put, List.setIfInBounds_toArray, List.set_cons_zero, List.set_cons_succ, List.getElem_toArray, List.getElem_cons_succ, List.getElem_cons_zero]
    refine wpAnyH_take (i := 20) (v := ?_) rfl (by kernel_rfl) (by kernel_rfl) (by kernel_rfl) (fun _ _ _ h => h) (Or.inl ⟨by rfl, ?_⟩) (by assumption) ?_
    rotate_left
    · intro z hSz
      obtain ⟨-, c0, c1, c2, c3, c4, c5, c6, c7, c8, c9, c10, c11, c12, c13, c14, c15, c16, c17, c18⟩ := hSz
      go_simp
      try with_reducible rfl
    try simp only [Act.put, List.setIfInBounds_toArray, List.set_cons_zero, List.set_cons_succ, List.getElem_toArray, List.getElem_cons_succ, List.getElem_cons_zero]
    refine wpAnyH_done (by kernel_rfl) ?_ _
    have HE8 : Hid (Below w.heap.size w w7) := HW5.out.trans (hb7.out.mono HW5.out.size)
    clear hHeld
    go_wp2
    go_ret
    exact ⟨by rw [HE3.out]; rfl, HE8.out⟩
  · have HS1 := Lib.hid (fun z => HSU.out z true hsu)
    cases hro : roB b x.td y.nd v
    · have HE3 : Hid (E = 13) := by show _ = _; rw [HE2.out, hsu, hro]; rfl
      have HR1 := Lib.hid (fun z => HRO.out z false hro)
      clear HE2 HSU hsu HRO hro HWA
      obtain ⟨s0, hs0⟩ : ∃ s0, s0 = us0 b v := ⟨_, rfl⟩
      obtain ⟨s1, hs1⟩ : ∃ s1, s1 = us1 b v := ⟨_, rfl⟩
      obtain ⟨s2, hs2⟩ : ∃ s2, s2 = us2 b v := ⟨_, rfl⟩
      rw [← hs0, ← hs1, ← hs2] at HUS2 HR1
      clear hs0 hs1 hs2
      go_upto_region 8 with fail
      refine wp_region_held_drew (S := fun z => Hid (Below w5.heap.size w5 z) ∧ z.cell? ⟨w.heap.size, 0, none⟩ = some (.slice an b.ns.length cn) ∧ z.cell? ⟨w.heap.size, 1, none⟩ = some (.slice at' b.ts.length ct) ∧ z.cell? ⟨w.heap.size, 2, none⟩ = some (.slice ab b.bs.length cb) ∧ z.cell? ⟨w.heap.size, 3, none⟩ = some (.int .u64 (b.fe : Nat)) ∧ z.cell? ⟨w1.heap.size, 0, none⟩ = some (.string x.td.n) ∧ z.cell? ⟨w1.heap.size, 1, none⟩ = some (.int .i64 x.td.z0) ∧ z.cell? ⟨w1.heap.size, 2, none⟩ = some (.int .i64 x.td.z1) ∧ z.cell? ⟨w1.heap.size, 3, none⟩ = some (.int .i64 x.td.z2) ∧ z.cell? ⟨w1.heap.size, 4, none⟩ = some (.slice x.a4 x.td.ws.length x.c4) ∧ z.cell? ⟨w1.heap.size, 5, none⟩ = some (.slice x.a5 x.td.bs.length x.c5) ∧ z.cell? ⟨w1.heap.size, 6, none⟩ = some (.string x.td.g) ∧ z.cell? ⟨w1.heap.size, 7, none⟩ = some (.string x.td.a) ∧ z.cell? ⟨w1.heap.size, 8, none⟩ = some (.int .i64 x.td.r) ∧ z.cell? ⟨w3.heap.size, 0, none⟩ = some (.string y.nd.n) ∧ z.cell? ⟨w3.heap.size, 1, none⟩ = some (.int .i64 y.nd.z0) ∧ z.cell? ⟨w3.heap.size, 2, none⟩ = some (.int .i64 y.nd.z1) ∧ z.cell? ⟨w3.heap.size, 3, none⟩ = some (.int .i64 y.nd.z2) ∧ z.cell? ⟨w3.heap.size, 4, none⟩ = some (.slice y.a2 y.nd.ls.length y.c2) ∧ z.cell? ⟨w3.heap.size, 5, none⟩ = some (.slice y.a3 y.nd.ts.length y.c3)) (by kernel_rfl) KD.out (fun hHeld => ?_)
      refine wpAnyH_take (i := 0) (v := ?_) rfl (by kernel_rfl) (by kernel_rfl) (by kernel_rfl) (fun _ _ _ h => h) (Or.inl ⟨by rfl, ?_⟩) (by assumption) ?_
      rotate_left
      · intro z hSz
        obtain ⟨-, c0, c1, c2, c3, c4, c5, c6, c7, c8, c9, c10, c11, c12, c13, c14, c15, c16, c17, c18⟩ := hSz
        go_simp
        try with_reducible rfl
      try simp only [Act.put, List.setIfInBounds_toArray, List.set_cons_zero, List.set_cons_succ, List.getElem_toArray, List.getElem_cons_zero]
      refine wpAnyH_take (i := 1) (v := ?_) rfl (by kernel_rfl) (by kernel_rfl) (by kernel_rfl) (fun _ _ _ h => h) (Or.inl ⟨by rfl, ?_⟩) (by assumption) ?_
      rotate_left
      · intro z hSz
        obtain ⟨-, c0, c1, c2, c3, c4, c5, c6, c7, c8, c9, c10, c11, c12, c13, c14, c15, c16, c17, c18⟩ := hSz
        go_simp
        try with_reducible rfl
      try simp only [Act.put, List.setIfInBounds_toArray, List.set_cons_zero, List.set_cons_succ, List.getElem_toArray, List.getElem_cons_succ, List.getElem_cons_zero]
      refine wpAnyH_ready (rs := [2]) (by kernel_rfl) (by simp) ?_
      refine AllReadyH.cons rfl (fun K hK => ?_) AllReadyH.nil
      go_simp
      (with_reducible refine (HS1.out _ ?_).mono ?_)
      · first | assumption | exact H0d
      rintro e w7 ⟨rfl, hb7⟩
      refine hK.out _ _ (HP.out _ hb7) (fun hHeld2 => ?_)
      clear hK K hHeld
      have hHeld := hHeld2
      clear hHeld2
      try simp only [Act.put, List.setIfInBounds_toArray, List.set_cons_zero, List.set_cons_succ, List.getElem_toArray, List.getElem_cons_succ, List.getElem_cons_zero]
      refine wpAnyH_take (i := 3) (v := ?_) rfl (by kernel_rfl) (by kernel_rfl) (by kernel_rfl) (fun _ _ _ h => h) (Or.inl ⟨by rfl, ?_⟩) (by assumption) ?_
      rotate_left
      · intro z hSz
        obtain ⟨-, c0, c1, c2, c3, c4, c5, c6, c7, c8, c9, c10, c11, c12, c13, c14, c15, c16, c17, c18⟩ := hSz
        go_simp
        try with_reducible rfl
      try simp only [Act.put, List.setIfInBounds_toArray, List.set_cons_zero, List.set_cons_succ, List.getElem_toArray, List.getElem_cons_succ, List.getElem_cons_zero]
      refine wpAnyH_take (i := 4) (v := ?_) rfl (by kernel_rfl) (by kernel_rfl) (by kernel_rfl) (fun _ _ _ h => h) (Or.inl ⟨by rfl, ?_⟩) (by assumption) ?_
      rotate_left
      · intro z hSz
        obtain ⟨-, c0, c1, c2, c3, c4, c5, c6, c7, c8, c9, c10, c11, c12, c13, c14, c15, c16, c17, c18⟩ := hSz
        go_simp
        try with_reducible rfl
      try simp only [Act.put, List.setIfInBounds_toArray, List.set_cons_zero, List.set_cons_succ, List.getElem_toArray, List.getElem_cons_succ, List.getElem_cons_zero]
      refine wpAnyH_take (i := 5) (v := ?_) rfl (by kernel_rfl) (by kernel_rfl) (by kernel_rfl) (fun _ _ _ h => h) (Or.inl ⟨by rfl, ?_⟩) (by assumption) ?_
      rotate_left
      · intro z hSz
        obtain ⟨-, c0, c1, c2, c3, c4, c5, c6, c7, c8, c9, c10, c11, c12, c13, c14, c15, c16, c17, c18⟩ := hSz
        go_simp
        try with_reducible rfl
      try simp only [Act.put, List.setIfInBounds_toArray, List.set_cons_zero, List.set_cons_succ, List.getElem_toArray, List.getElem_cons_succ, List.getElem_cons_zero]
      refine wpAnyH_take (i := 6) (v := ?_) rfl (by kernel_rfl) (by kernel_rfl) (by kernel_rfl) (fun _ _ _ h => h) (Or.inl ⟨by rfl, ?_⟩) (by assumption) ?_
      rotate_left
      · intro z hSz
        obtain ⟨-, c0, c1, c2, c3, c4, c5, c6, c7, c8, c9, c10, c11, c12, c13, c14, c15, c16, c17, c18⟩ := hSz
        go_simp
        try with_reducible rfl
      try simp only [Act.put, List.setIfInBounds_toArray, List.set_cons_zero, List.set_cons_succ, List.getElem_toArray, List.getElem_cons_succ, List.getElem_cons_zero]
      refine wpAnyH_take (i := 7) (v := ?_) rfl (by kernel_rfl) (by kernel_rfl) (by kernel_rfl) (fun _ _ _ h => h) (Or.inl ⟨by rfl, ?_⟩) (by assumption) ?_
      rotate_left
      · intro z hSz
        obtain ⟨-, c0, c1, c2, c3, c4, c5, c6, c7, c8, c9, c10, c11, c12, c13, c14, c15, c16, c17, c18⟩ := hSz
        go_simp
        try with_reducible rfl
      try simp only [Act.put, List.setIfInBounds_toArray, List.set_cons_zero, List.set_cons_succ, List.getElem_toArray, List.getElem_cons_succ, List.getElem_cons_zero]
      refine wpAnyH_take (i := 9) (v := ?_) rfl (by kernel_rfl) (by kernel_rfl) (by kernel_rfl) (fun _ _ _ h => h) (Or.inl ⟨by rfl, ?_⟩) (by assumption) ?_
      rotate_left
      · intro z hSz
        obtain ⟨-, c0, c1, c2, c3, c4, c5, c6, c7, c8, c9, c10, c11, c12, c13, c14, c15, c16, c17, c18⟩ := hSz
        go_simp
        try with_reducible rfl
      try simp only [Act.put, List.setIfInBounds_toArray, List.set_cons_zero, List.set_cons_succ, List.getElem_toArray, List.getElem_cons_succ, List.getElem_cons_zero]
      refine wpAnyH_take (i := 10) (v := ?_) rfl (by kernel_rfl) (by kernel_rfl) (by kernel_rfl) (fun _ _ _ h => h) (Or.inl ⟨by rfl, ?_⟩) (by assumption) ?_
      rotate_left
      · intro z hSz
        obtain ⟨-, c0, c1, c2, c3, c4, c5, c6, c7, c8, c9, c10, c11, c12, c13, c14, c15, c16, c17, c18⟩ := hSz
        go_simp
        try with_reducible rfl
      try simp only [Act.put, List.setIfInBounds_toArray, List.set_cons_zero, List.set_cons_succ, List.getElem_toArray, List.getElem_cons_succ, List.getElem_cons_zero]
      refine wpAnyH_ready (rs := [8]) (by kernel_rfl) (by simp) ?_
      refine AllReadyH.cons rfl (fun K hK => ?_) AllReadyH.nil
      go_simp
      (with_reducible refine (HUS2.out _ ?_).mono ?_)
      · first | assumption | exact H0d
      rintro e w8 ⟨rfl, hb8⟩
      refine hK.out _ _ (HP.out _ hb8) (fun hHeld2 => ?_)
      clear hK K hHeld
      have hHeld := hHeld2
      clear hHeld2
      try simp only [Act.put, List.setIfInBounds_toArray, List.set_cons_zero, List.set_cons_succ, List.getElem_toArray, List.getElem_cons_succ, List.getElem_cons_zero]
      refine wpAnyH_ready (rs := [11]) (by kernel_rfl) (by simp) ?_
      refine AllReadyH.cons rfl (fun K hK => ?_) AllReadyH.nil
      go_simp
      (with_reducible refine (HR1.out _ ?_).mono ?_)
      · first | assumption | exact H0d
      rintro e w9 ⟨rfl, hb9⟩
      refine hK.out _ _ (HP.out _ hb9) (fun hHeld2 => ?_)
      clear hK K hHeld
      have hHeld := hHeld2
      clear hHeld2
      try simp only [Act.put, List.setIfInBounds_toArray, List.set_cons_zero, List.set_cons_succ, List.getElem_toArray, List.getElem_cons_succ, List.getElem_cons_zero]
      refine wpAnyH_take (i := 12) (v := ?_) rfl (by kernel_rfl) (by kernel_rfl) (by kernel_rfl) (fun _ _ _ h => h) (Or.inl ⟨by rfl, ?_⟩) (by assumption) ?_
      rotate_left
      · intro z hSz
        obtain ⟨-, c0, c1, c2, c3, c4, c5, c6, c7, c8, c9, c10, c11, c12, c13, c14, c15, c16, c17, c18⟩ := hSz
        go_simp
        try with_reducible rfl
      try simp only [Act.put, List.setIfInBounds_toArray, List.set_cons_zero, List.set_cons_succ, List.getElem_toArray, List.getElem_cons_succ, List.getElem_cons_zero]
      refine wpAnyH_take (i := 13) (v := ?_) rfl (by kernel_rfl) (by kernel_rfl) (by kernel_rfl) (fun _ _ _ h => h) (Or.inl ⟨by rfl, ?_⟩) (by assumption) ?_
      rotate_left
      · intro z hSz
        obtain ⟨-, c0, c1, c2, c3, c4, c5, c6, c7, c8, c9, c10, c11, c12, c13, c14, c15, c16, c17, c18⟩ := hSz
        go_simp
        try with_reducible rfl
      try simp only [Act.put, List.setIfInBounds_toArray, List.set_cons_zero, List.set_cons_succ, List.getElem_toArray, List.getElem_cons_succ, List.getElem_cons_zero]
      refine wpAnyH_take (i := 14) (v := ?_) rfl (by kernel_rfl) (by kernel_rfl) (by kernel_rfl) (fun _ _ _ h => h) (Or.inl ⟨by rfl, ?_⟩) (by assumption) ?_
      rotate_left
      · intro z hSz
        obtain ⟨-, c0, c1, c2, c3, c4, c5, c6, c7, c8, c9, c10, c11, c12, c13, c14, c15, c16, c17, c18⟩ := hSz
        go_simp
        try with_reducible rfl
      try simp only [Act.put, List.setIfInBounds_toArray, List.set_cons_zero, List.set_cons_succ, List.getElem_toArray, List.getElem_cons_succ, List.getElem_cons_zero]
      refine wpAnyH_take (i := 15) (v := undef) rfl (by kernel_rfl) (by kernel_rfl) (by kernel_rfl) (fun _ _ _ h => h) (Or.inr ⟨by rfl, rfl⟩) (by assumption) ?_
      try simp only [Act.put, List.setIfInBounds_toArray, List.set_cons_zero, List.set_cons_succ, List.getElem_toArray, List.getElem_cons_succ, List.getElem_cons_zero]
      refine wpAnyH_take (i := 16) (v := undef) rfl (by kernel_rfl) (by kernel_rfl) (by kernel_rfl) (fun _ _ _ h => h) (Or.inr ⟨by rfl, rfl⟩) (by assumption) ?_
      try simp only [Act.put, List.setIfInBounds_toArray, List.set_cons_zero, List.set_cons_succ, List.getElem_toArray, List.getElem_cons_succ, List.getElem_cons_zero]
      refine wpAnyH_take (i := 17) (v := undef) rfl (by kernel_rfl) (by kernel_rfl) (by kernel_rfl) (fun _ _ _ h => h) (Or.inr ⟨by rfl, rfl⟩) (by assumption) ?_
      try simp only [Act.put, List.setIfInBounds_toArray, List.set_cons_zero, List.set_cons_succ, List.getElem_toArray, List.getElem_cons_succ, List.getElem_cons_zero]
      refine wpAnyH_take (i := 18) (v := undef) rfl (by kernel_rfl) (by kernel_rfl) (by kernel_rfl) (fun _ _ _ h => h) (Or.inr ⟨by rfl, rfl⟩) (by assumption) ?_
      try simp only [Act.put, List.setIfInBounds_toArray, List.set_cons_zero, List.set_cons_succ, List.getElem_toArray, List.getElem_cons_succ, List.getElem_cons_zero]
      refine wpAnyH_take (i := 19) (v := ?_) rfl (by kernel_rfl) (by kernel_rfl) (by kernel_rfl) (fun _ _ _ h => h) (Or.inl ⟨by rfl, ?_⟩) (by assumption) ?_
      rotate_left
      · intro z hSz
        obtain ⟨-, c0, c1, c2, c3, c4, c5, c6, c7, c8, c9, c10, c11, c12, c13, c14, c15, c16, c17, c18⟩ := hSz
        go_simp
        try with_reducible rfl
      try simp only [Act.put, List.setIfInBounds_toArray, List.set_cons_zero, List.set_cons_succ, List.getElem_toArray, List.getElem_cons_succ, List.getElem_cons_zero]
      refine wpAnyH_take (i := 20) (v := ?_) rfl (by kernel_rfl) (by kernel_rfl) (by kernel_rfl) (fun _ _ _ h => h) (Or.inl ⟨by rfl, ?_⟩) (by assumption) ?_
      rotate_left
      · intro z hSz
        obtain ⟨-, c0, c1, c2, c3, c4, c5, c6, c7, c8, c9, c10, c11, c12, c13, c14, c15, c16, c17, c18⟩ := hSz
        go_simp
        try with_reducible rfl
      try simp only [Act.put, List.setIfInBounds_toArray, List.set_cons_zero, List.set_cons_succ, List.getElem_toArray, List.getElem_cons_succ, List.getElem_cons_zero]
      refine wpAnyH_done (by kernel_rfl) ?_ _
      have HE8 : Hid (Below w.heap.size w w9) := HW5.out.trans (hb9.out.mono HW5.out.size)
      clear hHeld
      go_wp2
      go_ret
      exact ⟨by rw [HE3.out]; rfl, HE8.out⟩
    · have HR1 := Lib.hid (fun z => HRO.out z true hro)
      cases hwa : waB b x.td v
      · have HE3 : Hid (E = 0) := by show _ = _; rw [HE2.out, hsu, hro, hwa]; rfl
        have HW1 := Lib.hid (fun z => HWA.out z false hwa)
        clear HE2 HSU hsu HRO hro HWA hwa
        obtain ⟨s0, hs0⟩ : ∃ s0, s0 = us0 b v := ⟨_, rfl⟩
        obtain ⟨s1, hs1⟩ : ∃ s1, s1 = us1 b v := ⟨_, rfl⟩
        obtain ⟨s2, hs2⟩ : ∃ s2, s2 = us2 b v := ⟨_, rfl⟩
        rw [← hs0, ← hs1, ← hs2] at HUS2 HR1
        clear hs0 hs1 hs2
        go_upto_region 8 with fail
        go_region_held3 (fun z => Hid (Below w5.heap.size w5 z) ∧ z.cell? ⟨w.heap.size, 0, none⟩ = some (.slice an b.ns.length cn) ∧ z.cell? ⟨w.heap.size, 1, none⟩ = some (.slice at' b.ts.length ct) ∧ z.cell? ⟨w.heap.size, 2, none⟩ = some (.slice ab b.bs.length cb) ∧ z.cell? ⟨w.heap.size, 3, none⟩ = some (.int .u64 (b.fe : Nat)) ∧ z.cell? ⟨w1.heap.size, 0, none⟩ = some (.string x.td.n) ∧ z.cell? ⟨w1.heap.size, 1, none⟩ = some (.int .i64 x.td.z0) ∧ z.cell? ⟨w1.heap.size, 2, none⟩ = some (.int .i64 x.td.z1) ∧ z.cell? ⟨w1.heap.size, 3, none⟩ = some (.int .i64 x.td.z2) ∧ z.cell? ⟨w1.heap.size, 4, none⟩ = some (.slice x.a4 x.td.ws.length x.c4) ∧ z.cell? ⟨w1.heap.size, 5, none⟩ = some (.slice x.a5 x.td.bs.length x.c5) ∧ z.cell? ⟨w1.heap.size, 6, none⟩ = some (.string x.td.g) ∧ z.cell? ⟨w1.heap.size, 7, none⟩ = some (.string x.td.a) ∧ z.cell? ⟨w1.heap.size, 8, none⟩ = some (.int .i64 x.td.r) ∧ z.cell? ⟨w3.heap.size, 0, none⟩ = some (.string y.nd.n) ∧ z.cell? ⟨w3.heap.size, 1, none⟩ = some (.int .i64 y.nd.z0) ∧ z.cell? ⟨w3.heap.size, 2, none⟩ = some (.int .i64 y.nd.z1) ∧ z.cell? ⟨w3.heap.size, 3, none⟩ = some (.int .i64 y.nd.z2) ∧ z.cell? ⟨w3.heap.size, 4, none⟩ = some (.slice y.a2 y.nd.ls.length y.c2) ∧ z.cell? ⟨w3.heap.size, 5, none⟩ = some (.slice y.a3 y.nd.ts.length y.c3)) (first | assumption | exact KD.out | exact HP.out _ ‹_›)
          (first
            | ((with_reducible refine (HS1.out _ ?_).mono ?_); (first | assumption | exact H0d); rintro e w7 ⟨rfl, hb7⟩; have hs7 := HP.out _ hb7)
            | ((with_reducible refine (HUS2.out _ ?_).mono ?_); (first | assumption | exact H0d); rintro e w8 ⟨rfl, hb8⟩; have hs8 := HP.out _ hb8)
            | ((with_reducible refine (HR1.out _ ?_).mono ?_); (first | assumption | exact H0d); rintro e w9 ⟨rfl, hb9⟩; have hs9 := HP.out _ hb9)
            | ((with_reducible refine (HW1.out _ ?_).mono ?_); (first | assumption | exact H0d); rintro e w10 ⟨rfl, hb10⟩; have hs10 := HP.out _ hb10))
        all_goals
          have HE8 : Hid (Below w.heap.size w w10) := HW5.out.trans (hb10.out.mono HW5.out.size)
          clear hs7 hs8 hs9 hs10
          go_wp2
          go_ret
          exact ⟨by rw [HE3.out]; rfl, HE8.out⟩
      · have HE3 : Hid (E = 13) := by show _ = _; rw [HE2.out, hsu, hro, hwa]; rfl
        have HW1 := Lib.hid (fun z => HWA.out z true hwa)
        clear HE2 HSU hsu HRO hro HWA hwa
        obtain ⟨s0, hs0⟩ : ∃ s0, s0 = us0 b v := ⟨_, rfl⟩
        obtain ⟨s1, hs1⟩ : ∃ s1, s1 = us1 b v := ⟨_, rfl⟩
        obtain ⟨s2, hs2⟩ : ∃ s2, s2 = us2 b v := ⟨_, rfl⟩
        rw [← hs0, ← hs1, ← hs2] at HUS2 HR1
        clear hs0 hs1 hs2
        go_upto_region 8 with fail
        go_region_held3 (fun z => Hid (Below w5.heap.size w5 z) ∧ z.cell? ⟨w.heap.size, 0, none⟩ = some (.slice an b.ns.length cn) ∧ z.cell? ⟨w.heap.size, 1, none⟩ = some (.slice at' b.ts.length ct) ∧ z.cell? ⟨w.heap.size, 2, none⟩ = some (.slice ab b.bs.length cb) ∧ z.cell? ⟨w.heap.size, 3, none⟩ = some (.int .u64 (b.fe : Nat)) ∧ z.cell? ⟨w1.heap.size, 0, none⟩ = some (.string x.td.n) ∧ z.cell? ⟨w1.heap.size, 1, none⟩ = some (.int .i64 x.td.z0) ∧ z.cell? ⟨w1.heap.size, 2, none⟩ = some (.int .i64 x.td.z1) ∧ z.cell? ⟨w1.heap.size, 3, none⟩ = some (.int .i64 x.td.z2) ∧ z.cell? ⟨w1.heap.size, 4, none⟩ = some (.slice x.a4 x.td.ws.length x.c4) ∧ z.cell? ⟨w1.heap.size, 5, none⟩ = some (.slice x.a5 x.td.bs.length x.c5) ∧ z.cell? ⟨w1.heap.size, 6, none⟩ = some (.string x.td.g) ∧ z.cell? ⟨w1.heap.size, 7, none⟩ = some (.string x.td.a) ∧ z.cell? ⟨w1.heap.size, 8, none⟩ = some (.int .i64 x.td.r) ∧ z.cell? ⟨w3.heap.size, 0, none⟩ = some (.string y.nd.n) ∧ z.cell? ⟨w3.heap.size, 1, none⟩ = some (.int .i64 y.nd.z0) ∧ z.cell? ⟨w3.heap.size, 2, none⟩ = some (.int .i64 y.nd.z1) ∧ z.cell? ⟨w3.heap.size, 3, none⟩ = some (.int .i64 y.nd.z2) ∧ z.cell? ⟨w3.heap.size, 4, none⟩ = some (.slice y.a2 y.nd.ls.length y.c2) ∧ z.cell? ⟨w3.heap.size, 5, none⟩ = some (.slice y.a3 y.nd.ts.length y.c3)) (first | assumption | exact KD.out | exact HP.out _ ‹_›)
          (first
            | ((with_reducible refine (HS1.out _ ?_).mono ?_); (first | assumption | exact H0d); rintro e w7 ⟨rfl, hb7⟩; have hs7 := HP.out _ hb7)
            | ((with_reducible refine (HUS2.out _ ?_).mono ?_); (first | assumption | exact H0d); rintro e w8 ⟨rfl, hb8⟩; have hs8 := HP.out _ hb8)
            | ((with_reducible refine (HR1.out _ ?_).mono ?_); (first | assumption | exact H0d); rintro e w9 ⟨rfl, hb9⟩; have hs9 := HP.out _ hb9)
            | ((with_reducible refine (HW1.out _ ?_).mono ?_); (first | assumption | exact H0d); rintro e w10 ⟨rfl, hb10⟩; have hs10 := HP.out _ hb10))
        all_goals
          have HE8 : Hid (Below w.heap.size w w10) := HW5.out.trans (hb10.out.mono HW5.out.size)
          clear hs7 hs8 hs9 hs10
          go_wp2
          go_ret
          exact ⟨by rw [HE3.out]; rfl, HE8.out⟩
end Bo
end Go.Proofs.YthbmnkeigmbbdaaGreat

/-
  WHETHER A BOOK IS RIGHT: book.Check.
-/
namespace Go.Proofs.YthbmnkeigmbbdaaGreat
open Go.RowKit Go.Lib
namespace Bo
open Rw
set_option linter.unusedVariables false
theorem nodup_le : ∀ (l m : List ByteArray), l.Nodup → (∀ x ∈ l, x ∈ m) → l.length ≤ m.length
  | [], _, _, _ => Nat.zero_le _
  | a :: l, m, hn, hs => by
    obtain ⟨s, t, rfl⟩ := List.append_of_mem (hs a (List.mem_cons_self ..))
    obtain ⟨h1, h2⟩ := List.nodup_cons.1 hn
    have := nodup_le l (s ++ t) h2 (fun x hx => by
      have h3 := hs x (List.mem_cons_of_mem _ hx)
      rcases List.mem_append.1 h3 with h | h
      · exact List.mem_append_left _ h
      · rcases List.mem_cons.1 h with rfl | h
        · exact absurd hx h1
        · exact List.mem_append_right _ h)
    simp only [List.length_cons, List.length_append] at *
    omega
theorem Ris.nodup {ks : List ByteArray} (h : Ris ks) : ks.Nodup := h.imp (fun {a b} hab he => by rw [he, ls_irr] at hab; cases hab)
/-- The book with its first binds alone. -/
def ahd (b : Bk) (k : Nat) : Bk := ⟨b.ns, b.ts, b.bs.take k, b.fe⟩
def bindB (b : Bk) (i : Nat) : Bool := match b.bs[i]? with | none => true | some o => decide (canE (ahd b i) o.k o.v = 0)
def bindT (b : Bk) (n : Nat) : Bool := (List.range n).all (bindB b)
/-- Whether a book is right. -/
def chkB (b : Bk) : Bool := rightN b.ns && (rightT b.ts && (risB (b.bs.map (·.k)) && bindT b b.bs.length))
def chE (r : Bool) : Nat := if r = true then 0 else 10
theorem bindT_succ (b : Bk) (n : Nat) : bindT b (n + 1) = (bindT b n && bindB b n) := by
  unfold bindT
  rw [List.range_succ, List.all_append]
  simp
theorem bindT_at {b : Bk} {n : Nat} (h : bindT b n = true) (i : Nat) (hi : i < n) (hl : i < b.bs.length) : canE (ahd b i) b.bs[i].k b.bs[i].v = 0 := by
  unfold bindT at h
  rw [List.all_eq_true] at h
  have := h i (List.mem_range.2 hi)
  unfold bindB at this
  rw [List.getElem?_eq_getElem hl] at this
  exact of_decide_eq_true this
theorem bindT_bad {b : Bk} (k : Nat) (h : k < b.bs.length) (hk : bindB b k = false) : bindT b b.bs.length = false := by
  unfold bindT
  rw [← Bool.not_eq_true, List.all_eq_true]
  intro ha
  have := ha k (List.mem_range.2 h)
  rw [hk] at this; cases this
theorem canE_has {b : Bk} {k v : ByteArray} (h : canE b k v ≠ 6) : hasK (b.ts.map (·.n)) k = true ∧ hasK (b.ns.map (·.n)) v = true := by
  unfold canE at h
  split at h
  · assumption
  · exact absurd rfl h
theorem rightN_spec {l : List Hd.Nd} (h : rightN l = true) : l.length ≤ 16 ∧ (∀ x ∈ l, okN x = true) ∧ Ris (l.map (·.n)) := by
  unfold rightN at h
  simp only [Bool.and_eq_true, decide_eq_true_eq] at h
  exact ⟨h.1, List.all_eq_true.1 h.2.1, (ris_iff _).1 h.2.2⟩
theorem rightT_spec {l : List Hd.Td} (h : rightT l = true) : l.length ≤ 32 ∧ (∀ x ∈ l, okT x = true) ∧ Ris (l.map (·.n)) := by
  unfold rightT at h
  simp only [Bool.and_eq_true, decide_eq_true_eq] at h
  exact ⟨h.1, List.all_eq_true.1 h.2.1, (ris_iff _).1 h.2.2⟩
theorem lists_of {b : Bk} (h1 : rightN b.ns = true) (h2 : rightT b.ts = true) (h3 : Ris (b.bs.map (·.k))) (k : Nat) (hk : k ≤ b.bs.length) (h4 : bindT b k = true) : Lists (ahd b k) := by
  obtain ⟨n1, n2, n3⟩ := rightN_spec h1
  obtain ⟨t1, t2, t3⟩ := rightT_spec h2
  have hr : Ris ((b.bs.take k).map (·.k)) := by rw [List.map_take]; exact h3.sublist (List.take_sublist _ _)
  have hb : ∀ o ∈ b.bs.take k, hasK (b.ts.map (·.n)) o.k = true := by
    intro o ho
    obtain ⟨i, hi, rfl⟩ := List.getElem_of_mem ho
    rw [List.length_take] at hi
    rw [List.getElem_take]
    have := bindT_at h4 i (by omega) (by omega)
    exact (canE_has (b := ahd b i) (by rw [this]; decide)).1
  refine ⟨n3, t3, hr, hb, t2, ?_⟩
  have h5 := nodup_le ((b.bs.take k).map (·.k)) (b.ts.map (·.n)) hr.nodup (fun x hx => by
    obtain ⟨o, ho, rfl⟩ := List.mem_map.1 hx
    exact has_iff.1 (hb o ho))
  rw [List.length_map, List.length_map] at h5
  show (b.bs.take k).length ≤ 32
  omega
theorem chk_lists {b : Bk} (h : chkB b = true) : Lists b := by
  unfold chkB at h
  simp only [Bool.and_eq_true] at h
  have := lists_of h.1 h.2.1 ((ris_iff _).1 h.2.2.1) b.bs.length (Nat.le_refl _) h.2.2.2
  unfold ahd at this
  rw [List.take_length] at this
  exact this
theorem sl_take {α : Type} [F : Flat α] {w : World} {A B : Nat} {a : Option Addr} {n c : Nat} {l : List α} (h : Sl w A B (.slice a n c) l) (k : Nat) (hk : k ≤ l.length) : Sl w A B (.slice a k c) (l.take k) := by
  obtain ⟨a', c', he, h1, h2, h3, h4⟩ := h
  simp only [Value.slice.injEq] at he
  obtain ⟨rfl, rfl, rfl⟩ := he
  have hl : (l.take k).length = k := by rw [List.length_take]; omega
  refine ⟨a, c, by rw [hl], by omega, h2, by omega, fun hp => ?_⟩
  obtain ⟨b, off, rfl, hA, hlt, hc⟩ := h4 (by omega)
  refine ⟨b, off, rfl, hA, hlt, fun i hi => ?_⟩
  rw [List.getElem_take]
  exact hc i (by omega)
theorem books_ahd {w : World} {B : Nat} {vn vt : Value} {a : Option Addr} {n c : Nat} {b : Bk} (h : Books w B vn vt (.slice a n c) b) (k : Nat) (hk : k ≤ b.bs.length) : Books w B vn vt (.slice a k c) (ahd b k) := by
  refine ⟨h.hn, h.ht, ⟨sl_take h.hb.1 k hk, fun x hx => h.hb.2.1 x (List.mem_of_mem_take hx), ?_⟩, h.hf⟩
  have := h.hb.2.2
  show (b.bs.take k).length * 32 ≤ _
  rw [List.length_take]
  omega
set_option maxRecDepth 100000 in
set_option maxHeartbeats 4000000 in
theorem check_any (b : Bk) (vn vt vb : Value) (w : World) (hB : Books w w.heap.size vn vt vb b) :
    Calls Tryz.prog 28 #[.agg #[vn, vt, vb, .int .u64 (b.fe : Nat)]] w fun e w' => e = .returned (.int .i64 (chE (chkB b) : Nat)) ∧ Below w.heap.size w w' := by
  have HBK := Lib.hid hB
  have h0 := al w (.cells #[vn, vt, vb, .int .u64 (b.fe : Nat)] 27)
  have hbx := Hd.Bxn.made w [vn, vt, vb, .int .u64 (b.fe : Nat)] 27
  obtain ⟨W0, hW0⟩ : ∃ W0, W0 = w.alloc (.cells #[vn, vt, vb, .int .u64 (b.fe : Nat)] 27) := ⟨_, rfl⟩
  rw [← hW0] at h0
  have hbx : Hd.Bxn W0 w.heap.size [vn, vt, vb, .int .u64 (b.fe : Nat)] := by rw [hW0]; exact hbx
  have hz0 : W0.heap.size = w.heap.size + 1 := by rw [hW0]; simp
  have HW := Lib.hid hW0
  have H0 := Lib.hid h0
  have HBX := Lib.hid hbx
  have HSZ := Lib.hid hz0
  have HRN : Hid (∀ z, Below W0.heap.size W0 z → Calls Tryz.prog 60 #[vn, .int .i64 16, .func (.func 61) #[] #[], .func (.func 62) #[] #[]] z fun e w' => e = .returned (.bool (rightN b.ns)) ∧ Below z.heap.size z w') := fun z hz => right_n vn b.ns z (HBK.out.hn.on (H0.out.trans (hz.mono H0.out.size)))
  have HRT : Hid (∀ z, Below W0.heap.size W0 z → Calls Tryz.prog 63 #[vt, .int .i64 32, .func (.func 64) #[] #[], .func (.func 65) #[] #[]] z fun e w' => e = .returned (.bool (rightT b.ts)) ∧ Below z.heap.size z w') := fun z hz => right_t vt b.ts z (HBK.out.ht.on (H0.out.trans (hz.mono H0.out.size)))
  have HRI : Hid (∀ z, Below W0.heap.size W0 z → Calls Tryz.prog 66 #[vb, .func (.func 67) #[] #[]] z fun e w' => e = .returned (.bool (risB (b.bs.map (·.k)))) ∧ Below z.heap.size z w') := fun z hz => rise_b vb b.bs z (HBK.out.hb.1.on (H0.out.trans (hz.mono H0.out.size)))
  obtain ⟨E, hE⟩ : ∃ E, E = chE (chkB b) := ⟨_, rfl⟩
  have hE2 : E = chE (rightN b.ns && (rightT b.ts && (risB (b.bs.map (·.k)) && bindT b b.bs.length))) := hE
  have HE := Lib.hid hE2
  rw [← hE]
  obtain ⟨an, cn, hvn⟩ := HBK.out.hn.slice
  obtain ⟨at', ct, hvt⟩ := HBK.out.ht.slice
  obtain ⟨ab, cb, hvb⟩ := HBK.out.hb.slice
  subst hvn hvt hvb
  clear hE hE2 hW0 hB h0 hbx hz0
  have b0 : W0.cell? ⟨w.heap.size, 0, none⟩ = some (.slice an b.ns.length cn) := HBX.out.cell 0
  cases h1 : rightN b.ns
  · rw [h1] at HRN HE
    have HE2 : Hid (E = 10) := HE.out
    clear HE h1
    go_enter Tryz.func28, Tryz.ntmps28
    go_upto_region 1 with fail
    rw [← HW.out]
    go_wp2_with fail
    refine (HRN.out _ (Below.refl _ _)).mono ?_
    rintro e w1 ⟨rfl, hb⟩
    have HB1 : Hid (Below w.heap.size w w1) := H0.out.trans (hb.mono H0.out.size)
    clear hb
    go_wp2
    go_ret
    exact ⟨by rw [HE2.out]; rfl, HB1.out⟩
  have HN1 := Lib.hid h1
  rw [h1] at HRN HE
  clear h1
  cases h2 : rightT b.ts
  · rw [h2] at HRT HE
    have HE2 : Hid (E = 10) := HE.out
    clear HE h2
    go_enter Tryz.func28, Tryz.ntmps28
    go_upto_region 1 with fail
    rw [← HW.out]
    go_wp2_with fail
    refine (HRN.out _ (Below.refl _ _)).mono ?_
    rintro e w1 ⟨rfl, hb⟩
    have H1 := Lib.hid hb
    have b1 : w1.cell? ⟨w.heap.size, 1, none⟩ = some (.slice at' b.ts.length ct) := (HBX.out.below hb).cell 1
    clear hb
    go_wp2_with fail
    refine (HRT.out _ H1.out).mono ?_
    rintro e w2 ⟨rfl, hb⟩
    have HB1 : Hid (Below w.heap.size w w2) := H0.out.trans ((H1.out.trans (hb.mono H1.out.size)).mono H0.out.size)
    clear hb
    go_wp2
    go_ret
    exact ⟨by rw [HE2.out]; rfl, HB1.out⟩
  have HN2 := Lib.hid h2
  rw [h2] at HRT HE
  clear h2
  go_enter Tryz.func28, Tryz.ntmps28
  go_upto_region 1 with fail
  rw [← HW.out]
  go_wp2_with fail
  refine (HRN.out _ (Below.refl _ _)).mono ?_
  rintro e w1 ⟨rfl, hb⟩
  have H1 := Lib.hid hb
  have b1 : w1.cell? ⟨w.heap.size, 1, none⟩ = some (.slice at' b.ts.length ct) := (HBX.out.below hb).cell 1
  clear hb
  go_wp2_with fail
  refine (HRT.out _ H1.out).mono ?_
  rintro e w2 ⟨rfl, hb⟩
  have H2 : Hid (Below W0.heap.size W0 w2) := H1.out.trans (hb.mono H1.out.size)
  have b2 : w2.cell? ⟨w.heap.size, 2, none⟩ = some (.slice ab b.bs.length cb) := (HBX.out.below H2.out).cell 2
  clear hb b0 b1
  cases h3 : risB (b.bs.map (·.k))
  · rw [h3] at HRI HE
    have HE2 : Hid (E = 10) := HE.out
    clear HE h3
    go_wp2_with fail
    refine (HRI.out _ H2.out).mono ?_
    rintro e w3 ⟨rfl, hb⟩
    have HB1 : Hid (Below w.heap.size w w3) := H0.out.trans ((H2.out.trans (hb.mono H2.out.size)).mono H0.out.size)
    clear hb
    go_wp2
    go_ret
    exact ⟨by rw [HE2.out]; rfl, HB1.out⟩
  have HN3 : Hid (Ris (b.bs.map (·.k))) := (ris_iff _).1 h3
  rw [h3] at HRI HE
  have HE3 : Hid (E = chE (bindT b b.bs.length)) := HE.out
  clear h3 HE
  go_wp2_with fail
  refine (HRI.out _ H2.out).mono ?_
  rintro e w3 ⟨rfl, hb⟩
  have H3 : Hid (Below W0.heap.size W0 w3) := H2.out.trans (hb.mono H2.out.size)
  have b3 : w3.cell? ⟨w.heap.size, 2, none⟩ = some (.slice ab b.bs.length cb) := (HBX.out.below H3.out).cell 2
  have hsb := HBK.out.hb.1
  obtain ⟨a', c', he', hcap, -, hlen, hc⟩ := hsb
  simp only [Value.slice.injEq] at he'
  obtain ⟨rfl, -, rfl⟩ := he'
  have HC := Lib.hid hc
  clear hb b2 hc HRN HRT HRI H1 H2
  go_wp2
  go_loopg [23] b.bs.length (fun gg i wx => ∃ k : Nat, k + gg = b.bs.length ∧ i = .int .i64 k ∧ Aside (bindT b k = true) ∧ Aside (Below W0.heap.size W0 wx))
  case atStart => exact ⟨0, by omega, rfl, by show _ = _; simp [bindT], H3.out⟩
  case round =>
    obtain ⟨k, hkg, rfl, HA, HB⟩ := hrel
    cases gk with
    | zero =>
      obtain rfl : k = b.bs.length := by omega
      have HE4 : Hid (E = 0) := by show _ = _; rw [HE3.out, HA.out]; rfl
      have HWR : Hid (Below w.heap.size w wr) := H0.out.trans (HB.out.mono H0.out.size)
      clear hkg
      go_wp2
      go_ret
      exact ⟨by rw [HE4.out]; rfl, HWR.out⟩
    | succ gg =>
      have hlk : k < b.bs.length := by omega
      have t2 : (k : Int) < (b.bs.length : Int) := by omega
      have t3 : IntKind.i64.wrap ((k : Int) + 1) = (k : Int) + 1 := by rw [IntKind.wrap_i64]; omega
      have t4 : (k : Int) ≤ (cb : Int) := by omega
      have t5 : (0 : Int) ≤ (k : Int) := by omega
      obtain ⟨bb, off, rfl, -, hblt, hcc⟩ := HC.out (by omega)
      have hat : At w bb (off + k * 2) b.bs[k] := hcc k hlk
      obtain ⟨d0, d1⟩ := at_bd hat
      have HWR : Hid (Below w.heap.size w wr) := H0.out.trans (HB.out.mono H0.out.size)
      have e0 := (HWR.out.cell (by exact hblt)).trans d0
      have e1 := (HWR.out.cell (by exact hblt)).trans d1
      have HBR := Lib.hid (HBX.out.below HB.out)
      have HLS := Lib.hid (lists_of HN1.out HN2.out HN3.out k (by omega) HA.out)
      have HSU := Lib.hid (bindT_succ b k)
      have HBD : Hid (bindB b k = decide (canE (ahd b k) b.bs[k].k b.bs[k].v = 0)) := by
        show _ = _
        unfold bindB
        rw [List.getElem?_eq_getElem hlk]
      have HBA := Lib.hid (fun h => bindT_bad (b := b) k hlk h)
      clear d0 d1 hat hcc
      generalize b.bs[k] = o at *
      have HCAN : Hid (∀ z, Below W0.heap.size W0 z → Calls Tryz.prog 68 #[.agg #[.slice an b.ns.length cn, .slice at' b.ts.length ct, .slice (some ⟨bb, off, none⟩) k cb, .int .u64 (b.fe : Nat)], .string o.k, .string o.v] z fun e w' => e = .returned (.int .i64 (canE (ahd b k) o.k o.v : Nat)) ∧ Below z.heap.size z w') := fun z hz => can_any (ahd b k) _ _ _ o.k o.v z (books_ahd (HBK.out.on (H0.out.trans (hz.mono H0.out.size))) k (by omega)) HLS.out
      have H1 : Hid (Below W0.heap.size W0 (wr.alloc (.cells #[.string o.k, .string o.v] 106))) := HB.out.alloc HB.out.size _
      have H2 : Hid (Below W0.heap.size W0 ((wr.alloc (.cells #[.string o.k, .string o.v] 106)).alloc (.cells #[.slice an b.ns.length cn, .slice at' b.ts.length ct, .slice (some ⟨bb, off, none⟩) k cb, .int .u64 (b.fe : Nat)] 27))) := H1.out.alloc H1.out.size _
      have q0 := cell_old (.cells #[.string o.k, .string o.v] 106) (HBR.out.cell 0)
      have q1 := cell_old (.cells #[.string o.k, .string o.v] 106) (HBR.out.cell 1)
      have q2 := cell_old (.cells #[.string o.k, .string o.v] 106) (HBR.out.cell 2)
      have q3 := cell_old (.cells #[.string o.k, .string o.v] 106) (HBR.out.cell 3)
      have r2 := cell_old (.cells #[.slice an b.ns.length cn, .slice at' b.ts.length ct, .slice (some ⟨bb, off, none⟩) b.bs.length cb, .int .u64 (b.fe : Nat)] 27) q2
      generalize canE (ahd b k) o.k o.v = ce at *
      by_cases hce : ce = 0
      · have HT : Hid (bindT b (k + 1) = true) := by show _ = _; rw [HSU.out, HA.out, HBD.out, hce]; rfl
        subst hce
        go_wp2_with fail
        refine (HCAN.out _ H2.out).mono ?_
        rintro e w5 ⟨rfl, hb⟩
        have H5 : Hid (Below W0.heap.size W0 w5) := H2.out.trans (hb.mono H2.out.size)
        clear hb
        go_wp2
        go_roundg gg
        case measure => omega
        case rel => exact ⟨k + 1, by omega, by simp, HT.out, H5.out⟩
      · have HE4 : Hid (E = 10) := by show _ = _; rw [HE3.out, HBA.out (by rw [HBD.out]; exact decide_eq_false hce)]; rfl
        have g0 : ((ce : Int) != 0) = true := by simpa using hce
        have g1 : ((ce : Int) == 0) = false := by simpa using hce
        have g2 : ¬ (ce : Int) = 0 := by omega
        go_wp2_with fail
        refine (HCAN.out _ H2.out).mono ?_
        rintro e w5 ⟨rfl, hb⟩
        have H5 : Hid (Below W0.heap.size W0 w5) := H2.out.trans (hb.mono H2.out.size)
        clear hb
        go_wp2
        have HWR5 : Hid (Below w.heap.size w w5) := H0.out.trans (H5.out.mono H0.out.size)
        go_ret
        exact ⟨by rw [HE4.out]; rfl, HWR5.out⟩
end Bo
end Go.Proofs.YthbmnkeigmbbdaaGreat
