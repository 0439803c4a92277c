/-
  Merged: BdCheck, BdCan, BdAsk.
-/
import Derived.Test.YthbmnkeigmbbdaaGreatBdListed
import Derived.Test.YthbmnkeigmbbdaaGreatBqV
import Derived.Test.YthbmnkeigmbbdaaGreatBgB
import Derived.Deep.LoopGhost
import Derived.Test.YthbmnkeigmbbdaaGreatBgY
import Derived.Deep.RegionHeld3
import Derived.Test.YthbmnkeigmbbdaaGreatBgZ
import Derived.Test.YthbmnkeigmbbdaaGreatBgP
/-
  WHETHER A BOOK IS RIGHT, by the document: gafferref08.Check.
-/
namespace Go.Proofs.YthbmnkeigmbbdaaGreat
open Go.RowKit Go.Lib
namespace Bo
open Rw
set_option linter.unusedVariables false
theorem sp_iff (n : Hd.Nd) : ∀ (l d : List Hd.Td), spF n d l = true ↔ (∀ t ∈ l, suB t n = true) ∧ (∀ t ∈ l, ∀ u ∈ d, beB t u = true) ∧ l.Pairwise (fun u t => beB t u = true)
  | [], d => by simp [spF]
  | t :: r, d => by
    unfold spF
    rw [Bool.and_eq_true, Bool.and_eq_true, List.all_eq_true, sp_iff n r (d ++ [t]), List.pairwise_cons]
    constructor
    · rintro ⟨h1, h2, h3, h4, h5⟩
      refine ⟨?_, ?_, ?_, h5⟩
      · intro x hx
        rcases List.mem_cons.1 hx with rfl | hx
        · exact h1
        · exact h3 x hx
      · intro x hx u hu
        rcases List.mem_cons.1 hx with rfl | hx
        · exact h2 u hu
        · exact h4 x hx u (List.mem_append_left _ hu)
      · intro x hx
        exact h4 x hx t (List.mem_append_right _ (List.mem_singleton.2 rfl))
    · rintro ⟨h1, h2, h3, h4⟩
      refine ⟨h1 t (List.mem_cons_self ..), fun u hu => h2 t (List.mem_cons_self ..) u hu, fun x hx => h1 x (List.mem_cons_of_mem _ hx), fun x hx u hu => ?_, h4⟩
      rcases List.mem_append.1 hu with h | h
      · exact h2 x (List.mem_cons_of_mem _ hx) u h
      · rw [List.mem_singleton.1 h]
        exact h3 x hx
theorem nd_iff (b : Bk) (n : Hd.Nd) : ndB b n = true ↔ (us0 b n.n ≤ n.z0 ∧ us1 b n.n ≤ n.z1 ∧ us2 b n.n ≤ n.z2) ∧ (∀ o ∈ b.bs, o.v = n.n → suB (tOf b.ts o.k) n = true) ∧ b.bs.Pairwise (fun o p => o.v = n.n → p.v = n.n → beB (tOf b.ts p.k) (tOf b.ts o.k) = true) := by
  unfold ndB
  simp only [Bool.and_eq_true, decide_eq_true_eq]
  rw [sp_iff]
  unfold thr
  rw [List.pairwise_map, List.pairwise_filter]
  simp only [decide_eq_true_eq]
  constructor
  · rintro ⟨h0, h1, h2, h3, -, h4⟩
    exact ⟨⟨h0, h1, h2⟩, fun o ho hv => h3 _ (List.mem_map.2 ⟨o, List.mem_filter.2 ⟨ho, by simpa using hv⟩, rfl⟩), h4⟩
  · rintro ⟨⟨h0, h1, h2⟩, h3, h4⟩
    refine ⟨h0, h1, h2, fun t ht => ?_, fun t _ u hu => (by cases hu), h4⟩
    obtain ⟨o, ho, rfl⟩ := List.mem_map.1 ht
    obtain ⟨h5, h6⟩ := List.mem_filter.1 ho
    exact h3 o h5 (by simpa using h6)
theorem ris_of_adj {ks : List ByteArray} (h : ∀ k, k < ks.length → adjB ks k = true) : Ris ks := by
  rw [← ris_iff]
  unfold risB risT
  rw [List.all_eq_true]
  intro k hk
  exact h k (List.mem_range.1 hk)
theorem adj_of_ris {ks : List ByteArray} (h : Ris ks) (k : Nat) (hk : k < ks.length) : adjB ks k = true := by
  rw [← ris_iff] at h
  unfold risB risT at h
  rw [List.all_eq_true] at h
  exact h k (List.mem_range.2 hk)
structure LS (b : Bk) : Prop where
  ln : b.ns.length ≤ 16
  kn : ∀ x ∈ b.ns, okN x = true
  rn : Ris (b.ns.map (·.n))
  lt : b.ts.length ≤ 32
  kt : ∀ x ∈ b.ts, okT x = true
  rt : Ris (b.ts.map (·.n))
  rb : Ris (b.bs.map (·.k))
  on : ∀ o ∈ b.bs, hasK (b.ts.map (·.n)) o.k = true ∧ hasK (b.ns.map (·.n)) o.v = true
theorem ls_of {b : Bk} (h : lsB b = true) : LS b := by
  obtain ⟨h1, h2, h3, h4, h5⟩ := (lsB_iff b).1 h
  have n := fun k hk => by have h := h3 k hk; rw [gN_at hk, Bool.and_eq_true] at h; exact h
  have t := fun k hk => by have h := h4 k hk; rw [gT_at hk, Bool.and_eq_true] at h; exact h
  have o := fun k hk => by have h := h5 k hk; rw [gB_at hk, Bool.and_eq_true, Bool.and_eq_true] at h; exact h
  refine ⟨h1, fun x hx => ?_, ris_of_adj fun k hk => (n k (by simpa using hk)).2, h2, fun x hx => ?_, ris_of_adj fun k hk => (t k (by simpa using hk)).2, ris_of_adj fun k hk => (o k (by simpa using hk)).2, fun x hx => ?_⟩
  · obtain ⟨i, hi, rfl⟩ := List.getElem_of_mem hx
    exact (n i hi).1
  · obtain ⟨i, hi, rfl⟩ := List.getElem_of_mem hx
    exact (t i hi).1
  · obtain ⟨i, hi, rfl⟩ := List.getElem_of_mem hx
    exact (o i hi).1
theorem of_ls {b : Bk} (h : LS b) : lsB b = true := by
  rw [lsB_iff]
  refine ⟨h.ln, h.lt, fun k hk => ?_, fun k hk => ?_, fun k hk => ?_⟩
  · rw [gN_at hk, h.kn _ (List.getElem_mem hk), adj_of_ris h.rn k (by simpa using hk)]; rfl
  · rw [gT_at hk, h.kt _ (List.getElem_mem hk), adj_of_ris h.rt k (by simpa using hk)]; rfl
  · obtain ⟨h1, h2⟩ := h.on _ (List.getElem_mem hk)
    rw [gB_at hk, h1, h2, adj_of_ris h.rb k (by simpa using hk)]; rfl
theorem LS.lists {b : Bk} (h : LS b) : Lists b := by
  refine ⟨h.rn, h.rt, h.rb, fun o ho => (h.on o ho).1, h.kt, ?_⟩
  have h5 := nodup_le (b.bs.map (·.k)) (b.ts.map (·.n)) h.rb.nodup (fun x hx => by
    obtain ⟨o, ho, rfl⟩ := List.mem_map.1 hx
    exact has_iff.1 (h.on o ho).1)
  rw [List.length_map, List.length_map] at h5
  have := h.lt
  omega
theorem rb_of_ls {b : Bk} (h : LS b) (hn : ∀ n ∈ b.ns, ndB b n = true) : RB b := by
  refine ⟨h.ln, h.kn, h.rn, h.lt, h.kt, h.rt, h.rb, fun o ho => ?_, ?_, fun v hv => ?_⟩
  · obtain ⟨h1, h2⟩ := h.on o ho
    obtain ⟨m1, m2⟩ := nOf_mem h.rn h2
    exact ⟨h1, h2, ((nd_iff b _).1 (hn _ m1)).2.1 o ho m2.symm⟩
  · rw [List.pairwise_iff_getElem]
    intro i j hi hj hij hv
    obtain ⟨m1, m2⟩ := nOf_mem h.rn (h.on _ (List.getElem_mem hi)).2
    have h3 := List.pairwise_iff_getElem.1 ((nd_iff b _).1 (hn _ m1)).2.2 i j hi hj hij m2.symm (by rw [m2]; exact hv.symm)
    rw [be_sym]
    exact h3
  · obtain ⟨m1, m2⟩ := nOf_mem h.rn hv
    have h3 := ((nd_iff b _).1 (hn _ m1)).1
    rw [m2] at h3
    exact h3
theorem ls_of_rb {b : Bk} (h : RB b) : LS b := ⟨h.ln, h.kn, h.rn, h.lt, h.kt, h.rt, h.rb, fun o ho => ⟨(h.on o ho).1, (h.on o ho).2.1⟩⟩
theorem nd_of_rb {b : Bk} (h : RB b) (n : Hd.Nd) (hm : n ∈ b.ns) : ndB b n = true := by
  have h1 : nOf b.ns n.n = n := nOf_at h.rn hm
  have h2 : hasK (b.ns.map (·.n)) n.n = true := has_iff.2 (List.mem_map_of_mem hm)
  rw [nd_iff]
  refine ⟨?_, fun o ho hv => ?_, ?_⟩
  · have h3 := h.ro n.n h2
    rw [h1] at h3
    exact h3
  · have h3 := (h.on o ho).2.2
    rw [hv, h1] at h3
    exact h3
  · refine h.be.imp ?_
    intro o p hh ho hp
    rw [be_sym]
    exact hh (ho.trans hp.symm)
theorem ch_no {b : Bk} (h : lsB b = false) : chE (chkB b) = 10 := by
  cases hc : chkB b
  · rfl
  · rw [of_ls (ls_of_rb (rb_of_chk hc))] at h
    cases h
theorem ch_nd {b : Bk} (k : Nat) (hk : k < b.ns.length) (h : ndB b b.ns[k] = false) : chE (chkB b) = 10 := by
  cases hc : chkB b
  · rfl
  · rw [nd_of_rb (rb_of_chk hc) _ (List.getElem_mem hk)] at h
    cases h
theorem ch_yes {b : Bk} (h : lsB b = true) (hn : ∀ k, (hk : k < b.ns.length) → ndB b b.ns[k] = true) : chE (chkB b) = 0 := by
  rw [chk_of_rb (rb_of_ls (ls_of h) fun n hm => by obtain ⟨i, hi, rfl⟩ := List.getElem_of_mem hm; exact hn i hi)]
  rfl
set_option maxRecDepth 100000 in
set_option maxHeartbeats 4000000 in
theorem check_ref8 (b : Bk) (vn vt vb : Value) (w : World) (hB : Books w w.heap.size vn vt vb b) :
    Calls Tryz.prog 39 #[.agg #[vn, vt, vb, .int .u64 (b.fe : Nat)]] w fun e w' => e = .returned (.int .i64 (chE (chkB b) : Nat)) ∧ Below w.heap.size w w' := by
  have hln : b.ns.length ≤ 4398046511104 := by obtain ⟨m, hm, -, -, hl⟩ := hB.hn; omega
  have HLI : Hid (∀ z, Below w.heap.size w z → Calls Tryz.prog 82 #[.agg #[vn, vt, vb, .int .u64 (b.fe : Nat)]] z fun e w' => e = .returned (.bool (lsB b)) ∧ Below z.heap.size z w') := fun z hz => listed_ref b vn vt vb z (hB.on hz)
  have HND0 : Hid (Lists b → ∀ (x : NdM) z, DeepN w w.heap.size x → FitN x.nd → Below w.heap.size w z → Calls Tryz.prog 83 #[.agg #[vn, vt, vb, .int .u64 (b.fe : Nat)], .agg #[.string x.nd.n, .int .i64 x.nd.z0, .int .i64 x.nd.z1, .int .i64 x.nd.z2, .slice x.a2 x.nd.ls.length x.c2, .slice x.a3 x.nd.ts.length x.c3]] z fun e w' => e = .returned (.bool (ndB b x.nd)) ∧ Below z.heap.size z w') := fun hL x z hd hf hz => node_ref8 b vn vt vb x z (hB.on hz) hL (hd.on hz) hf
  obtain ⟨an, cn, rfl, hN⟩ := hB.hn.row
  obtain ⟨at', ct, rfl⟩ := hB.ht.slice
  obtain ⟨ab, cb, rfl⟩ := hB.hb.slice
  obtain ⟨W0, hW0⟩ : ∃ W0, W0 = w.alloc (.cells #[.slice an b.ns.length cn, .slice at' b.ts.length ct, .slice ab b.bs.length cb, .int .u64 (b.fe : Nat)] 27) := ⟨_, rfl⟩
  have HB0 : Hid (Below w.heap.size w W0) := by rw [hW0]; exact al w _
  have HX0 : Hid (Hd.Bxn W0 w.heap.size [.slice an b.ns.length cn, .slice at' b.ts.length ct, .slice ab b.bs.length cb, .int .u64 (b.fe : Nat)]) := by rw [hW0]; exact Hd.Bxn.made w _ _
  have HW := Lib.hid hW0
  have HRW := Lib.hid hN
  obtain ⟨E, hE⟩ : ∃ E, E = chE (chkB b) := ⟨_, rfl⟩
  rw [← hE]
  have HNO : Hid (lsB b = false → E = 10) := fun h => hE.trans (ch_no h)
  have HNN : Hid (∀ k, (hk : k < b.ns.length) → ndB b b.ns[k] = false → E = 10) := fun k hk h => hE.trans (ch_nd k hk h)
  have HYS : Hid (lsB b = true → (∀ k, (hk : k < b.ns.length) → ndB b b.ns[k] = true) → E = 0) := fun h hn => hE.trans (ch_yes h hn)
  have HLL : Hid (lsB b = true → Lists b) := fun h => (ls_of h).lists
  obtain ⟨lq, hlq⟩ : ∃ lq, lq = lsB b := ⟨_, rfl⟩
  rw [← hlq] at HLI HNO HYS HLL
  clear hW0 hB hN hE hlq
  go_enter Tryz.func39, Tryz.ntmps39
  go_upto_region 1 with fail
  rw [← HW.out]
  clear HW
  refine wp_region_list ?_
  refine wpList_load_mid rfl 27 (.tmp 1) rfl (w.heap.size) (0) rfl [.slice an b.ns.length cn, .slice at' b.ts.length ct, .slice ab b.bs.length cb, .int .u64 (b.fe : Nat)] _ (HX0.out.range 0) Tryz.underlying27 rfl rfl ?_
  refine wpList_plain rfl fun K hK => ?_
  go_wp2_with fail
  refine (HLI.out W0 HB0.out).mono ?_
  rintro e w1 ⟨rfl, hb⟩
  refine hK _ _ ?_
  clear hK K
  have HB1 : Hid (Below w.heap.size w w1) := HB0.out.trans (hb.mono HB0.out.size)
  have HX1 := Lib.hid (HX0.out.below hb)
  clear hb HB0 HX0
  refine wpList_plain rfl fun K hK => ?_
  go_simp
  refine hK _ _ ?_
  clear hK K
  refine wpList_nil ?_
  cases lq with
  | false =>
    have HE := Lib.hid (HNO.out rfl)
    clear HNO HYS HLL HND0 HNN
    go_wp2
    go_ret
    exact ⟨by rw [HE.out]; rfl, HB1.out⟩
  | true =>
    have HND := Lib.hid (HND0.out (HLL.out rfl))
    have HYE := Lib.hid (HYS.out rfl)
    have b0 : w1.cell? ⟨w.heap.size, 0, none⟩ = some (.slice an b.ns.length cn) := HX1.out.cell 0
    clear HNO HYS HLL HND0
    go_wp2
    clear b0
    go_loopg [11] b.ns.length (fun gg i wx => ∃ k : Nat, k + gg = b.ns.length ∧ i = .int .i64 k ∧ Aside (∀ i, i < k → (hi : i < b.ns.length) → ndB b b.ns[i] = true) ∧ Aside (Below w.heap.size w wx ∧ Hd.Bxn wx w.heap.size [.slice an b.ns.length cn, .slice at' b.ts.length ct, .slice ab b.bs.length cb, .int .u64 (b.fe : Nat)]))
    case atStart => exact ⟨0, by omega, rfl, fun i hi => absurd hi (by omega), ⟨HB1.out, HX1.out⟩⟩
    case round =>
      obtain ⟨k, hkg, rfl, HA, HK⟩ := hrel
      have HGr : Hid (∀ i, i < k → (hi : i < b.ns.length) → ndB b b.ns[i] = true) := HA.out
      have HBr : Hid (Below w.heap.size w wr) := HK.out.1
      have HXr : Hid (Hd.Bxn wr w.heap.size [.slice an b.ns.length cn, .slice at' b.ts.length ct, .slice ab b.bs.length cb, .int .u64 (b.fe : Nat)]) := HK.out.2
      clear HA HK HB1 HX1
      cases gk with
      | zero =>
        obtain rfl : k = b.ns.length := by omega
        have HE : Hid (E = 0) := HYE.out (fun i hi => HGr.out i hi hi)
        clear hkg HNN HYE HGr
        go_wp2
        go_ret
        exact ⟨by rw [HE.out]; rfl, HBr.out⟩
      | succ gg =>
        have hlk : k < b.ns.length := by omega
        have t2 : (k : Int) < (b.ns.length : Int) := by omega
        have t3 : IntKind.i64.wrap ((k : Int) + 1) = (k : Int) + 1 := by rw [IntKind.wrap_i64]; omega
        have t4 : (0 : Int) ≤ (k : Int) := by omega
        obtain ⟨g, o, rfl, hgl, hrr⟩ := HRW.out (by omega)
        obtain ⟨x, hx, hax, hdx, hfx⟩ := hrr k hlk
        have HNB := Lib.hid (HNN.out k hlk)
        rw [← hx] at HNB
        have HXE : Hid (x.nd = b.ns[k]) := hx
        have HDX : Hid (DeepN w w.heap.size x ∧ FitN x.nd) := ⟨hdx, hfx⟩
        have hrow : wr.rangeAt g (o + k * 6) [.string x.nd.n, .int .i64 x.nd.z0, .int .i64 x.nd.z1, .int .i64 x.nd.z2, .slice x.a2 x.nd.ls.length x.c2, .slice x.a3 x.nd.ts.length x.c3] := fun j u hj => (hax.keep HBr.out hgl) j u hj
        clear hax hx hdx hfx hrr
        go_upto_region 5 with fail
        refine wp_region_list ?_
        refine wpList_plain rfl fun K hK => ?_
        go_simp
        refine hK _ _ ?_
        clear hK K
        refine wpList_load_mid rfl 45 (.tmp 13) rfl (g) (o + k * 6) rfl [.string x.nd.n, .int .i64 x.nd.z0, .int .i64 x.nd.z1, .int .i64 x.nd.z2, .slice x.a2 x.nd.ls.length x.c2, .slice x.a3 x.nd.ts.length x.c3] _ (hrow) Tryz.underlying45 rfl rfl ?_
        refine wpList_plain rfl fun K hK => ?_
        go_simp
        refine hK _ _ ?_
        clear hK K
        obtain ⟨th1, hbz, hx1⟩ := one_made wr [.string ⟨#[]⟩, .int .i64 0, .int .i64 0, .int .i64 0, .slice none 0 0, .slice none 0 0] [.string x.nd.n, .int .i64 x.nd.z0, .int .i64 x.nd.z1, .int .i64 x.nd.z2, .slice x.a2 x.nd.ls.length x.c2, .slice x.a3 x.nd.ts.length x.c3] 45 rfl
        refine wpList_store_mid rfl 45 (.tmp 4) (.tmp 14) rfl (wr.heap.size) 0 #[.string x.nd.n, .int .i64 x.nd.z0, .int .i64 x.nd.z1, .int .i64 x.nd.z2, .slice x.a2 x.nd.ls.length x.c2, .slice x.a3 x.nd.ts.length x.c3] rfl rfl th1 rfl (all_oneCell_toArray (List.all_eq_true.1 (show List.all ([.string x.nd.n, .int .i64 x.nd.z0, .int .i64 x.nd.z1, .int .i64 x.nd.z2, .slice x.a2 x.nd.ls.length x.c2, .slice x.a3 x.nd.ts.length x.c3] : List Value) (fun v => v.oneCell') = true from rfl))) ?_
        rw [show (#[.string x.nd.n, .int .i64 x.nd.z0, .int .i64 x.nd.z1, .int .i64 x.nd.z2, .slice x.a2 x.nd.ls.length x.c2, .slice x.a3 x.nd.ts.length x.c3] : Array Value).toList = [.string x.nd.n, .int .i64 x.nd.z0, .int .i64 x.nd.z1, .int .i64 x.nd.z2, .slice x.a2 x.nd.ls.length x.c2, .slice x.a3 x.nd.ts.length x.c3] from rfl]
        clear th1 hrow
        obtain ⟨zB, hzB⟩ : ∃ q : Nat, q = wr.heap.size := ⟨_, rfl⟩
        rw [← hzB] at hbz hx1 ⊢
        generalize (wr.alloc (.cells #[.string ⟨#[]⟩, .int .i64 0, .int .i64 0, .int .i64 0, .slice none 0 0, .slice none 0 0] 45)).setCells zB 0 [.string x.nd.n, .int .i64 x.nd.z0, .int .i64 x.nd.z1, .int .i64 x.nd.z2, .slice x.a2 x.nd.ls.length x.c2, .slice x.a3 x.nd.ts.length x.c3] = y0 at *
        rw [hzB] at hbz
        clear hzB
        have HBy : Hid (Below w.heap.size w y0) := HBr.out.trans (hbz.mono HBr.out.size)
        have HXy := Lib.hid (HXr.out.below hbz)
        have HEy := Lib.hid hx1
        clear hbz hx1 HBr HXr
        refine wpList_nil ?_
        go_upto_region 6 with fail
        refine wp_region_list ?_
        refine wpList_load_mid rfl 27 (.tmp 1) rfl (w.heap.size) (0) rfl [.slice (some ⟨g, o, none⟩) b.ns.length cn, .slice at' b.ts.length ct, .slice ab b.bs.length cb, .int .u64 (b.fe : Nat)] _ (HXy.out.range 0) Tryz.underlying27 rfl rfl ?_
        refine wpList_load_mid rfl 45 (.tmp 4) rfl (zB) (0) rfl [.string x.nd.n, .int .i64 x.nd.z0, .int .i64 x.nd.z1, .int .i64 x.nd.z2, .slice x.a2 x.nd.ls.length x.c2, .slice x.a3 x.nd.ts.length x.c3] _ (HEy.out.range 0) Tryz.underlying45 rfl rfl ?_
        refine wpList_plain rfl fun K hK => ?_
        go_wp2_with fail
        refine (HND.out x y0 HDX.out.1 HDX.out.2 HBy.out).mono ?_
        rintro e w5 ⟨rfl, hb⟩
        refine hK _ _ ?_
        clear hK K
        have HB5 : Hid (Below w.heap.size w w5) := HBy.out.trans (hb.mono HBy.out.size)
        have HX5 := Lib.hid (HXy.out.below hb)
        clear hb HBy HXy HEy
        refine wpList_plain rfl fun K hK => ?_
        go_simp
        refine hK _ _ ?_
        clear hK K
        refine wpList_nil ?_
        cases hnb : ndB b x.nd with
        | false =>
          have HE : Hid (E = 10) := HNB.out hnb
          clear hnb HNB HNN HYE HGr
          go_wp2
          go_ret
          exact ⟨by rw [HE.out]; rfl, HB5.out⟩
        | true =>
          have HG : Hid (ndB b b.ns[k] = true) := by show _ = _; rw [← HXE.out]; exact hnb
          clear hnb HNB
          go_wp2
          go_roundg gg
          case measure => omega
          case rel => exact ⟨k + 1, by omega, by simp, fun i hi => by
            rcases (by omega : i < k ∨ i = k) with h | rfl
            · exact HGr.out i h
            · exact fun _ => HG.out, ⟨HB5.out, HX5.out⟩⟩
end Bo
end Go.Proofs.YthbmnkeigmbbdaaGreat

/-
  WHETHER A TASK CAN BE ON A NODE, by the document: gafferref08.can.
-/
namespace Go.Proofs.YthbmnkeigmbbdaaGreat
open Go.RowKit Go.Lib
namespace Bo
open Rw
set_option linter.unusedVariables false
section
variable {P : Program}
theorem step_store {w : World} {ops : Array Oper} {o : Oper} {a : Act} {K : Act → World → Prop} {Q : Exit → Act → World → Prop} {E : Prop} (hgd : o.guard = none) (ty : TypeId) (x y : Operand) (ho : o.op = .store ty x y)
    (b o' : Nat) (cells : Array Value) (hx : a.eval x = .pointer (some ⟨b, o', none⟩)) (hy : a.eval y = .agg cells)
    (ht : w.there b o' cells.size) (hi : (P.info? ty).map (·.size) = some cells.size) (h1 : cells.all (·.oneCell') = true)
    (h : K (a.put o.dst undef) (w.setCells b o' cells.toList)) : if Region.wanted o (yielded ops a.tmps) = true then Oper.wp P o a w K Q else E := by
  have hw : Region.wanted o (yielded ops a.tmps) = true := by simp [Region.wanted, hgd]
  rw [if_pos hw]
  exact wp_store_mid ty x y ho b o' cells hx hy ht hi h1 h
end
theorem okN_name {n : Hd.Nd} (h : okN n = true) : 0 < n.n.size := by
  have h0 : erN n = 0 := of_decide_eq_true h
  unfold erN Rg.nodeE at h0
  cases hn : Rg.nameB n.n
  · rw [hn] at h0
    simp at h0
  · unfold Rg.nameB at hn
    simp only [Bool.and_eq_true, decide_eq_true_eq] at hn
    exact hn.1.1
theorem ba_pos {s : ByteArray} (h : 0 < s.size) : s.toList.isEmpty = false ∧ ¬ s.toList = [] := by
  have h1 : ¬ s.toList = [] := fun e => by
    have h2 : s = ⟨#[]⟩ := Hd.ba_ext (by rw [e]; decide +kernel)
    rw [h2] at h
    exact absurd h (by decide)
  exact ⟨by simpa using h1, h1⟩
theorem on_some {b : Bk} (hR : RB b) {k : ByteArray} (h : hasK (b.bs.map (·.k)) k = true) : 0 < (onF b.bs k).size := by
  have h1 := (fi_has _ _).1 h
  rw [List.length_map] at h1
  unfold onF
  rw [List.getElem?_eq_getElem h1]
  obtain ⟨m1, m2⟩ := nOf_mem hR.rn (hR.on _ (List.getElem_mem h1)).2.1
  show 0 < (b.bs[fiK (b.bs.map (·.k)) k]).v.size
  rw [← m2]
  exact okN_name (hR.kn _ m1)
theorem on_none {b : Bk} {k : ByteArray} (h : hasK (b.bs.map (·.k)) k = false) : onF b.bs k = ⟨#[]⟩ := by
  refine on_no ?_
  have h1 := mt (fi_has (b.bs.map (·.k)) k).2 (by rw [h]; simp)
  rw [List.length_map] at h1
  omega
theorem nOf_fi {l : List Hd.Nd} (hr : Ris (l.map (·.n))) {k : ByteArray} (h : fiK (l.map (·.n)) k < l.length) : nOf l k = l[fiK (l.map (·.n)) k] := by
  have h1 := fi_get (ks := l.map (·.n)) (x := k) (by rw [List.length_map]; exact h)
  rw [List.getElem_map] at h1
  have h2 := nOf_at hr (List.getElem_mem h)
  rw [h1] at h2
  exact h2
theorem wa_all (b : Bk) (t : Hd.Td) (v : ByteArray) : waB b t v = !((thr b.ts b.bs v).all (fun u => beB t u)) := by
  unfold waB
  generalize thr b.ts b.bs v = l
  induction l with
  | nil => rfl
  | cons a r ih => rw [List.any_cons, List.all_cons, ih]; cases beB t a <;> simp
set_option maxRecDepth 100000 in
set_option maxHeartbeats 4000000 in
theorem can_ref8 (b : Bk) (vn vt vb : Value) (k v : ByteArray) (w : World) (hB : Books w w.heap.size vn vt vb b) (hR : RB b) :
    Calls Tryz.prog 89 #[.agg #[vn, vt, vb, .int .u64 (b.fe : Nat)], .string k, .string v] w fun e w' => e = .returned (.int .i64 (canE b k v : Nat)) ∧ Below w.heap.size w w' := by
  have hln : b.ns.length ≤ 4398046511104 := by obtain ⟨m, hm, -, -, hl⟩ := hB.hn; omega
  have hlt : b.ts.length ≤ 4398046511104 := by obtain ⟨m, hm, -, -, hl⟩ := hB.ht; omega
  have HTK0 : Hid (∀ k z, Below w.heap.size w z → Calls Tryz.prog 48 #[.agg #[vn, vt, vb, .int .u64 (b.fe : Nat)], .string k] z fun e w' => e = .returned (.int .i64 (ixK (b.ts.map (·.n)) k)) ∧ Below z.heap.size z w') := fun k z hz => Task_ix b vn vt vb k z (hB.on hz)
  have HNK0 : Hid (∀ k z, Below w.heap.size w z → Calls Tryz.prog 84 #[.agg #[vn, vt, vb, .int .u64 (b.fe : Nat)], .string k] z fun e w' => e = .returned (.int .i64 (ixK (b.ns.map (·.n)) k)) ∧ Below z.heap.size z w') := fun k z hz => Node_ix b vn vt vb k z (hB.on hz)
  obtain ⟨s, hs⟩ : ∃ s, s = onF b.bs k := ⟨_, rfl⟩
  have HON : Hid (∀ z, Below w.heap.size w z → Calls Tryz.prog 40 #[.agg #[vn, vt, vb, .int .u64 (b.fe : Nat)], .string k] z fun e w' => e = .returned (.string s) ∧ Below z.heap.size z w') := fun z hz => by rw [hs]; exact On_ix b vn vt vb k z (hB.on hz)
  have HS1 : Hid (hasK (b.bs.map (·.k)) k = true → 0 < s.size) := fun h => by rw [hs]; exact on_some hR h
  have HS0 : Hid (hasK (b.bs.map (·.k)) k = false → s = ⟨#[]⟩) := fun h => by rw [hs]; exact on_none h
  have HTH : Hid (∀ z, Below w.heap.size w z → Calls Tryz.prog 152 #[.agg #[vn, vt, vb, .int .u64 (b.fe : Nat)], .string v] z (ThrIs b v z)) := fun z hz => there_ref b vn vt vb v z (hB.on hz) hR.lists
  obtain ⟨s0, hs0⟩ : ∃ q, q = us0 b v := ⟨_, rfl⟩
  obtain ⟨s1, hs1⟩ : ∃ q, q = us1 b v := ⟨_, rfl⟩
  obtain ⟨s2, hs2⟩ : ∃ q, q = us2 b v := ⟨_, rfl⟩
  have HUS : Hid (∀ z, Below w.heap.size w z → Calls Tryz.prog 85 #[.agg #[vn, vt, vb, .int .u64 (b.fe : Nat)], .string v] z fun e w' => e = .returned (.agg #[.int .i64 s0, .int .i64 s1, .int .i64 s2]) ∧ Below z.heap.size z w') := fun z hz => by rw [hs0, hs1, hs2]; exact used_ref b vn vt vb v z (hB.on hz) hR.lists
  have HRO : Hid (∀ (t : Hd.Td) (n : Hd.Nd), roB b t n v = Rg.roomB n.z0 n.z1 n.z2 s0 s1 s2 t.z0 t.z1 t.z2) := fun t n => by rw [hs0, hs1, hs2]; exact rfl
  have HLB : Hid (b.bs.length ≤ 32) := hR.lists.lb
  have HTO : Hid (∀ i : Nat, ixK (b.ts.map (·.n)) k = (i : Int) → ∃ h : i < b.ts.length, b.ts[i] = tOf b.ts k) := fun i h => by
    unfold ixK at h
    split at h
    · rename_i hh
      have h1 := (fi_has _ _).1 hh
      rw [List.length_map] at h1
      have h2 : fiK (b.ts.map (·.n)) k = i := by omega
      have h3 := tOf_fi hR.rt h1
      simp only [h2] at h1 h3
      exact ⟨h1, h3.symm⟩
    · omega
  have HNO : Hid (∀ i : Nat, ixK (b.ns.map (·.n)) v = (i : Int) → ∃ h : i < b.ns.length, b.ns[i] = nOf b.ns v) := fun i h => by
    unfold ixK at h
    split at h
    · rename_i hh
      have h1 := (fi_has _ _).1 hh
      rw [List.length_map] at h1
      have h2 : fiK (b.ns.map (·.n)) v = i := by omega
      have h3 := nOf_fi hR.rn h1
      simp only [h2] at h1 h3
      exact ⟨h1, h3.symm⟩
    · omega
  obtain ⟨E, hE⟩ : ∃ E, E = canE b k v := ⟨_, rfl⟩
  rw [← hE]
  have HE : Hid (E = canE b k v) := hE
  obtain ⟨it, hit⟩ : ∃ q, q = ixK (b.ts.map (·.n)) k := ⟨_, rfl⟩
  obtain ⟨iv, hiv⟩ : ∃ q, q = ixK (b.ns.map (·.n)) v := ⟨_, rfl⟩
  have HTK : Hid (∀ q, q = k → ∀ z, Below w.heap.size w z → Calls Tryz.prog 48 #[.agg #[vn, vt, vb, .int .u64 (b.fe : Nat)], .string k] z fun e w' => e = .returned (.int .i64 it) ∧ Below z.heap.size z w') := fun q _ z hz => by rw [hit]; exact HTK0.out k z hz
  have HNK : Hid (∀ q, q = v → ∀ z, Below w.heap.size w z → Calls Tryz.prog 84 #[.agg #[vn, vt, vb, .int .u64 (b.fe : Nat)], .string v] z fun e w' => e = .returned (.int .i64 iv) ∧ Below z.heap.size z w') := fun q _ z hz => by rw [hiv]; exact HNK0.out v z hz
  have HIT : Hid (it = ixK (b.ts.map (·.n)) k) := hit
  have HIV : Hid (iv = ixK (b.ns.map (·.n)) v) := hiv
  obtain ⟨an, cn, rfl, hN⟩ := hB.hn.row
  obtain ⟨at', ct, rfl, hT⟩ := hB.ht.row
  obtain ⟨ab, cb, rfl⟩ := hB.hb.slice
  obtain ⟨y, hy⟩ : ∃ y, y = w.alloc (.cells #[.slice an b.ns.length cn, .slice at' b.ts.length ct, .slice ab b.bs.length cb, .int .u64 (b.fe : Nat)] 27) := ⟨_, rfl⟩
  have HBy : Hid (Below w.heap.size w y) := by rw [hy]; exact al w _
  have HXy : Hid (Hd.Bxn y w.heap.size [.slice an b.ns.length cn, .slice at' b.ts.length ct, .slice ab b.bs.length cb, .int .u64 (b.fe : Nat)]) := by rw [hy]; exact Hd.Bxn.made w _ _
  have HW := Lib.hid hy
  have HRN := Lib.hid hN
  have HRT := Lib.hid hT
  clear hy hB hN hT hE hit hiv hs hs0 hs1 hs2 hR HTK0 HNK0
  go_enter Tryz.func89, Tryz.ntmps89
  go_upto_region 1 with fail
  rw [← HW.out]
  clear HW
  have HP : Hid (∀ z, Below y.heap.size y z → (z.cell? ⟨w.heap.size, 0, none⟩ = some (.slice an b.ns.length cn) ∧ z.cell? ⟨w.heap.size, 1, none⟩ = some (.slice at' b.ts.length ct) ∧ z.cell? ⟨w.heap.size, 2, none⟩ = some (.slice ab b.bs.length cb) ∧ z.cell? ⟨w.heap.size, 3, none⟩ = some (.int .u64 (b.fe : Nat)))) := fun z hz => ⟨(HXy.out.below hz).cell 0, (HXy.out.below hz).cell 1, (HXy.out.below hz).cell 2, (HXy.out.below hz).cell 3⟩
  have HYd : Hid (Below y.heap.size y y.drew) := ⟨rfl, rfl, rfl, Nat.le_refl _, fun _ _ => rfl⟩
  refine wp_region_held_drew (S := fun z => z.cell? ⟨w.heap.size, 0, none⟩ = some (.slice an b.ns.length cn) ∧ z.cell? ⟨w.heap.size, 1, none⟩ = some (.slice at' b.ts.length ct) ∧ z.cell? ⟨w.heap.size, 2, none⟩ = some (.slice ab b.bs.length cb) ∧ z.cell? ⟨w.heap.size, 3, none⟩ = some (.int .u64 (b.fe : Nat))) (by kernel_rfl) (HP.out _ HYd.out) (fun hHeld => ?_)
  generalize y.drew = yd at *
  refine wpAnyH_take (i := 0) (v := ?_) rfl (by kernel_rfl) (by kernel_rfl) (by kernel_rfl) (fun _ _ _ h => h) (Or.inl ⟨by rfl, ?_⟩) (by assumption) ?_
  rotate_left
  · intro z hSz
    obtain ⟨c0, c1, c2, c3⟩ := hSz
    go_simp
    try with_reducible rfl
  try simp only [Act.put, List.setIfInBounds_toArray, List.set_cons_zero, List.set_cons_succ, List.getElem_toArray, List.getElem_cons_zero]
  refine wpAnyH_take (i := 1) (v := ?_) rfl (by kernel_rfl) (by kernel_rfl) (by kernel_rfl) (fun _ _ _ h => h) (Or.inl ⟨by rfl, ?_⟩) (by assumption) ?_
  rotate_left
  · intro z hSz
    obtain ⟨c0, c1, c2, c3⟩ := hSz
    go_simp
    try with_reducible rfl
  try simp only [Act.put, List.setIfInBounds_toArray, List.set_cons_zero, List.set_cons_succ, List.getElem_toArray, List.getElem_cons_succ, List.getElem_cons_zero]
  refine wpAnyH_take (i := 3) (v := ?_) rfl (by kernel_rfl) (by kernel_rfl) (by kernel_rfl) (fun _ _ _ h => h) (Or.inl ⟨by rfl, ?_⟩) (by assumption) ?_
  rotate_left
  · intro z hSz
    obtain ⟨c0, c1, c2, c3⟩ := hSz
    go_simp
    try with_reducible rfl
  try simp only [Act.put, List.setIfInBounds_toArray, List.set_cons_zero, List.set_cons_succ, List.getElem_toArray, List.getElem_cons_succ, List.getElem_cons_zero]
  refine wpAnyH_take (i := 4) (v := ?_) rfl (by kernel_rfl) (by kernel_rfl) (by kernel_rfl) (fun _ _ _ h => h) (Or.inl ⟨by rfl, ?_⟩) (by assumption) ?_
  rotate_left
  · intro z hSz
    obtain ⟨c0, c1, c2, c3⟩ := hSz
    go_simp
    try with_reducible rfl
  try simp only [Act.put, List.setIfInBounds_toArray, List.set_cons_zero, List.set_cons_succ, List.getElem_toArray, List.getElem_cons_succ, List.getElem_cons_zero]
  refine wpAnyH_ready (rs := [2]) (by kernel_rfl) (by simp) ?_
  refine AllReadyH.cons rfl (fun K hK => ?_) AllReadyH.nil
  go_simp
  refine (HTK.out k rfl yd (HBy.out.trans (HYd.out.mono HBy.out.size))).mono ?_
  rintro e w5 ⟨rfl, hb⟩
  have HYw5 : Hid (Below y.heap.size y w5) := HYd.out.trans (hb.mono HYd.out.size)
  clear hb
  refine hK.out _ _ (HP.out _ HYw5.out) (fun hHeld2 => ?_)
  clear hK K hHeld
  have hHeld := hHeld2
  clear hHeld2
  try simp only [Act.put, List.setIfInBounds_toArray, List.set_cons_zero, List.set_cons_succ, List.getElem_toArray, List.getElem_cons_succ, List.getElem_cons_zero]
  refine wpAnyH_ready (rs := [5]) (by kernel_rfl) (by simp) ?_
  refine AllReadyH.cons rfl (fun K hK => ?_) AllReadyH.nil
  go_simp
  refine (HNK.out v rfl w5 (HBy.out.trans (HYw5.out.mono HBy.out.size))).mono ?_
  rintro e w6 ⟨rfl, hb⟩
  have HYw6 : Hid (Below y.heap.size y w6) := HYw5.out.trans (hb.mono HYw5.out.size)
  clear hb
  refine hK.out _ _ (HP.out _ HYw6.out) (fun hHeld2 => ?_)
  clear hK K hHeld
  have hHeld := hHeld2
  clear hHeld2
  try simp only [Act.put, List.setIfInBounds_toArray, List.set_cons_zero, List.set_cons_succ, List.getElem_toArray, List.getElem_cons_succ, List.getElem_cons_zero]
  refine wpAnyH_take (i := 6) (v := ?_) rfl (by kernel_rfl) (by kernel_rfl) (by kernel_rfl) (fun _ _ _ h => h) (Or.inl ⟨by rfl, ?_⟩) (by assumption) ?_
  rotate_left
  · intro z hSz
    obtain ⟨c0, c1, c2, c3⟩ := hSz
    go_simp
    try with_reducible rfl
  try simp only [Act.put, List.setIfInBounds_toArray, List.set_cons_zero, List.set_cons_succ, List.getElem_toArray, List.getElem_cons_succ, List.getElem_cons_zero]
  refine wpAnyH_take (i := 7) (v := ?_) rfl (by kernel_rfl) (by kernel_rfl) (by kernel_rfl) (fun _ _ _ h => h) (Or.inl ⟨by rfl, ?_⟩) (by assumption) ?_
  rotate_left
  · intro z hSz
    obtain ⟨c0, c1, c2, c3⟩ := hSz
    go_simp
    try with_reducible rfl
  try simp only [Act.put, List.setIfInBounds_toArray, List.set_cons_zero, List.set_cons_succ, List.getElem_toArray, List.getElem_cons_succ, List.getElem_cons_zero]
  refine wpAnyH_done (by kernel_rfl) ?_ _
  clear hHeld
  have HB6 : Hid (Below w.heap.size w w6) := HBy.out.trans (HYw6.out.mono HBy.out.size)
  have HX6 := Lib.hid (HXy.out.below HYw6.out)
  clear HP HYd HYw5 HYw6 HBy HXy HTK HNK
  cases hht : hasK (b.ts.map (·.n)) k with
  | false =>
    obtain rfl : it = -1 := by rw [HIT.out]; unfold ixK; rw [if_neg (by rw [hht]; simp)]
    have HE6 : Hid (E = 6) := by show E = 6; rw [HE.out]; unfold canE; rw [if_neg (by rw [hht]; simp)]
    clear hht
    go_wp2
    go_ret
    exact ⟨by rw [HE6.out]; rfl, HB6.out⟩
  | true =>
    obtain ⟨i, hi⟩ : ∃ i : Nat, it = (i : Int) := ⟨fiK (b.ts.map (·.n)) k, by rw [HIT.out]; unfold ixK; rw [if_pos hht]⟩
    have HIX := Lib.hid (HTO.out i (HIT.out.symm.trans hi))
    subst hi
    have i0 : decide ((i : Int) < 0) = false := decide_eq_false (by omega)
    cases hhn : hasK (b.ns.map (·.n)) v with
    | false =>
      obtain rfl : iv = -1 := by rw [HIV.out]; unfold ixK; rw [if_neg (by rw [hhn]; simp)]
      have HE6 : Hid (E = 6) := by show E = 6; rw [HE.out]; unfold canE; rw [if_neg (by rw [hhn]; simp)]
      clear hht hhn
      go_wp2
      go_ret
      exact ⟨by rw [HE6.out]; rfl, HB6.out⟩
    | true =>
      obtain ⟨j, hj⟩ : ∃ j : Nat, iv = (j : Int) := ⟨fiK (b.ns.map (·.n)) v, by rw [HIV.out]; unfold ixK; rw [if_pos hhn]⟩
      have HJX := Lib.hid (HNO.out j (HIV.out.symm.trans hj))
      subst hj
      have j0 : decide ((j : Int) < 0) = false := decide_eq_false (by omega)
      have HE1 : Hid (E = if hasK (b.bs.map (·.k)) k = true then 7 else if suB (tOf b.ts k) (nOf b.ns v) = true then (if roB b (tOf b.ts k) (nOf b.ns v) v = true then (if waB b (tOf b.ts k) v = true then 13 else 0) else 13) else 13) := by
        show E = _
        rw [HE.out]
        unfold canE
        rw [if_pos ⟨hht, hhn⟩]
      clear hht hhn HE HTO HNO HIT HIV
      obtain ⟨hil, hie⟩ := HIX.out
      obtain ⟨hjl, hje⟩ := HJX.out
      obtain ⟨gt, ot, rfl, hgt, hrt⟩ := HRT.out (by omega)
      obtain ⟨gn, on, rfl, hgn, hrn⟩ := HRN.out (by omega)
      obtain ⟨xt, hxt, hat, hdt, hft⟩ := hrt i hil
      obtain ⟨yn, hyn, han, hdn, hfn⟩ := hrn j hjl
      have HXT : Hid (xt.td = tOf b.ts k) := hxt.trans hie
      have HYN : Hid (yn.nd = nOf b.ns v) := hyn.trans hje
      have HAT : Hid (∀ z, Below w.heap.size w z → At z gt (ot + i * 9) xt) := fun z hz => hat.keep hz hgt
      have HAN : Hid (∀ z, Below w.heap.size w z → At z gn (on + j * 6) yn) := fun z hz => han.keep hz hgn
      have HSU0 : Hid (∀ z, Below w.heap.size w z → Calls Tryz.prog 154 #[.agg #[.string xt.td.n, .int .i64 xt.td.z0, .int .i64 xt.td.z1, .int .i64 xt.td.z2, .slice xt.a4 xt.td.ws.length xt.c4, .slice xt.a5 xt.td.bs.length xt.c5, .string xt.td.g, .string xt.td.a, .int .i64 xt.td.r], .agg #[.string yn.nd.n, .int .i64 yn.nd.z0, .int .i64 yn.nd.z1, .int .i64 yn.nd.z2, .slice yn.a2 yn.nd.ls.length yn.c2, .slice yn.a3 yn.nd.ts.length yn.c3]] z fun e w' => e = .returned (.bool (suB xt.td yn.nd)) ∧ Below z.heap.size z w') := fun z hz =>
        Rg.suits_ref _ _ _ _ _ _ _ _ _ _ _ _ _ _ _ _ _ _ _ _ _ _ _ xt.td.ws xt.td.bs yn.nd.ls yn.nd.ts z ((hdt.on hz).pr hft).1 ((hdt.on hz).pr hft).2 ((hdn.on hz).pr hfn).1 ((hdn.on hz).pr hfn).2
      have t1 : (i : Int) < (b.ts.length : Int) := by omega
      have t2 : (0 : Int) ≤ (i : Int) := by omega
      have t3 : (j : Int) < (b.ns.length : Int) := by omega
      have t4 : (0 : Int) ≤ (j : Int) := by omega
      rw [← HXT.out, ← HYN.out] at HE1
      clear HIX HJX hie hje hrt hrn hxt hyn hat han hdt hft hdn hfn hgt hgn
      go_upto_region 4 with fail
      refine wp_region_list ?_
      refine wpList_load_mid rfl 27 (.tmp 3) rfl (w.heap.size) (0) rfl [.slice (some ⟨gn, on, none⟩) b.ns.length cn, .slice (some ⟨gt, ot, none⟩) b.ts.length ct, .slice ab b.bs.length cb, .int .u64 (b.fe : Nat)] _ (HX6.out.range 0) Tryz.underlying27 rfl rfl ?_
      refine wpList_plain rfl fun K hK => ?_
      go_simp
      refine hK _ _ ?_
      clear hK K
      refine wpList_plain rfl fun K hK => ?_
      go_wp2_with fail
      refine (HON.out w6 HB6.out).mono ?_
      rintro e w7 ⟨rfl, hb⟩
      refine hK _ _ ?_
      clear hK K
      have HB7 : Hid (Below w.heap.size w w7) := HB6.out.trans (hb.mono HB6.out.size)
      have HX7 := Lib.hid (HX6.out.below hb)
      clear hb HB6 HX6 HON
      refine wpList_plain rfl fun K hK => ?_
      go_simp
      refine hK _ _ ?_
      clear hK K
      refine wpList_nil ?_
      generalize hne : (!s.toList.isEmpty) = ne
      cases ne with
      | true =>
        have HE7 : Hid (E = 7) := by
          show E = 7
          cases hhb : hasK (b.bs.map (·.k)) k with
          | true => rw [HE1.out, if_pos hhb]
          | false =>
            rw [HS0.out hhb] at hne
            exact absurd hne (by decide +kernel)
        clear hne HE1
        go_wp2
        go_ret
        exact ⟨by rw [HE7.out]; rfl, HB7.out⟩
      | false =>
        have hhb : hasK (b.bs.map (·.k)) k = false := by
          cases hhb : hasK (b.bs.map (·.k)) k with
          | false => rfl
          | true =>
            rw [(ba_pos (HS1.out hhb)).1] at hne
            cases hne
        clear hne
        obtain ⟨su, hsu⟩ : ∃ q, q = suB xt.td yn.nd := ⟨_, rfl⟩
        obtain ⟨ro, hro⟩ : ∃ q, q = roB b xt.td yn.nd v := ⟨_, rfl⟩
        have HE2 : Hid (E = if (su && (ro && (thr b.ts b.bs v).all (fun u => beB xt.td u))) = true then 0 else 13) := by
          show E = _
          rw [HE1.out, if_neg (by rw [hhb]; simp), ← hsu, ← hro, wa_all]
          cases su <;> cases ro <;> cases (thr b.ts b.bs v).all (fun u => beB xt.td u) <;> rfl
        have HSU : Hid (∀ z, Below w.heap.size w z → Calls Tryz.prog 154 #[.agg #[.string xt.td.n, .int .i64 xt.td.z0, .int .i64 xt.td.z1, .int .i64 xt.td.z2, .slice xt.a4 xt.td.ws.length xt.c4, .slice xt.a5 xt.td.bs.length xt.c5, .string xt.td.g, .string xt.td.a, .int .i64 xt.td.r], .agg #[.string yn.nd.n, .int .i64 yn.nd.z0, .int .i64 yn.nd.z1, .int .i64 yn.nd.z2, .slice yn.a2 yn.nd.ls.length yn.c2, .slice yn.a3 yn.nd.ts.length yn.c3]] z fun e w' => e = .returned (.bool su) ∧ Below z.heap.size z w') := fun z hz => by rw [hsu]; exact HSU0.out z hz
        have HRM : Hid (∀ z, Calls Tryz.prog 157 #[.agg #[.string yn.nd.n, .int .i64 yn.nd.z0, .int .i64 yn.nd.z1, .int .i64 yn.nd.z2, .slice yn.a2 yn.nd.ls.length yn.c2, .slice yn.a3 yn.nd.ts.length yn.c3], .agg #[.int .i64 s0, .int .i64 s1, .int .i64 s2], .agg #[.int .i64 xt.td.z0, .int .i64 xt.td.z1, .int .i64 xt.td.z2]] z fun e w' => e = .returned (.bool ro) ∧ Below z.heap.size z w') := fun z => by rw [hro, HRO.out]; exact Rg.room_ref _ _ _ _ _ _ _ _ _ _ _ _ _ _ _ _ z
        clear hsu hro hhb HE1 HSU0 HRO HS0 HS1
        go_upto_region 6 with fail
        obtain ⟨y, rfl⟩ : ∃ q, q = w7 := ⟨w7, rfl⟩
        have HBy := HB7
        have HXy := HX7
        clear HB7 HX7
        go_cut [9, 10] from 30 to 39 (fun p q wx => ∃ P Q : Nat, p = .pointer (some ⟨P, 0, none⟩) ∧ q = .pointer (some ⟨Q, 0, none⟩) ∧ Aside (Hd.Bxn wx P [.string xt.td.n, .int .i64 xt.td.z0, .int .i64 xt.td.z1, .int .i64 xt.td.z2, .slice xt.a4 xt.td.ws.length xt.c4, .slice xt.a5 xt.td.bs.length xt.c5, .string xt.td.g, .string xt.td.a, .int .i64 xt.td.r] ∧ Hd.Bxn wx Q [.string yn.nd.n, .int .i64 yn.nd.z0, .int .i64 yn.nd.z1, .int .i64 yn.nd.z2, .slice yn.a2 yn.nd.ls.length yn.c2, .slice yn.a3 yn.nd.ts.length yn.c3] ∧ Below y.heap.size y wx))
        case first =>
          have HP : Hid (∀ z, Below y.heap.size y z → (z.cell? ⟨w.heap.size, 0, none⟩ = some (.slice (some ⟨gn, on, none⟩) b.ns.length cn) ∧ z.cell? ⟨w.heap.size, 1, none⟩ = some (.slice (some ⟨gt, ot, none⟩) b.ts.length ct) ∧ z.cell? ⟨gt, ot + i * 9, none⟩ = some (.string xt.td.n) ∧ z.cell? ⟨gt, ot + i * 9 + 1, none⟩ = some (.int .i64 xt.td.z0) ∧ z.cell? ⟨gt, ot + i * 9 + 2, none⟩ = some (.int .i64 xt.td.z1) ∧ z.cell? ⟨gt, ot + i * 9 + 3, none⟩ = some (.int .i64 xt.td.z2) ∧ z.cell? ⟨gt, ot + i * 9 + 4, none⟩ = some (.slice xt.a4 xt.td.ws.length xt.c4) ∧ z.cell? ⟨gt, ot + i * 9 + 5, none⟩ = some (.slice xt.a5 xt.td.bs.length xt.c5) ∧ z.cell? ⟨gt, ot + i * 9 + 6, none⟩ = some (.string xt.td.g) ∧ z.cell? ⟨gt, ot + i * 9 + 7, none⟩ = some (.string xt.td.a) ∧ z.cell? ⟨gt, ot + i * 9 + 8, none⟩ = some (.int .i64 xt.td.r) ∧ z.cell? ⟨gn, on + j * 6, none⟩ = some (.string yn.nd.n) ∧ z.cell? ⟨gn, on + j * 6 + 1, none⟩ = some (.int .i64 yn.nd.z0) ∧ z.cell? ⟨gn, on + j * 6 + 2, none⟩ = some (.int .i64 yn.nd.z1) ∧ z.cell? ⟨gn, on + j * 6 + 3, none⟩ = some (.int .i64 yn.nd.z2) ∧ z.cell? ⟨gn, on + j * 6 + 4, none⟩ = some (.slice yn.a2 yn.nd.ls.length yn.c2) ∧ z.cell? ⟨gn, on + j * 6 + 5, none⟩ = some (.slice yn.a3 yn.nd.ts.length yn.c3))) := fun z hz => ⟨(HXy.out.below hz).cell 0, (HXy.out.below hz).cell 1, HAT.out z (HBy.out.trans (hz.mono HBy.out.size)) 0 _ rfl, HAT.out z (HBy.out.trans (hz.mono HBy.out.size)) 1 _ rfl, HAT.out z (HBy.out.trans (hz.mono HBy.out.size)) 2 _ rfl, HAT.out z (HBy.out.trans (hz.mono HBy.out.size)) 3 _ rfl, HAT.out z (HBy.out.trans (hz.mono HBy.out.size)) 4 _ rfl, HAT.out z (HBy.out.trans (hz.mono HBy.out.size)) 5 _ rfl, HAT.out z (HBy.out.trans (hz.mono HBy.out.size)) 6 _ rfl, HAT.out z (HBy.out.trans (hz.mono HBy.out.size)) 7 _ rfl, HAT.out z (HBy.out.trans (hz.mono HBy.out.size)) 8 _ rfl, HAN.out z (HBy.out.trans (hz.mono HBy.out.size)) 0 _ rfl, HAN.out z (HBy.out.trans (hz.mono HBy.out.size)) 1 _ rfl, HAN.out z (HBy.out.trans (hz.mono HBy.out.size)) 2 _ rfl, HAN.out z (HBy.out.trans (hz.mono HBy.out.size)) 3 _ rfl, HAN.out z (HBy.out.trans (hz.mono HBy.out.size)) 4 _ rfl, HAN.out z (HBy.out.trans (hz.mono HBy.out.size)) 5 _ rfl⟩
          have HYd : Hid (Below y.heap.size y y.drew) := ⟨rfl, rfl, rfl, Nat.le_refl _, fun _ _ => rfl⟩
          refine wp_region_held_drew (S := fun z => z.cell? ⟨w.heap.size, 0, none⟩ = some (.slice (some ⟨gn, on, none⟩) b.ns.length cn) ∧ z.cell? ⟨w.heap.size, 1, none⟩ = some (.slice (some ⟨gt, ot, none⟩) b.ts.length ct) ∧ z.cell? ⟨gt, ot + i * 9, none⟩ = some (.string xt.td.n) ∧ z.cell? ⟨gt, ot + i * 9 + 1, none⟩ = some (.int .i64 xt.td.z0) ∧ z.cell? ⟨gt, ot + i * 9 + 2, none⟩ = some (.int .i64 xt.td.z1) ∧ z.cell? ⟨gt, ot + i * 9 + 3, none⟩ = some (.int .i64 xt.td.z2) ∧ z.cell? ⟨gt, ot + i * 9 + 4, none⟩ = some (.slice xt.a4 xt.td.ws.length xt.c4) ∧ z.cell? ⟨gt, ot + i * 9 + 5, none⟩ = some (.slice xt.a5 xt.td.bs.length xt.c5) ∧ z.cell? ⟨gt, ot + i * 9 + 6, none⟩ = some (.string xt.td.g) ∧ z.cell? ⟨gt, ot + i * 9 + 7, none⟩ = some (.string xt.td.a) ∧ z.cell? ⟨gt, ot + i * 9 + 8, none⟩ = some (.int .i64 xt.td.r) ∧ z.cell? ⟨gn, on + j * 6, none⟩ = some (.string yn.nd.n) ∧ z.cell? ⟨gn, on + j * 6 + 1, none⟩ = some (.int .i64 yn.nd.z0) ∧ z.cell? ⟨gn, on + j * 6 + 2, none⟩ = some (.int .i64 yn.nd.z1) ∧ z.cell? ⟨gn, on + j * 6 + 3, none⟩ = some (.int .i64 yn.nd.z2) ∧ z.cell? ⟨gn, on + j * 6 + 4, none⟩ = some (.slice yn.a2 yn.nd.ls.length yn.c2) ∧ z.cell? ⟨gn, on + j * 6 + 5, none⟩ = some (.slice yn.a3 yn.nd.ts.length yn.c3)) (by kernel_rfl) (HP.out _ HYd.out) (fun hHeld => ?_)
          generalize y.drew = yd at *
          refine wpAnyH_take (i := 0) (v := ?_) rfl (by kernel_rfl) (by kernel_rfl) (by kernel_rfl) (fun _ _ _ h => h) (Or.inl ⟨by rfl, ?_⟩) (by assumption) ?_
          rotate_left
          · intro z hSz
            obtain ⟨c0, c1, c2, c3, c4, c5, c6, c7, c8, c9, c10, c11, c12, c13, c14, c15, c16⟩ := hSz
            go_simp
            try with_reducible rfl
          try simp only [Act.put, List.setIfInBounds_toArray, List.set_cons_zero, List.set_cons_succ, List.getElem_toArray, List.getElem_cons_zero]
          refine wpAnyH_take (i := 1) (v := ?_) rfl (by kernel_rfl) (by kernel_rfl) (by kernel_rfl) (fun _ _ _ h => h) (Or.inl ⟨by rfl, ?_⟩) (by assumption) ?_
          rotate_left
          · intro z hSz
            obtain ⟨c0, c1, c2, c3, c4, c5, c6, c7, c8, c9, c10, c11, c12, c13, c14, c15, c16⟩ := hSz
            go_simp
            try with_reducible rfl
          try simp only [Act.put, List.setIfInBounds_toArray, List.set_cons_zero, List.set_cons_succ, List.getElem_toArray, List.getElem_cons_succ, List.getElem_cons_zero]
          refine wpAnyH_take (i := 2) (v := ?_) rfl (by kernel_rfl) (by kernel_rfl) (by kernel_rfl) (fun _ _ _ h => h) (Or.inl ⟨by rfl, ?_⟩) (by assumption) ?_
          rotate_left
          · intro z hSz
            obtain ⟨c0, c1, c2, c3, c4, c5, c6, c7, c8, c9, c10, c11, c12, c13, c14, c15, c16⟩ := hSz
            go_simp
            try with_reducible rfl
          try simp only [Act.put, List.setIfInBounds_toArray, List.set_cons_zero, List.set_cons_succ, List.getElem_toArray, List.getElem_cons_succ, List.getElem_cons_zero]
          refine wpAnyH_take (i := 3) (v := ?_) rfl (by kernel_rfl) (by kernel_rfl) (by kernel_rfl) (fun _ _ _ h => h) (Or.inl ⟨by rfl, ?_⟩) (by assumption) ?_
          rotate_left
          · intro z hSz
            obtain ⟨c0, c1, c2, c3, c4, c5, c6, c7, c8, c9, c10, c11, c12, c13, c14, c15, c16⟩ := hSz
            go_simp
            try with_reducible rfl
          try simp only [Act.put, List.setIfInBounds_toArray, List.set_cons_zero, List.set_cons_succ, List.getElem_toArray, List.getElem_cons_succ, List.getElem_cons_zero]
          refine wpAnyH_take (i := 4) (v := ?_) rfl (by kernel_rfl) (by kernel_rfl) (by kernel_rfl) (fun _ _ _ h => h) (Or.inl ⟨by rfl, ?_⟩) (by assumption) ?_
          rotate_left
          · intro z hSz
            obtain ⟨c0, c1, c2, c3, c4, c5, c6, c7, c8, c9, c10, c11, c12, c13, c14, c15, c16⟩ := hSz
            go_simp
            try with_reducible rfl
          try simp only [Act.put, List.setIfInBounds_toArray, List.set_cons_zero, List.set_cons_succ, List.getElem_toArray, List.getElem_cons_succ, List.getElem_cons_zero]
          refine wpAnyH_take (i := 5) (v := ?_) rfl (by kernel_rfl) (by kernel_rfl) (by kernel_rfl) (fun _ _ _ h => h) (Or.inl ⟨by rfl, ?_⟩) (by assumption) ?_
          rotate_left
          · intro z hSz
            obtain ⟨c0, c1, c2, c3, c4, c5, c6, c7, c8, c9, c10, c11, c12, c13, c14, c15, c16⟩ := hSz
            go_simp
            try with_reducible rfl
          try simp only [Act.put, List.setIfInBounds_toArray, List.set_cons_zero, List.set_cons_succ, List.getElem_toArray, List.getElem_cons_succ, List.getElem_cons_zero]
          refine wpAnyH_take (i := 6) (v := ?_) rfl (by kernel_rfl) (by kernel_rfl) (by kernel_rfl) (fun _ _ _ h => h) (Or.inl ⟨by rfl, ?_⟩) (by assumption) ?_
          rotate_left
          · intro z hSz
            obtain ⟨c0, c1, c2, c3, c4, c5, c6, c7, c8, c9, c10, c11, c12, c13, c14, c15, c16⟩ := hSz
            go_simp
            try with_reducible rfl
          try simp only [Act.put, List.setIfInBounds_toArray, List.set_cons_zero, List.set_cons_succ, List.getElem_toArray, List.getElem_cons_succ, List.getElem_cons_zero]
          refine wpAnyH_take (i := 7) (v := ?_) rfl (by kernel_rfl) (by kernel_rfl) (by kernel_rfl) (fun _ _ _ h => h) (Or.inl ⟨by rfl, ?_⟩) (by assumption) ?_
          rotate_left
          · intro z hSz
            obtain ⟨c0, c1, c2, c3, c4, c5, c6, c7, c8, c9, c10, c11, c12, c13, c14, c15, c16⟩ := hSz
            go_simp
            try with_reducible rfl
          try simp only [Act.put, List.setIfInBounds_toArray, List.set_cons_zero, List.set_cons_succ, List.getElem_toArray, List.getElem_cons_succ, List.getElem_cons_zero]
          refine wpAnyH_take (i := 8) (v := ?_) rfl (by kernel_rfl) (by kernel_rfl) (by kernel_rfl) (fun _ _ _ h => h) (Or.inl ⟨by rfl, ?_⟩) (by assumption) ?_
          rotate_left
          · intro z hSz
            obtain ⟨c0, c1, c2, c3, c4, c5, c6, c7, c8, c9, c10, c11, c12, c13, c14, c15, c16⟩ := hSz
            go_simp
            try with_reducible rfl
          try simp only [Act.put, List.setIfInBounds_toArray, List.set_cons_zero, List.set_cons_succ, List.getElem_toArray, List.getElem_cons_succ, List.getElem_cons_zero]
          refine wpAnyH_take (i := 9) (v := ?_) rfl (by kernel_rfl) (by kernel_rfl) (by kernel_rfl) (fun _ _ _ h => h) (Or.inl ⟨by rfl, ?_⟩) (by assumption) ?_
          rotate_left
          · intro z hSz
            obtain ⟨c0, c1, c2, c3, c4, c5, c6, c7, c8, c9, c10, c11, c12, c13, c14, c15, c16⟩ := hSz
            go_simp
            try with_reducible rfl
          try simp only [Act.put, List.setIfInBounds_toArray, List.set_cons_zero, List.set_cons_succ, List.getElem_toArray, List.getElem_cons_succ, List.getElem_cons_zero]
          refine wpAnyH_ready (rs := [10, 11]) (by kernel_rfl) (by simp) ?_
          refine AllReadyH.cons rfl (fun K hK => ?_) ?_
          · go_simp
            obtain ⟨nP, hn⟩ : ∃ n, n = yd.heap.size := ⟨_, rfl⟩
            obtain ⟨x1, hw⟩ : ∃ x, x = yd.alloc (.cells #[.string ⟨#[]⟩, .int .i64 0, .int .i64 0, .int .i64 0, .slice none 0 0, .slice none 0 0, .string ⟨#[]⟩, .string ⟨#[]⟩, .int .i64 0] 42) := ⟨_, rfl⟩
            have hb : Below yd.heap.size yd x1 := by rw [hw]; exact al _ _
            have HPb : Hid (Hd.Bxn x1 nP [.string ⟨#[]⟩, .int .i64 0, .int .i64 0, .int .i64 0, .slice none 0 0, .slice none 0 0, .string ⟨#[]⟩, .string ⟨#[]⟩, .int .i64 0]) := by rw [hw, hn]; exact Hd.Bxn.made _ _ _
            have HYx1 : Hid (Below y.heap.size y x1) := HYd.out.trans (hb.mono HYd.out.size)
            have HLnP : Hid (y.heap.size ≤ nP) := by show _ ≤ _; rw [hn]; exact HYd.out.size
            rw [← hw, ← hn]
            clear hb hw hn
            refine hK.out _ _ (HP.out _ HYx1.out) (fun hHeld2 => ?_)
            clear hK K hHeld
            have hHeld := hHeld2
            clear hHeld2
            try simp only [Act.put, List.setIfInBounds_toArray, List.set_cons_zero, List.set_cons_succ, List.getElem_toArray, List.getElem_cons_succ, List.getElem_cons_zero]
            refine wpAnyH_ready (rs := [11]) (by kernel_rfl) (by simp) ?_
            refine AllReadyH.cons rfl (fun K hK => ?_) AllReadyH.nil
            go_simp
            obtain ⟨nQ, hn⟩ : ∃ n, n = x1.heap.size := ⟨_, rfl⟩
            obtain ⟨x2, hw⟩ : ∃ x, x = x1.alloc (.cells #[.string ⟨#[]⟩, .int .i64 0, .int .i64 0, .int .i64 0, .slice none 0 0, .slice none 0 0] 45) := ⟨_, rfl⟩
            have hb : Below x1.heap.size x1 x2 := by rw [hw]; exact al _ _
            have HQb : Hid (Hd.Bxn x2 nQ [.string ⟨#[]⟩, .int .i64 0, .int .i64 0, .int .i64 0, .slice none 0 0, .slice none 0 0]) := by rw [hw, hn]; exact Hd.Bxn.made _ _ _
            have HYx2 : Hid (Below y.heap.size y x2) := HYx1.out.trans (hb.mono HYx1.out.size)
            have HLnQ : Hid (y.heap.size ≤ nQ) := by show _ ≤ _; rw [hn]; exact HYx1.out.size
            have HNE : Hid (nP ≠ nQ) := by have := HPb.out.lt; show _ ≠ _; omega
            have HPb2 := Lib.hid (HPb.out.below hb)
            clear HPb
            have HPb := HPb2
            clear HPb2
            rw [← hw, ← hn]
            clear hb hw hn
            refine hK.out _ _ (HP.out _ HYx2.out) (fun hHeld2 => ?_)
            clear hK K hHeld
            have hHeld := hHeld2
            clear hHeld2
            try simp only [Act.put, List.setIfInBounds_toArray, List.set_cons_zero, List.set_cons_succ, List.getElem_toArray, List.getElem_cons_succ, List.getElem_cons_zero]
            refine wpAnyH_ready (rs := [12]) (by kernel_rfl) (by simp) ?_
            refine AllReadyH.cons rfl (fun K hK => ?_) AllReadyH.nil
            refine step_store rfl 42 (.tmp 9) (.tmp 34) rfl nP 0 #[.string xt.td.n, .int .i64 xt.td.z0, .int .i64 xt.td.z1, .int .i64 xt.td.z2, .slice xt.a4 xt.td.ws.length xt.c4, .slice xt.a5 xt.td.bs.length xt.c5, .string xt.td.g, .string xt.td.a, .int .i64 xt.td.r] rfl rfl (HPb.out.there _ rfl) rfl (all_oneCell_toArray (List.all_eq_true.1 (show List.all ([.string xt.td.n, .int .i64 xt.td.z0, .int .i64 xt.td.z1, .int .i64 xt.td.z2, .slice xt.a4 xt.td.ws.length xt.c4, .slice xt.a5 xt.td.bs.length xt.c5, .string xt.td.g, .string xt.td.a, .int .i64 xt.td.r] : List Value) (fun v => v.oneCell') = true from rfl))) ?_
            rw [show (#[.string xt.td.n, .int .i64 xt.td.z0, .int .i64 xt.td.z1, .int .i64 xt.td.z2, .slice xt.a4 xt.td.ws.length xt.c4, .slice xt.a5 xt.td.bs.length xt.c5, .string xt.td.g, .string xt.td.a, .int .i64 xt.td.r] : Array Value).toList = [.string xt.td.n, .int .i64 xt.td.z0, .int .i64 xt.td.z1, .int .i64 xt.td.z2, .slice xt.a4 xt.td.ws.length xt.c4, .slice xt.a5 xt.td.bs.length xt.c5, .string xt.td.g, .string xt.td.a, .int .i64 xt.td.r] from rfl]
            have HP2 := Lib.hid (HPb.out.all [.string xt.td.n, .int .i64 xt.td.z0, .int .i64 xt.td.z1, .int .i64 xt.td.z2, .slice xt.a4 xt.td.ws.length xt.c4, .slice xt.a5 xt.td.bs.length xt.c5, .string xt.td.g, .string xt.td.a, .int .i64 xt.td.r] rfl)
            have HQ2 := Lib.hid (bxn_far (vs := [.string xt.td.n, .int .i64 xt.td.z0, .int .i64 xt.td.z1, .int .i64 xt.td.z2, .slice xt.a4 xt.td.ws.length xt.c4, .slice xt.a5 xt.td.bs.length xt.c5, .string xt.td.g, .string xt.td.a, .int .i64 xt.td.r]) (o := 0) HQb.out (fun e => HNE.out e.symm))
            have HB2 : Hid (Below y.heap.size y (x2.setCells nP 0 [.string xt.td.n, .int .i64 xt.td.z0, .int .i64 xt.td.z1, .int .i64 xt.td.z2, .slice xt.a4 xt.td.ws.length xt.c4, .slice xt.a5 xt.td.bs.length xt.c5, .string xt.td.g, .string xt.td.a, .int .i64 xt.td.r])) := below_setCells HYx2.out HLnP.out _ _
            clear HPb HQb
            generalize x2.setCells nP 0 [.string xt.td.n, .int .i64 xt.td.z0, .int .i64 xt.td.z1, .int .i64 xt.td.z2, .slice xt.a4 xt.td.ws.length xt.c4, .slice xt.a5 xt.td.bs.length xt.c5, .string xt.td.g, .string xt.td.a, .int .i64 xt.td.r] = x3 at *
            refine hK.out _ _ (HP.out _ HB2.out) (fun hHeld2 => ?_)
            clear hK K hHeld
            have hHeld := hHeld2
            clear hHeld2
            try simp only [Act.put, List.getElem_toArray, List.getElem_cons_succ, List.getElem_cons_zero]
            refine wpAnyH_ready (rs := [13]) (by kernel_rfl) (by simp) ?_
            refine AllReadyH.cons rfl (fun K hK => ?_) AllReadyH.nil
            refine step_store rfl 45 (.tmp 10) (.tmp 39) rfl nQ 0 #[.string yn.nd.n, .int .i64 yn.nd.z0, .int .i64 yn.nd.z1, .int .i64 yn.nd.z2, .slice yn.a2 yn.nd.ls.length yn.c2, .slice yn.a3 yn.nd.ts.length yn.c3] rfl rfl (HQ2.out.there _ rfl) rfl (all_oneCell_toArray (List.all_eq_true.1 (show List.all ([.string yn.nd.n, .int .i64 yn.nd.z0, .int .i64 yn.nd.z1, .int .i64 yn.nd.z2, .slice yn.a2 yn.nd.ls.length yn.c2, .slice yn.a3 yn.nd.ts.length yn.c3] : List Value) (fun v => v.oneCell') = true from rfl))) ?_
            rw [show (#[.string yn.nd.n, .int .i64 yn.nd.z0, .int .i64 yn.nd.z1, .int .i64 yn.nd.z2, .slice yn.a2 yn.nd.ls.length yn.c2, .slice yn.a3 yn.nd.ts.length yn.c3] : Array Value).toList = [.string yn.nd.n, .int .i64 yn.nd.z0, .int .i64 yn.nd.z1, .int .i64 yn.nd.z2, .slice yn.a2 yn.nd.ls.length yn.c2, .slice yn.a3 yn.nd.ts.length yn.c3] from rfl]
            have HQ3 := Lib.hid (HQ2.out.all [.string yn.nd.n, .int .i64 yn.nd.z0, .int .i64 yn.nd.z1, .int .i64 yn.nd.z2, .slice yn.a2 yn.nd.ls.length yn.c2, .slice yn.a3 yn.nd.ts.length yn.c3] rfl)
            have HP3 := Lib.hid (bxn_far (vs := [.string yn.nd.n, .int .i64 yn.nd.z0, .int .i64 yn.nd.z1, .int .i64 yn.nd.z2, .slice yn.a2 yn.nd.ls.length yn.c2, .slice yn.a3 yn.nd.ts.length yn.c3]) (o := 0) HP2.out HNE.out)
            have HB3 : Hid (Below y.heap.size y (x3.setCells nQ 0 [.string yn.nd.n, .int .i64 yn.nd.z0, .int .i64 yn.nd.z1, .int .i64 yn.nd.z2, .slice yn.a2 yn.nd.ls.length yn.c2, .slice yn.a3 yn.nd.ts.length yn.c3])) := below_setCells HB2.out HLnQ.out _ _
            clear HP2 HQ2 HB2
            generalize x3.setCells nQ 0 [.string yn.nd.n, .int .i64 yn.nd.z0, .int .i64 yn.nd.z1, .int .i64 yn.nd.z2, .slice yn.a2 yn.nd.ls.length yn.c2, .slice yn.a3 yn.nd.ts.length yn.c3] = x4 at *
            refine hK.out _ _ (HP.out _ HB3.out) (fun hHeld2 => ?_)
            clear hK K hHeld
            have hHeld := hHeld2
            clear hHeld2
            try simp only [Act.put, List.getElem_toArray, List.getElem_cons_succ, List.getElem_cons_zero]
            refine wpAnyH_done (by kernel_rfl) ?_ _
            clear hHeld
            go_wp2_with fail
            go_meet
            case rel => exact ⟨nP, nQ, rfl, rfl, ⟨HP3.out, HQ3.out, HB3.out⟩⟩
          refine AllReadyH.cons rfl (fun K hK => ?_) AllReadyH.nil
          go_simp
          obtain ⟨nQ, hn⟩ : ∃ n, n = yd.heap.size := ⟨_, rfl⟩
          obtain ⟨x1, hw⟩ : ∃ x, x = yd.alloc (.cells #[.string ⟨#[]⟩, .int .i64 0, .int .i64 0, .int .i64 0, .slice none 0 0, .slice none 0 0] 45) := ⟨_, rfl⟩
          have hb : Below yd.heap.size yd x1 := by rw [hw]; exact al _ _
          have HQb : Hid (Hd.Bxn x1 nQ [.string ⟨#[]⟩, .int .i64 0, .int .i64 0, .int .i64 0, .slice none 0 0, .slice none 0 0]) := by rw [hw, hn]; exact Hd.Bxn.made _ _ _
          have HYx1 : Hid (Below y.heap.size y x1) := HYd.out.trans (hb.mono HYd.out.size)
          have HLnQ : Hid (y.heap.size ≤ nQ) := by show _ ≤ _; rw [hn]; exact HYd.out.size
          rw [← hw, ← hn]
          clear hb hw hn
          refine hK.out _ _ (HP.out _ HYx1.out) (fun hHeld2 => ?_)
          clear hK K hHeld
          have hHeld := hHeld2
          clear hHeld2
          try simp only [Act.put, List.setIfInBounds_toArray, List.set_cons_zero, List.set_cons_succ, List.getElem_toArray, List.getElem_cons_succ, List.getElem_cons_zero]
          refine wpAnyH_ready (rs := [10]) (by kernel_rfl) (by simp) ?_
          refine AllReadyH.cons rfl (fun K hK => ?_) AllReadyH.nil
          go_simp
          obtain ⟨nP, hn⟩ : ∃ n, n = x1.heap.size := ⟨_, rfl⟩
          obtain ⟨x2, hw⟩ : ∃ x, x = x1.alloc (.cells #[.string ⟨#[]⟩, .int .i64 0, .int .i64 0, .int .i64 0, .slice none 0 0, .slice none 0 0, .string ⟨#[]⟩, .string ⟨#[]⟩, .int .i64 0] 42) := ⟨_, rfl⟩
          have hb : Below x1.heap.size x1 x2 := by rw [hw]; exact al _ _
          have HPb : Hid (Hd.Bxn x2 nP [.string ⟨#[]⟩, .int .i64 0, .int .i64 0, .int .i64 0, .slice none 0 0, .slice none 0 0, .string ⟨#[]⟩, .string ⟨#[]⟩, .int .i64 0]) := by rw [hw, hn]; exact Hd.Bxn.made _ _ _
          have HYx2 : Hid (Below y.heap.size y x2) := HYx1.out.trans (hb.mono HYx1.out.size)
          have HLnP : Hid (y.heap.size ≤ nP) := by show _ ≤ _; rw [hn]; exact HYx1.out.size
          have HNE : Hid (nP ≠ nQ) := by have := HQb.out.lt; show _ ≠ _; omega
          have HQb2 := Lib.hid (HQb.out.below hb)
          clear HQb
          have HQb := HQb2
          clear HQb2
          rw [← hw, ← hn]
          clear hb hw hn
          refine hK.out _ _ (HP.out _ HYx2.out) (fun hHeld2 => ?_)
          clear hK K hHeld
          have hHeld := hHeld2
          clear hHeld2
          try simp only [Act.put, List.setIfInBounds_toArray, List.set_cons_zero, List.set_cons_succ, List.getElem_toArray, List.getElem_cons_succ, List.getElem_cons_zero]
          refine wpAnyH_ready (rs := [12]) (by kernel_rfl) (by simp) ?_
          refine AllReadyH.cons rfl (fun K hK => ?_) AllReadyH.nil
          refine step_store rfl 42 (.tmp 9) (.tmp 34) rfl nP 0 #[.string xt.td.n, .int .i64 xt.td.z0, .int .i64 xt.td.z1, .int .i64 xt.td.z2, .slice xt.a4 xt.td.ws.length xt.c4, .slice xt.a5 xt.td.bs.length xt.c5, .string xt.td.g, .string xt.td.a, .int .i64 xt.td.r] rfl rfl (HPb.out.there _ rfl) rfl (all_oneCell_toArray (List.all_eq_true.1 (show List.all ([.string xt.td.n, .int .i64 xt.td.z0, .int .i64 xt.td.z1, .int .i64 xt.td.z2, .slice xt.a4 xt.td.ws.length xt.c4, .slice xt.a5 xt.td.bs.length xt.c5, .string xt.td.g, .string xt.td.a, .int .i64 xt.td.r] : List Value) (fun v => v.oneCell') = true from rfl))) ?_
          rw [show (#[.string xt.td.n, .int .i64 xt.td.z0, .int .i64 xt.td.z1, .int .i64 xt.td.z2, .slice xt.a4 xt.td.ws.length xt.c4, .slice xt.a5 xt.td.bs.length xt.c5, .string xt.td.g, .string xt.td.a, .int .i64 xt.td.r] : Array Value).toList = [.string xt.td.n, .int .i64 xt.td.z0, .int .i64 xt.td.z1, .int .i64 xt.td.z2, .slice xt.a4 xt.td.ws.length xt.c4, .slice xt.a5 xt.td.bs.length xt.c5, .string xt.td.g, .string xt.td.a, .int .i64 xt.td.r] from rfl]
          have HP2 := Lib.hid (HPb.out.all [.string xt.td.n, .int .i64 xt.td.z0, .int .i64 xt.td.z1, .int .i64 xt.td.z2, .slice xt.a4 xt.td.ws.length xt.c4, .slice xt.a5 xt.td.bs.length xt.c5, .string xt.td.g, .string xt.td.a, .int .i64 xt.td.r] rfl)
          have HQ2 := Lib.hid (bxn_far (vs := [.string xt.td.n, .int .i64 xt.td.z0, .int .i64 xt.td.z1, .int .i64 xt.td.z2, .slice xt.a4 xt.td.ws.length xt.c4, .slice xt.a5 xt.td.bs.length xt.c5, .string xt.td.g, .string xt.td.a, .int .i64 xt.td.r]) (o := 0) HQb.out (fun e => HNE.out e.symm))
          have HB2 : Hid (Below y.heap.size y (x2.setCells nP 0 [.string xt.td.n, .int .i64 xt.td.z0, .int .i64 xt.td.z1, .int .i64 xt.td.z2, .slice xt.a4 xt.td.ws.length xt.c4, .slice xt.a5 xt.td.bs.length xt.c5, .string xt.td.g, .string xt.td.a, .int .i64 xt.td.r])) := below_setCells HYx2.out HLnP.out _ _
          clear HPb HQb
          generalize x2.setCells nP 0 [.string xt.td.n, .int .i64 xt.td.z0, .int .i64 xt.td.z1, .int .i64 xt.td.z2, .slice xt.a4 xt.td.ws.length xt.c4, .slice xt.a5 xt.td.bs.length xt.c5, .string xt.td.g, .string xt.td.a, .int .i64 xt.td.r] = x3 at *
          refine hK.out _ _ (HP.out _ HB2.out) (fun hHeld2 => ?_)
          clear hK K hHeld
          have hHeld := hHeld2
          clear hHeld2
          try simp only [Act.put, List.getElem_toArray, List.getElem_cons_succ, List.getElem_cons_zero]
          refine wpAnyH_ready (rs := [13]) (by kernel_rfl) (by simp) ?_
          refine AllReadyH.cons rfl (fun K hK => ?_) AllReadyH.nil
          refine step_store rfl 45 (.tmp 10) (.tmp 39) rfl nQ 0 #[.string yn.nd.n, .int .i64 yn.nd.z0, .int .i64 yn.nd.z1, .int .i64 yn.nd.z2, .slice yn.a2 yn.nd.ls.length yn.c2, .slice yn.a3 yn.nd.ts.length yn.c3] rfl rfl (HQ2.out.there _ rfl) rfl (all_oneCell_toArray (List.all_eq_true.1 (show List.all ([.string yn.nd.n, .int .i64 yn.nd.z0, .int .i64 yn.nd.z1, .int .i64 yn.nd.z2, .slice yn.a2 yn.nd.ls.length yn.c2, .slice yn.a3 yn.nd.ts.length yn.c3] : List Value) (fun v => v.oneCell') = true from rfl))) ?_
          rw [show (#[.string yn.nd.n, .int .i64 yn.nd.z0, .int .i64 yn.nd.z1, .int .i64 yn.nd.z2, .slice yn.a2 yn.nd.ls.length yn.c2, .slice yn.a3 yn.nd.ts.length yn.c3] : Array Value).toList = [.string yn.nd.n, .int .i64 yn.nd.z0, .int .i64 yn.nd.z1, .int .i64 yn.nd.z2, .slice yn.a2 yn.nd.ls.length yn.c2, .slice yn.a3 yn.nd.ts.length yn.c3] from rfl]
          have HQ3 := Lib.hid (HQ2.out.all [.string yn.nd.n, .int .i64 yn.nd.z0, .int .i64 yn.nd.z1, .int .i64 yn.nd.z2, .slice yn.a2 yn.nd.ls.length yn.c2, .slice yn.a3 yn.nd.ts.length yn.c3] rfl)
          have HP3 := Lib.hid (bxn_far (vs := [.string yn.nd.n, .int .i64 yn.nd.z0, .int .i64 yn.nd.z1, .int .i64 yn.nd.z2, .slice yn.a2 yn.nd.ls.length yn.c2, .slice yn.a3 yn.nd.ts.length yn.c3]) (o := 0) HP2.out HNE.out)
          have HB3 : Hid (Below y.heap.size y (x3.setCells nQ 0 [.string yn.nd.n, .int .i64 yn.nd.z0, .int .i64 yn.nd.z1, .int .i64 yn.nd.z2, .slice yn.a2 yn.nd.ls.length yn.c2, .slice yn.a3 yn.nd.ts.length yn.c3])) := below_setCells HB2.out HLnQ.out _ _
          clear HP2 HQ2 HB2
          generalize x3.setCells nQ 0 [.string yn.nd.n, .int .i64 yn.nd.z0, .int .i64 yn.nd.z1, .int .i64 yn.nd.z2, .slice yn.a2 yn.nd.ls.length yn.c2, .slice yn.a3 yn.nd.ts.length yn.c3] = x4 at *
          refine hK.out _ _ (HP.out _ HB3.out) (fun hHeld2 => ?_)
          clear hK K hHeld
          have hHeld := hHeld2
          clear hHeld2
          try simp only [Act.put, List.getElem_toArray, List.getElem_cons_succ, List.getElem_cons_zero]
          refine wpAnyH_done (by kernel_rfl) ?_ _
          clear hHeld
          go_wp2_with fail
          go_meet
          case rel => exact ⟨nP, nQ, rfl, rfl, ⟨HP3.out, HQ3.out, HB3.out⟩⟩
        case rest =>
          obtain ⟨nP, nQ, rfl, rfl, HC⟩ := hcut
          obtain ⟨y2, rfl⟩ : ∃ q, q = wc := ⟨wc, rfl⟩
          have HB8 : Hid (Below w.heap.size w y2) := HBy.out.trans (HC.out.2.2.mono HBy.out.size)
          have HX8 := Lib.hid (HXy.out.below HC.out.2.2)
          have HP8 : Hid (Hd.Bxn y2 nP [.string xt.td.n, .int .i64 xt.td.z0, .int .i64 xt.td.z1, .int .i64 xt.td.z2, .slice xt.a4 xt.td.ws.length xt.c4, .slice xt.a5 xt.td.bs.length xt.c5, .string xt.td.g, .string xt.td.a, .int .i64 xt.td.r]) := HC.out.1
          have HQ8 : Hid (Hd.Bxn y2 nQ [.string yn.nd.n, .int .i64 yn.nd.z0, .int .i64 yn.nd.z1, .int .i64 yn.nd.z2, .slice yn.a2 yn.nd.ls.length yn.c2, .slice yn.a3 yn.nd.ts.length yn.c3]) := HC.out.2.1
          clear HC HBy HXy HAT HAN
          obtain ⟨y, rfl⟩ : ∃ q, q = y2 := ⟨y2, rfl⟩
          have HBy := HB8
          have HXy := HX8
          have HPy := HP8
          have HQy := HQ8
          clear HB8 HX8 HP8 HQ8
          go_upto_region 7 with fail
          go_cut [11] from 40 to 51 (fun p wx => ∃ q : Bool, p = .bool q ∧ Aside (q = (su && ro) ∧ Below y.heap.size y wx))
          case first =>
            cases su with
            | false =>
              have HQV : Hid (false = (false && ro)) := rfl
              have HP : Hid (∀ z, Below y.heap.size y z → (z.cell? ⟨w.heap.size, 0, none⟩ = some (.slice (some ⟨gn, on, none⟩) b.ns.length cn) ∧ z.cell? ⟨w.heap.size, 1, none⟩ = some (.slice (some ⟨gt, ot, none⟩) b.ts.length ct) ∧ z.cell? ⟨w.heap.size, 2, none⟩ = some (.slice ab b.bs.length cb) ∧ z.cell? ⟨w.heap.size, 3, none⟩ = some (.int .u64 (b.fe : Nat)) ∧ z.cell? ⟨nP, 0, none⟩ = some (.string xt.td.n) ∧ z.cell? ⟨nP, 1, none⟩ = some (.int .i64 xt.td.z0) ∧ z.cell? ⟨nP, 2, none⟩ = some (.int .i64 xt.td.z1) ∧ z.cell? ⟨nP, 3, none⟩ = some (.int .i64 xt.td.z2) ∧ z.cell? ⟨nP, 4, none⟩ = some (.slice xt.a4 xt.td.ws.length xt.c4) ∧ z.cell? ⟨nP, 5, none⟩ = some (.slice xt.a5 xt.td.bs.length xt.c5) ∧ z.cell? ⟨nP, 6, none⟩ = some (.string xt.td.g) ∧ z.cell? ⟨nP, 7, none⟩ = some (.string xt.td.a) ∧ z.cell? ⟨nP, 8, none⟩ = some (.int .i64 xt.td.r) ∧ z.cell? ⟨nQ, 0, none⟩ = some (.string yn.nd.n) ∧ z.cell? ⟨nQ, 1, none⟩ = some (.int .i64 yn.nd.z0) ∧ z.cell? ⟨nQ, 2, none⟩ = some (.int .i64 yn.nd.z1) ∧ z.cell? ⟨nQ, 3, none⟩ = some (.int .i64 yn.nd.z2) ∧ z.cell? ⟨nQ, 4, none⟩ = some (.slice yn.a2 yn.nd.ls.length yn.c2) ∧ z.cell? ⟨nQ, 5, none⟩ = some (.slice yn.a3 yn.nd.ts.length yn.c3))) := fun z hz => ⟨(HXy.out.below hz).cell 0, (HXy.out.below hz).cell 1, (HXy.out.below hz).cell 2, (HXy.out.below hz).cell 3, (HPy.out.below hz).cell 0, (HPy.out.below hz).cell 1, (HPy.out.below hz).cell 2, (HPy.out.below hz).cell 3, (HPy.out.below hz).cell 4, (HPy.out.below hz).cell 5, (HPy.out.below hz).cell 6, (HPy.out.below hz).cell 7, (HPy.out.below hz).cell 8, (HQy.out.below hz).cell 0, (HQy.out.below hz).cell 1, (HQy.out.below hz).cell 2, (HQy.out.below hz).cell 3, (HQy.out.below hz).cell 4, (HQy.out.below hz).cell 5⟩
              have HYd : Hid (Below y.heap.size y y.drew) := ⟨rfl, rfl, rfl, Nat.le_refl _, fun _ _ => rfl⟩
              refine wp_region_held_drew (S := fun z => z.cell? ⟨w.heap.size, 0, none⟩ = some (.slice (some ⟨gn, on, none⟩) b.ns.length cn) ∧ z.cell? ⟨w.heap.size, 1, none⟩ = some (.slice (some ⟨gt, ot, none⟩) b.ts.length ct) ∧ z.cell? ⟨w.heap.size, 2, none⟩ = some (.slice ab b.bs.length cb) ∧ z.cell? ⟨w.heap.size, 3, none⟩ = some (.int .u64 (b.fe : Nat)) ∧ z.cell? ⟨nP, 0, none⟩ = some (.string xt.td.n) ∧ z.cell? ⟨nP, 1, none⟩ = some (.int .i64 xt.td.z0) ∧ z.cell? ⟨nP, 2, none⟩ = some (.int .i64 xt.td.z1) ∧ z.cell? ⟨nP, 3, none⟩ = some (.int .i64 xt.td.z2) ∧ z.cell? ⟨nP, 4, none⟩ = some (.slice xt.a4 xt.td.ws.length xt.c4) ∧ z.cell? ⟨nP, 5, none⟩ = some (.slice xt.a5 xt.td.bs.length xt.c5) ∧ z.cell? ⟨nP, 6, none⟩ = some (.string xt.td.g) ∧ z.cell? ⟨nP, 7, none⟩ = some (.string xt.td.a) ∧ z.cell? ⟨nP, 8, none⟩ = some (.int .i64 xt.td.r) ∧ z.cell? ⟨nQ, 0, none⟩ = some (.string yn.nd.n) ∧ z.cell? ⟨nQ, 1, none⟩ = some (.int .i64 yn.nd.z0) ∧ z.cell? ⟨nQ, 2, none⟩ = some (.int .i64 yn.nd.z1) ∧ z.cell? ⟨nQ, 3, none⟩ = some (.int .i64 yn.nd.z2) ∧ z.cell? ⟨nQ, 4, none⟩ = some (.slice yn.a2 yn.nd.ls.length yn.c2) ∧ z.cell? ⟨nQ, 5, none⟩ = some (.slice yn.a3 yn.nd.ts.length yn.c3)) (by kernel_rfl) (HP.out _ HYd.out) (fun hHeld => ?_)
              generalize y.drew = yd at *
              refine wpAnyH_take (i := 0) (v := ?_) rfl (by kernel_rfl) (by kernel_rfl) (by kernel_rfl) (fun _ _ _ h => h) (Or.inl ⟨by rfl, ?_⟩) (by assumption) ?_
              rotate_left
              · intro z hSz
                obtain ⟨c0, c1, c2, c3, c4, c5, c6, c7, c8, c9, c10, c11, c12, c13, c14, c15, c16, c17, c18⟩ := hSz
                go_simp
                try with_reducible rfl
              try simp only [Act.put, List.setIfInBounds_toArray, List.set_cons_zero, List.set_cons_succ, List.getElem_toArray, List.getElem_cons_zero]
              refine wpAnyH_take (i := 1) (v := ?_) rfl (by kernel_rfl) (by kernel_rfl) (by kernel_rfl) (fun _ _ _ h => h) (Or.inl ⟨by rfl, ?_⟩) (by assumption) ?_
              rotate_left
              · intro z hSz
                obtain ⟨c0, c1, c2, c3, c4, c5, c6, c7, c8, c9, c10, c11, c12, c13, c14, c15, c16, c17, c18⟩ := hSz
                go_simp
                try with_reducible rfl
              try simp only [Act.put, List.setIfInBounds_toArray, List.set_cons_zero, List.set_cons_succ, List.getElem_toArray, List.getElem_cons_succ, List.getElem_cons_zero]
              refine wpAnyH_ready (rs := [2]) (by kernel_rfl) (by simp) ?_
              refine AllReadyH.cons rfl (fun K hK => ?_) AllReadyH.nil
              go_simp
              refine (HSU.out yd (HBy.out.trans (HYd.out.mono HBy.out.size))).mono ?_
              rintro e x1 ⟨rfl, hb⟩
              have HYx1 : Hid (Below y.heap.size y x1) := HYd.out.trans (hb.mono HYd.out.size)
              clear hb
              refine hK.out _ _ (HP.out _ HYx1.out) (fun hHeld2 => ?_)
              clear hK K hHeld
              have hHeld := hHeld2
              clear hHeld2
              try simp only [Act.put, List.setIfInBounds_toArray, List.set_cons_zero, List.set_cons_succ, List.getElem_toArray, List.getElem_cons_succ, List.getElem_cons_zero]
              refine wpAnyH_take (i := 3) (v := ?_) rfl (by kernel_rfl) (by kernel_rfl) (by kernel_rfl) (fun _ _ _ h => h) (Or.inl ⟨by rfl, ?_⟩) (by assumption) ?_
              rotate_left
              · intro z hSz
                obtain ⟨c0, c1, c2, c3, c4, c5, c6, c7, c8, c9, c10, c11, c12, c13, c14, c15, c16, c17, c18⟩ := hSz
                go_simp
                try with_reducible rfl
              try simp only [Act.put, List.setIfInBounds_toArray, List.set_cons_zero, List.set_cons_succ, List.getElem_toArray, List.getElem_cons_succ, List.getElem_cons_zero]
              refine wpAnyH_take (i := 4) (v := undef) rfl (by kernel_rfl) (by kernel_rfl) (by kernel_rfl) (fun _ _ _ h => h) (Or.inr ⟨by rfl, rfl⟩) (by assumption) ?_
              try simp only [Act.put, List.setIfInBounds_toArray, List.set_cons_zero, List.set_cons_succ, List.getElem_toArray, List.getElem_cons_succ, List.getElem_cons_zero]
              refine wpAnyH_take (i := 5) (v := undef) rfl (by kernel_rfl) (by kernel_rfl) (by kernel_rfl) (fun _ _ _ h => h) (Or.inr ⟨by rfl, rfl⟩) (by assumption) ?_
              try simp only [Act.put, List.setIfInBounds_toArray, List.set_cons_zero, List.set_cons_succ, List.getElem_toArray, List.getElem_cons_succ, List.getElem_cons_zero]
              refine wpAnyH_take (i := 6) (v := undef) rfl (by kernel_rfl) (by kernel_rfl) (by kernel_rfl) (fun _ _ _ h => h) (Or.inr ⟨by rfl, rfl⟩) (by assumption) ?_
              try simp only [Act.put, List.setIfInBounds_toArray, List.set_cons_zero, List.set_cons_succ, List.getElem_toArray, List.getElem_cons_succ, List.getElem_cons_zero]
              refine wpAnyH_take (i := 7) (v := undef) rfl (by kernel_rfl) (by kernel_rfl) (by kernel_rfl) (fun _ _ _ h => h) (Or.inr ⟨by rfl, rfl⟩) (by assumption) ?_
              try simp only [Act.put, List.setIfInBounds_toArray, List.set_cons_zero, List.set_cons_succ, List.getElem_toArray, List.getElem_cons_succ, List.getElem_cons_zero]
              refine wpAnyH_take (i := 8) (v := undef) rfl (by kernel_rfl) (by kernel_rfl) (by kernel_rfl) (fun _ _ _ h => h) (Or.inr ⟨by rfl, rfl⟩) (by assumption) ?_
              try simp only [Act.put, List.setIfInBounds_toArray, List.set_cons_zero, List.set_cons_succ, List.getElem_toArray, List.getElem_cons_succ, List.getElem_cons_zero]
              refine wpAnyH_take (i := 9) (v := undef) rfl (by kernel_rfl) (by kernel_rfl) (by kernel_rfl) (fun _ _ _ h => h) (Or.inr ⟨by rfl, rfl⟩) (by assumption) ?_
              try simp only [Act.put, List.setIfInBounds_toArray, List.set_cons_zero, List.set_cons_succ, List.getElem_toArray, List.getElem_cons_succ, List.getElem_cons_zero]
              refine wpAnyH_take (i := 10) (v := undef) rfl (by kernel_rfl) (by kernel_rfl) (by kernel_rfl) (fun _ _ _ h => h) (Or.inr ⟨by rfl, rfl⟩) (by assumption) ?_
              try simp only [Act.put, List.setIfInBounds_toArray, List.set_cons_zero, List.set_cons_succ, List.getElem_toArray, List.getElem_cons_succ, List.getElem_cons_zero]
              refine wpAnyH_take (i := 11) (v := ?_) rfl (by kernel_rfl) (by kernel_rfl) (by kernel_rfl) (fun _ _ _ h => h) (Or.inl ⟨by rfl, ?_⟩) (by assumption) ?_
              rotate_left
              · intro z hSz
                obtain ⟨c0, c1, c2, c3, c4, c5, c6, c7, c8, c9, c10, c11, c12, c13, c14, c15, c16, c17, c18⟩ := hSz
                go_simp
                try with_reducible rfl
              try simp only [Act.put, List.setIfInBounds_toArray, List.set_cons_zero, List.set_cons_succ, List.getElem_toArray, List.getElem_cons_succ, List.getElem_cons_zero]
              refine wpAnyH_take (i := 12) (v := ?_) rfl (by kernel_rfl) (by kernel_rfl) (by kernel_rfl) (fun _ _ _ h => h) (Or.inl ⟨by rfl, ?_⟩) (by assumption) ?_
              rotate_left
              · intro z hSz
                obtain ⟨c0, c1, c2, c3, c4, c5, c6, c7, c8, c9, c10, c11, c12, c13, c14, c15, c16, c17, c18⟩ := hSz
                go_simp
                try with_reducible rfl
              try simp only [Act.put, List.setIfInBounds_toArray, List.set_cons_zero, List.set_cons_succ, List.getElem_toArray, List.getElem_cons_succ, List.getElem_cons_zero]
              refine wpAnyH_done (by kernel_rfl) ?_ _
              clear hHeld
              go_wp2_with fail
              go_meet
              case rel => exact ⟨false, rfl, ⟨HQV.out, HYx1.out⟩⟩
            | true =>
              have HQV : Hid (ro = (true && ro)) := by show ro = _; simp
              have HP : Hid (∀ z, Below y.heap.size y z → (z.cell? ⟨w.heap.size, 0, none⟩ = some (.slice (some ⟨gn, on, none⟩) b.ns.length cn) ∧ z.cell? ⟨w.heap.size, 1, none⟩ = some (.slice (some ⟨gt, ot, none⟩) b.ts.length ct) ∧ z.cell? ⟨w.heap.size, 2, none⟩ = some (.slice ab b.bs.length cb) ∧ z.cell? ⟨w.heap.size, 3, none⟩ = some (.int .u64 (b.fe : Nat)) ∧ z.cell? ⟨nP, 0, none⟩ = some (.string xt.td.n) ∧ z.cell? ⟨nP, 1, none⟩ = some (.int .i64 xt.td.z0) ∧ z.cell? ⟨nP, 2, none⟩ = some (.int .i64 xt.td.z1) ∧ z.cell? ⟨nP, 3, none⟩ = some (.int .i64 xt.td.z2) ∧ z.cell? ⟨nP, 4, none⟩ = some (.slice xt.a4 xt.td.ws.length xt.c4) ∧ z.cell? ⟨nP, 5, none⟩ = some (.slice xt.a5 xt.td.bs.length xt.c5) ∧ z.cell? ⟨nP, 6, none⟩ = some (.string xt.td.g) ∧ z.cell? ⟨nP, 7, none⟩ = some (.string xt.td.a) ∧ z.cell? ⟨nP, 8, none⟩ = some (.int .i64 xt.td.r) ∧ z.cell? ⟨nQ, 0, none⟩ = some (.string yn.nd.n) ∧ z.cell? ⟨nQ, 1, none⟩ = some (.int .i64 yn.nd.z0) ∧ z.cell? ⟨nQ, 2, none⟩ = some (.int .i64 yn.nd.z1) ∧ z.cell? ⟨nQ, 3, none⟩ = some (.int .i64 yn.nd.z2) ∧ z.cell? ⟨nQ, 4, none⟩ = some (.slice yn.a2 yn.nd.ls.length yn.c2) ∧ z.cell? ⟨nQ, 5, none⟩ = some (.slice yn.a3 yn.nd.ts.length yn.c3))) := fun z hz => ⟨(HXy.out.below hz).cell 0, (HXy.out.below hz).cell 1, (HXy.out.below hz).cell 2, (HXy.out.below hz).cell 3, (HPy.out.below hz).cell 0, (HPy.out.below hz).cell 1, (HPy.out.below hz).cell 2, (HPy.out.below hz).cell 3, (HPy.out.below hz).cell 4, (HPy.out.below hz).cell 5, (HPy.out.below hz).cell 6, (HPy.out.below hz).cell 7, (HPy.out.below hz).cell 8, (HQy.out.below hz).cell 0, (HQy.out.below hz).cell 1, (HQy.out.below hz).cell 2, (HQy.out.below hz).cell 3, (HQy.out.below hz).cell 4, (HQy.out.below hz).cell 5⟩
              have HYd : Hid (Below y.heap.size y y.drew) := ⟨rfl, rfl, rfl, Nat.le_refl _, fun _ _ => rfl⟩
              refine wp_region_held_drew (S := fun z => z.cell? ⟨w.heap.size, 0, none⟩ = some (.slice (some ⟨gn, on, none⟩) b.ns.length cn) ∧ z.cell? ⟨w.heap.size, 1, none⟩ = some (.slice (some ⟨gt, ot, none⟩) b.ts.length ct) ∧ z.cell? ⟨w.heap.size, 2, none⟩ = some (.slice ab b.bs.length cb) ∧ z.cell? ⟨w.heap.size, 3, none⟩ = some (.int .u64 (b.fe : Nat)) ∧ z.cell? ⟨nP, 0, none⟩ = some (.string xt.td.n) ∧ z.cell? ⟨nP, 1, none⟩ = some (.int .i64 xt.td.z0) ∧ z.cell? ⟨nP, 2, none⟩ = some (.int .i64 xt.td.z1) ∧ z.cell? ⟨nP, 3, none⟩ = some (.int .i64 xt.td.z2) ∧ z.cell? ⟨nP, 4, none⟩ = some (.slice xt.a4 xt.td.ws.length xt.c4) ∧ z.cell? ⟨nP, 5, none⟩ = some (.slice xt.a5 xt.td.bs.length xt.c5) ∧ z.cell? ⟨nP, 6, none⟩ = some (.string xt.td.g) ∧ z.cell? ⟨nP, 7, none⟩ = some (.string xt.td.a) ∧ z.cell? ⟨nP, 8, none⟩ = some (.int .i64 xt.td.r) ∧ z.cell? ⟨nQ, 0, none⟩ = some (.string yn.nd.n) ∧ z.cell? ⟨nQ, 1, none⟩ = some (.int .i64 yn.nd.z0) ∧ z.cell? ⟨nQ, 2, none⟩ = some (.int .i64 yn.nd.z1) ∧ z.cell? ⟨nQ, 3, none⟩ = some (.int .i64 yn.nd.z2) ∧ z.cell? ⟨nQ, 4, none⟩ = some (.slice yn.a2 yn.nd.ls.length yn.c2) ∧ z.cell? ⟨nQ, 5, none⟩ = some (.slice yn.a3 yn.nd.ts.length yn.c3)) (by kernel_rfl) (HP.out _ HYd.out) (fun hHeld => ?_)
              generalize y.drew = yd at *
              refine wpAnyH_take (i := 0) (v := ?_) rfl (by kernel_rfl) (by kernel_rfl) (by kernel_rfl) (fun _ _ _ h => h) (Or.inl ⟨by rfl, ?_⟩) (by assumption) ?_
              rotate_left
              · intro z hSz
                obtain ⟨c0, c1, c2, c3, c4, c5, c6, c7, c8, c9, c10, c11, c12, c13, c14, c15, c16, c17, c18⟩ := hSz
                go_simp
                try with_reducible rfl
              try simp only [Act.put, List.setIfInBounds_toArray, List.set_cons_zero, List.set_cons_succ, List.getElem_toArray, List.getElem_cons_zero]
              refine wpAnyH_take (i := 1) (v := ?_) rfl (by kernel_rfl) (by kernel_rfl) (by kernel_rfl) (fun _ _ _ h => h) (Or.inl ⟨by rfl, ?_⟩) (by assumption) ?_
              rotate_left
              · intro z hSz
                obtain ⟨c0, c1, c2, c3, c4, c5, c6, c7, c8, c9, c10, c11, c12, c13, c14, c15, c16, c17, c18⟩ := hSz
                go_simp
                try with_reducible rfl
              try simp only [Act.put, List.setIfInBounds_toArray, List.set_cons_zero, List.set_cons_succ, List.getElem_toArray, List.getElem_cons_succ, List.getElem_cons_zero]
              refine wpAnyH_ready (rs := [2]) (by kernel_rfl) (by simp) ?_
              refine AllReadyH.cons rfl (fun K hK => ?_) AllReadyH.nil
              go_simp
              refine (HSU.out yd (HBy.out.trans (HYd.out.mono HBy.out.size))).mono ?_
              rintro e x1 ⟨rfl, hb⟩
              have HYx1 : Hid (Below y.heap.size y x1) := HYd.out.trans (hb.mono HYd.out.size)
              clear hb
              refine hK.out _ _ (HP.out _ HYx1.out) (fun hHeld2 => ?_)
              clear hK K hHeld
              have hHeld := hHeld2
              clear hHeld2
              try simp only [Act.put, List.setIfInBounds_toArray, List.set_cons_zero, List.set_cons_succ, List.getElem_toArray, List.getElem_cons_succ, List.getElem_cons_zero]
              refine wpAnyH_take (i := 3) (v := ?_) rfl (by kernel_rfl) (by kernel_rfl) (by kernel_rfl) (fun _ _ _ h => h) (Or.inl ⟨by rfl, ?_⟩) (by assumption) ?_
              rotate_left
              · intro z hSz
                obtain ⟨c0, c1, c2, c3, c4, c5, c6, c7, c8, c9, c10, c11, c12, c13, c14, c15, c16, c17, c18⟩ := hSz
                go_simp
                try with_reducible rfl
              try simp only [Act.put, List.setIfInBounds_toArray, List.set_cons_zero, List.set_cons_succ, List.getElem_toArray, List.getElem_cons_succ, List.getElem_cons_zero]
              refine wpAnyH_take (i := 4) (v := ?_) rfl (by kernel_rfl) (by kernel_rfl) (by kernel_rfl) (fun _ _ _ h => h) (Or.inl ⟨by rfl, ?_⟩) (by assumption) ?_
              rotate_left
              · intro z hSz
                obtain ⟨c0, c1, c2, c3, c4, c5, c6, c7, c8, c9, c10, c11, c12, c13, c14, c15, c16, c17, c18⟩ := hSz
                go_simp
                try with_reducible rfl
              try simp only [Act.put, List.setIfInBounds_toArray, List.set_cons_zero, List.set_cons_succ, List.getElem_toArray, List.getElem_cons_succ, List.getElem_cons_zero]
              refine wpAnyH_take (i := 5) (v := ?_) rfl (by kernel_rfl) (by kernel_rfl) (by kernel_rfl) (fun _ _ _ h => h) (Or.inl ⟨by rfl, ?_⟩) (by assumption) ?_
              rotate_left
              · intro z hSz
                obtain ⟨c0, c1, c2, c3, c4, c5, c6, c7, c8, c9, c10, c11, c12, c13, c14, c15, c16, c17, c18⟩ := hSz
                go_simp
                try with_reducible rfl
              try simp only [Act.put, List.setIfInBounds_toArray, List.set_cons_zero, List.set_cons_succ, List.getElem_toArray, List.getElem_cons_succ, List.getElem_cons_zero]
              refine wpAnyH_take (i := 6) (v := ?_) rfl (by kernel_rfl) (by kernel_rfl) (by kernel_rfl) (fun _ _ _ h => h) (Or.inl ⟨by rfl, ?_⟩) (by assumption) ?_
              rotate_left
              · intro z hSz
                obtain ⟨c0, c1, c2, c3, c4, c5, c6, c7, c8, c9, c10, c11, c12, c13, c14, c15, c16, c17, c18⟩ := hSz
                go_simp
                try with_reducible rfl
              try simp only [Act.put, List.setIfInBounds_toArray, List.set_cons_zero, List.set_cons_succ, List.getElem_toArray, List.getElem_cons_succ, List.getElem_cons_zero]
              refine wpAnyH_take (i := 8) (v := ?_) rfl (by kernel_rfl) (by kernel_rfl) (by kernel_rfl) (fun _ _ _ h => h) (Or.inl ⟨by rfl, ?_⟩) (by assumption) ?_
              rotate_left
              · intro z hSz
                obtain ⟨c0, c1, c2, c3, c4, c5, c6, c7, c8, c9, c10, c11, c12, c13, c14, c15, c16, c17, c18⟩ := hSz
                go_simp
                try with_reducible rfl
              try simp only [Act.put, List.setIfInBounds_toArray, List.set_cons_zero, List.set_cons_succ, List.getElem_toArray, List.getElem_cons_succ, List.getElem_cons_zero]
              refine wpAnyH_take (i := 9) (v := ?_) rfl (by kernel_rfl) (by kernel_rfl) (by kernel_rfl) (fun _ _ _ h => h) (Or.inl ⟨by rfl, ?_⟩) (by assumption) ?_
              rotate_left
              · intro z hSz
                obtain ⟨c0, c1, c2, c3, c4, c5, c6, c7, c8, c9, c10, c11, c12, c13, c14, c15, c16, c17, c18⟩ := hSz
                go_simp
                try with_reducible rfl
              try simp only [Act.put, List.setIfInBounds_toArray, List.set_cons_zero, List.set_cons_succ, List.getElem_toArray, List.getElem_cons_succ, List.getElem_cons_zero]
              refine wpAnyH_ready (rs := [7]) (by kernel_rfl) (by simp) ?_
              refine AllReadyH.cons rfl (fun K hK => ?_) AllReadyH.nil
              go_simp
              refine (HUS.out x1 (HBy.out.trans (HYx1.out.mono HBy.out.size))).mono ?_
              rintro e x2 ⟨rfl, hb⟩
              have HYx2 : Hid (Below y.heap.size y x2) := HYx1.out.trans (hb.mono HYx1.out.size)
              clear hb
              refine hK.out _ _ (HP.out _ HYx2.out) (fun hHeld2 => ?_)
              clear hK K hHeld
              have hHeld := hHeld2
              clear hHeld2
              try simp only [Act.put, List.setIfInBounds_toArray, List.set_cons_zero, List.set_cons_succ, List.getElem_toArray, List.getElem_cons_succ, List.getElem_cons_zero]
              refine wpAnyH_ready (rs := [10]) (by kernel_rfl) (by simp) ?_
              refine AllReadyH.cons rfl (fun K hK => ?_) AllReadyH.nil
              go_simp
              refine (HRM.out x2).mono ?_
              rintro e x3 ⟨rfl, hb⟩
              have HYx3 : Hid (Below y.heap.size y x3) := HYx2.out.trans (hb.mono HYx2.out.size)
              clear hb
              refine hK.out _ _ (HP.out _ HYx3.out) (fun hHeld2 => ?_)
              clear hK K hHeld
              have hHeld := hHeld2
              clear hHeld2
              try simp only [Act.put, List.setIfInBounds_toArray, List.set_cons_zero, List.set_cons_succ, List.getElem_toArray, List.getElem_cons_succ, List.getElem_cons_zero]
              refine wpAnyH_take (i := 11) (v := ?_) rfl (by kernel_rfl) (by kernel_rfl) (by kernel_rfl) (fun _ _ _ h => h) (Or.inl ⟨by rfl, ?_⟩) (by assumption) ?_
              rotate_left
              · intro z hSz
                obtain ⟨c0, c1, c2, c3, c4, c5, c6, c7, c8, c9, c10, c11, c12, c13, c14, c15, c16, c17, c18⟩ := hSz
                go_simp
                try with_reducible rfl
              try simp only [Act.put, List.setIfInBounds_toArray, List.set_cons_zero, List.set_cons_succ, List.getElem_toArray, List.getElem_cons_succ, List.getElem_cons_zero]
              refine wpAnyH_take (i := 12) (v := ?_) rfl (by kernel_rfl) (by kernel_rfl) (by kernel_rfl) (fun _ _ _ h => h) (Or.inl ⟨by rfl, ?_⟩) (by assumption) ?_
              rotate_left
              · intro z hSz
                obtain ⟨c0, c1, c2, c3, c4, c5, c6, c7, c8, c9, c10, c11, c12, c13, c14, c15, c16, c17, c18⟩ := hSz
                go_simp
                try with_reducible rfl
              try simp only [Act.put, List.setIfInBounds_toArray, List.set_cons_zero, List.set_cons_succ, List.getElem_toArray, List.getElem_cons_succ, List.getElem_cons_zero]
              refine wpAnyH_done (by kernel_rfl) ?_ _
              clear hHeld
              go_wp2_with fail
              go_meet
              case rel => exact ⟨ro, rfl, ⟨HQV.out, HYx3.out⟩⟩
          case rest =>
            obtain ⟨qq, rfl, HC⟩ := hcut
            obtain ⟨y1, rfl⟩ : ∃ q, q = wc := ⟨wc, rfl⟩
            have HQ0 : Hid (qq = (su && ro)) := HC.out.1
            have HB8 : Hid (Below w.heap.size w y1) := HBy.out.trans (HC.out.2.mono HBy.out.size)
            have HX8 := Lib.hid (HXy.out.below HC.out.2)
            have HP8 := Lib.hid (HPy.out.below HC.out.2)
            clear HC HBy HXy HPy HQy HSU HRM HUS
            go_upto_region 8 with fail
            refine wp_region_list ?_
            refine wpList_load_mid rfl 27 (.tmp 3) rfl (w.heap.size) (0) rfl [.slice (some ⟨gn, on, none⟩) b.ns.length cn, .slice (some ⟨gt, ot, none⟩) b.ts.length ct, .slice ab b.bs.length cb, .int .u64 (b.fe : Nat)] _ (HX8.out.range 0) Tryz.underlying27 rfl rfl ?_
            refine wpList_plain rfl fun K hK => ?_
            go_simp
            refine hK _ _ ?_
            clear hK K
            refine wpList_plain rfl fun K hK => ?_
            go_wp2_with fail
            refine (HTH.out y1 HB8.out).mono ?_
            rintro e w9 ⟨v1, lm, rfl, ho, hm, hd, hb⟩
            obtain ⟨g1, n1, rfl⟩ := ho.slice
            refine hK _ _ ?_
            clear hK K
            have HB9 : Hid (Below w.heap.size w w9) := HB8.out.trans (hb.mono HB8.out.size)
            have HP9 := Lib.hid (HP8.out.below hb)
            have HO9 := Lib.hid ho
            have HM9 := Lib.hid hm
            clear ho hm hd hb HB8 HX8 HP8 HTH
            refine wpList_plain rfl fun K hK => ?_
            go_simp
            refine hK _ _ ?_
            clear hK K
            refine wpList_plain rfl fun K hK => ?_
            go_simp
            refine hK _ _ ?_
            clear hK K
            refine wpList_nil ?_
            have HLL : Hid (lm.length ≤ 32) := by have h := thr_len b.ts b.bs v; rw [← HM9.out, List.length_map] at h; have := HLB.out; show _ ≤ _; omega
            go_wp2
            go_loopg [11, 56] lm.length (fun gg p i wx => ∃ (k : Nat) (q : Bool), k + gg = lm.length ∧ p = .bool q ∧ i = .int .i64 k ∧ Aside (q = (su && (ro && ((thr b.ts b.bs v).take k).all (fun u => beB xt.td u)))) ∧ Aside (Below w9.heap.size w9 wx))
            case atStart => exact ⟨0, qq, by omega, rfl, rfl, by show qq = _; rw [HQ0.out]; simp, Below.refl _ _⟩
            case round =>
              obtain ⟨k, q, hkg, rfl, rfl, HQ, HA⟩ := hrel
              have HBr : Hid (Below w9.heap.size w9 wr) := HA.out
              have HQr : Hid (q = (su && (ro && ((thr b.ts b.bs v).take k).all (fun u => beB xt.td u)))) := HQ.out
              have HBw : Hid (Below w.heap.size w wr) := HB9.out.trans (HBr.out.mono HB9.out.size)
              clear HA HQ HQ0
              cases gk with
              | zero =>
                obtain rfl : k = lm.length := by omega
                have HQ2 : Hid (E = if q = true then 0 else 13) := by
                  have h := HQr.out
                  rw [List.take_of_length_le (by rw [← HM9.out, List.length_map]; exact Nat.le_refl _)] at h
                  show E = _
                  rw [HE2.out, h]
                clear hkg HQr HE2
                cases q with
                | true =>
                  have HEE : Hid (E = 0) := HQ2.out
                  go_wp2
                  go_ret
                  exact ⟨by rw [HEE.out]; rfl, HBw.out⟩
                | false =>
                  have HEE : Hid (E = 13) := HQ2.out
                  go_wp2
                  go_ret
                  exact ⟨by rw [HEE.out]; rfl, HBw.out⟩
              | succ gg =>
                have hlk : k < lm.length := by omega
                have t5 : (k : Int) < (lm.length : Int) := by omega
                have t6 : IntKind.i64.wrap ((k : Int) + 1) = (k : Int) + 1 := by rw [IntKind.wrap_i64]; have := HLL.out; omega
                have t7 : (0 : Int) ≤ (k : Int) := by omega
                obtain ⟨g, cap, hv, -, hgl, hax, -⟩ := HO9.out.form (by omega)
                obtain ⟨hg1, hc1⟩ := slice_inj2 hv
                subst hg1
                have hak := hax k hlk
                obtain ⟨xu, hxu⟩ : ∃ x, x = lm[k] := ⟨_, rfl⟩
                rw [← hxu] at hak
                have hrow : wr.rangeAt g (k * 9) [.string xu.td.n, .int .i64 xu.td.z0, .int .i64 xu.td.z1, .int .i64 xu.td.z2, .slice xu.a4 xu.td.ws.length xu.c4, .slice xu.a5 xu.td.bs.length xu.c5, .string xu.td.g, .string xu.td.a, .int .i64 xu.td.r] := fun j u hj => (hak.keep HBr.out hgl) j u hj
                have HST : Hid (((thr b.ts b.bs v).take (k + 1)).all (fun u => beB xt.td u) = (((thr b.ts b.bs v).take k).all (fun u => beB xt.td u) && beB xt.td xu.td)) := by
                  have h2 : k < (thr b.ts b.bs v).length := by rw [← HM9.out, List.length_map]; exact hlk
                  have h3 : (thr b.ts b.bs v)[k] = xu.td := by
                    have h := HM9.out
                    have h4 : (lm.map (·.td))[k]'(by rw [List.length_map]; exact hlk) = (thr b.ts b.bs v)[k] := by simp only [h]
                    rw [← h4, List.getElem_map, hxu]
                  show _ = _
                  rw [List.take_succ_eq_append_getElem h2, List.all_append, h3]
                  simp
                have HBE : Hid (∀ z, Calls Tryz.prog 155 #[.agg #[.string xt.td.n, .int .i64 xt.td.z0, .int .i64 xt.td.z1, .int .i64 xt.td.z2, .slice xt.a4 xt.td.ws.length xt.c4, .slice xt.a5 xt.td.bs.length xt.c5, .string xt.td.g, .string xt.td.a, .int .i64 xt.td.r], .agg #[.string xu.td.n, .int .i64 xu.td.z0, .int .i64 xu.td.z1, .int .i64 xu.td.z2, .slice xu.a4 xu.td.ws.length xu.c4, .slice xu.a5 xu.td.bs.length xu.c5, .string xu.td.g, .string xu.td.a, .int .i64 xu.td.r]] z fun e w' => e = .returned (.bool (beB xt.td xu.td)) ∧ Below z.heap.size z w') := fun z => Rg.bear_ref _ _ _ _ _ _ _ _ _ _ _ _ _ _ _ _ _ _ _ _ _ _ _ _ _ _ z
                clear hv hc1 hax hak hxu
                go_upto_region 10 with fail
                refine wp_region_list ?_
                refine wpList_plain rfl fun K hK => ?_
                go_simp
                refine hK _ _ ?_
                clear hK K
                refine wpList_load_mid rfl 42 (.tmp 58) rfl (g) (k * 9) rfl [.string xu.td.n, .int .i64 xu.td.z0, .int .i64 xu.td.z1, .int .i64 xu.td.z2, .slice xu.a4 xu.td.ws.length xu.c4, .slice xu.a5 xu.td.bs.length xu.c5, .string xu.td.g, .string xu.td.a, .int .i64 xu.td.r] _ (hrow) Tryz.underlying42 rfl rfl ?_
                refine wpList_plain rfl fun K hK => ?_
                go_simp
                refine hK _ _ ?_
                clear hK K
                obtain ⟨th1, hbz, hx1⟩ := one_made wr [.string ⟨#[]⟩, .int .i64 0, .int .i64 0, .int .i64 0, .slice none 0 0, .slice none 0 0, .string ⟨#[]⟩, .string ⟨#[]⟩, .int .i64 0] [.string xu.td.n, .int .i64 xu.td.z0, .int .i64 xu.td.z1, .int .i64 xu.td.z2, .slice xu.a4 xu.td.ws.length xu.c4, .slice xu.a5 xu.td.bs.length xu.c5, .string xu.td.g, .string xu.td.a, .int .i64 xu.td.r] 42 rfl
                refine wpList_store_mid rfl 42 (.tmp 13) (.tmp 59) rfl (wr.heap.size) 0 #[.string xu.td.n, .int .i64 xu.td.z0, .int .i64 xu.td.z1, .int .i64 xu.td.z2, .slice xu.a4 xu.td.ws.length xu.c4, .slice xu.a5 xu.td.bs.length xu.c5, .string xu.td.g, .string xu.td.a, .int .i64 xu.td.r] rfl rfl th1 rfl (all_oneCell_toArray (List.all_eq_true.1 (show List.all ([.string xu.td.n, .int .i64 xu.td.z0, .int .i64 xu.td.z1, .int .i64 xu.td.z2, .slice xu.a4 xu.td.ws.length xu.c4, .slice xu.a5 xu.td.bs.length xu.c5, .string xu.td.g, .string xu.td.a, .int .i64 xu.td.r] : List Value) (fun v => v.oneCell') = true from rfl))) ?_
                rw [show (#[.string xu.td.n, .int .i64 xu.td.z0, .int .i64 xu.td.z1, .int .i64 xu.td.z2, .slice xu.a4 xu.td.ws.length xu.c4, .slice xu.a5 xu.td.bs.length xu.c5, .string xu.td.g, .string xu.td.a, .int .i64 xu.td.r] : Array Value).toList = [.string xu.td.n, .int .i64 xu.td.z0, .int .i64 xu.td.z1, .int .i64 xu.td.z2, .slice xu.a4 xu.td.ws.length xu.c4, .slice xu.a5 xu.td.bs.length xu.c5, .string xu.td.g, .string xu.td.a, .int .i64 xu.td.r] from rfl]
                clear th1 hrow
                obtain ⟨zB, hzB⟩ : ∃ q : Nat, q = wr.heap.size := ⟨_, rfl⟩
                rw [← hzB] at hbz hx1 ⊢
                generalize (wr.alloc (.cells #[.string ⟨#[]⟩, .int .i64 0, .int .i64 0, .int .i64 0, .slice none 0 0, .slice none 0 0, .string ⟨#[]⟩, .string ⟨#[]⟩, .int .i64 0] 42)).setCells zB 0 [.string xu.td.n, .int .i64 xu.td.z0, .int .i64 xu.td.z1, .int .i64 xu.td.z2, .slice xu.a4 xu.td.ws.length xu.c4, .slice xu.a5 xu.td.bs.length xu.c5, .string xu.td.g, .string xu.td.a, .int .i64 xu.td.r] = y0 at *
                rw [hzB] at hbz
                clear hzB
                have HBq : Hid (Below w9.heap.size w9 y0) := HBr.out.trans (hbz.mono HBr.out.size)
                clear hbz HBr
                have HPq := HP9.out.below HBq.out
                have p0 : y0.cell? ⟨nP, 0, none⟩ = some (.string xt.td.n) := HPq.cell 0
                have p1 : y0.cell? ⟨nP, 1, none⟩ = some (.int .i64 xt.td.z0) := HPq.cell 1
                have p2 : y0.cell? ⟨nP, 2, none⟩ = some (.int .i64 xt.td.z1) := HPq.cell 2
                have p3 : y0.cell? ⟨nP, 3, none⟩ = some (.int .i64 xt.td.z2) := HPq.cell 3
                have p4 : y0.cell? ⟨nP, 4, none⟩ = some (.slice xt.a4 xt.td.ws.length xt.c4) := HPq.cell 4
                have p5 : y0.cell? ⟨nP, 5, none⟩ = some (.slice xt.a5 xt.td.bs.length xt.c5) := HPq.cell 5
                have p6 : y0.cell? ⟨nP, 6, none⟩ = some (.string xt.td.g) := HPq.cell 6
                have p7 : y0.cell? ⟨nP, 7, none⟩ = some (.string xt.td.a) := HPq.cell 7
                have p8 : y0.cell? ⟨nP, 8, none⟩ = some (.int .i64 xt.td.r) := HPq.cell 8
                have q0 : y0.cell? ⟨zB, 0, none⟩ = some (.string xu.td.n) := hx1.cell 0
                have q1 : y0.cell? ⟨zB, 1, none⟩ = some (.int .i64 xu.td.z0) := hx1.cell 1
                have q2 : y0.cell? ⟨zB, 2, none⟩ = some (.int .i64 xu.td.z1) := hx1.cell 2
                have q3 : y0.cell? ⟨zB, 3, none⟩ = some (.int .i64 xu.td.z2) := hx1.cell 3
                have q4 : y0.cell? ⟨zB, 4, none⟩ = some (.slice xu.a4 xu.td.ws.length xu.c4) := hx1.cell 4
                have q5 : y0.cell? ⟨zB, 5, none⟩ = some (.slice xu.a5 xu.td.bs.length xu.c5) := hx1.cell 5
                have q6 : y0.cell? ⟨zB, 6, none⟩ = some (.string xu.td.g) := hx1.cell 6
                have q7 : y0.cell? ⟨zB, 7, none⟩ = some (.string xu.td.a) := hx1.cell 7
                have q8 : y0.cell? ⟨zB, 8, none⟩ = some (.int .i64 xu.td.r) := hx1.cell 8
                clear HPq hx1
                refine wpList_nil ?_
                cases q with
                | false =>
                  have HQN : Hid (false = (su && (ro && ((thr b.ts b.bs v).take (k + 1)).all (fun u => beB xt.td u)))) := by
                    show false = _
                    rw [HST.out]
                    have h := HQr.out
                    revert h
                    cases su <;> cases ro <;> cases ((thr b.ts b.bs v).take k).all (fun u => beB xt.td u) <;> simp
                  clear HST HQr
                  go_wp2
                  clear p0 p1 p2 p3 p4 p5 p6 p7 p8 q0 q1 q2 q3 q4 q5 q6 q7 q8
                  go_roundg gg
                  case measure => omega
                  case rel => exact ⟨k + 1, false, by omega, by simp, by simp, HQN.out, HBq.out⟩
                | true =>
                  obtain ⟨bb, hbb⟩ : ∃ q, q = beB xt.td xu.td := ⟨_, rfl⟩
                  rw [← hbb] at HBE HST
                  have HQN : Hid (bb = (su && (ro && ((thr b.ts b.bs v).take (k + 1)).all (fun u => beB xt.td u)))) := by
                    show bb = _
                    rw [HST.out]
                    have h := HQr.out
                    revert h
                    cases su <;> cases ro <;> cases ((thr b.ts b.bs v).take k).all (fun u => beB xt.td u) <;> simp
                  clear HST HQr hbb
                  go_wp2_with fail
                  refine (HBE.out y0).mono ?_
                  rintro e x8 ⟨rfl, hb⟩
                  have HB8 : Hid (Below w9.heap.size w9 x8) := HBq.out.trans (hb.mono HBq.out.size)
                  clear hb
                  clear p0 p1 p2 p3 p4 p5 p6 p7 p8 q0 q1 q2 q3 q4 q5 q6 q7 q8
                  go_wp2
                  go_roundg gg
                  case measure => omega
                  case rel => exact ⟨k + 1, bb, by omega, by simp, by simp, HQN.out, HB8.out⟩
end Bo
end Go.Proofs.YthbmnkeigmbbdaaGreat

/-
  Can, Used AND Lead, by the document.
-/
namespace Go.Proofs.YthbmnkeigmbbdaaGreat
open Go.RowKit Go.Lib
namespace Bo
open Rw
set_option linter.unusedVariables false
set_option maxRecDepth 100000 in
set_option maxHeartbeats 4000000 in
theorem cano_no (b : Bk) (vn vt vb : Value) (k v : ByteArray) (w : World) (hB : Books w w.heap.size vn vt vb b) (hc : chkB b = false) :
    Calls Tryz.prog 49 #[.agg #[vn, vt, vb, .int .u64 (b.fe : Nat)], .string k, .string v] w fun e w' => e = .returned (.int .i64 (canF b k v : Nat)) ∧ Below w.heap.size w w' := by
  have HE : Hid (canF b k v = 10) := by show _ = _; unfold canF; rw [hc]; rfl
  rw [HE.out]
  clear HE
  have HCK : Hid (∀ z, Below w.heap.size w z → Calls Tryz.prog 39 #[.agg #[vn, vt, vb, .int .u64 (b.fe : Nat)]] z fun e w' => e = .returned (.int .i64 10) ∧ Below z.heap.size z w') := fun z hz => (check_ref8 b vn vt vb z (hB.on hz)).mono fun e w' ⟨he, hb⟩ => ⟨by rw [hc] at he; exact he, hb⟩
  obtain ⟨W0, hW0⟩ : ∃ W0, W0 = w.alloc (.cells #[vn, vt, vb, .int .u64 (b.fe : Nat)] 27) := ⟨_, rfl⟩
  have HB0 : Hid (Below w.heap.size w W0) := by rw [hW0]; exact al w _
  have HX0 : Hid (Hd.Bxn W0 w.heap.size [vn, vt, vb, .int .u64 (b.fe : Nat)]) := by rw [hW0]; exact Hd.Bxn.made w _ _
  have HW := Lib.hid hW0
  clear hW0
  obtain ⟨an, cn, rfl⟩ := hB.hn.slice
  obtain ⟨at', ct, rfl⟩ := hB.ht.slice
  obtain ⟨ab, cb, rfl⟩ := hB.hb.slice
  clear hB hc
  go_enter Tryz.func49, Tryz.ntmps49
  go_upto_region 1 with fail
  rw [← HW.out]
  clear HW
  refine wp_region_list ?_
  refine wpList_load_mid rfl 27 (.tmp 3) rfl (w.heap.size) (0) rfl [.slice an b.ns.length cn, .slice at' b.ts.length ct, .slice ab b.bs.length cb, .int .u64 (b.fe : Nat)] _ (HX0.out.range 0) Tryz.underlying27 rfl rfl ?_
  refine wpList_plain rfl fun K hK => ?_
  go_wp2_with fail
  refine (HCK.out W0 HB0.out).mono ?_
  rintro e w1 ⟨rfl, hb⟩
  refine hK _ _ ?_
  clear hK K
  have HB1 : Hid (Below w.heap.size w w1) := HB0.out.trans (hb.mono HB0.out.size)
  have HX1 := Lib.hid (HX0.out.below hb)
  clear hb HB0 HX0 HCK
  refine wpList_plain rfl fun K hK => ?_
  go_simp
  refine hK _ _ ?_
  clear hK K
  refine wpList_nil ?_
  go_wp2
  go_ret
  exact ⟨rfl, HB1.out⟩
set_option maxRecDepth 100000 in
set_option maxHeartbeats 4000000 in
theorem cano_ok (b : Bk) (vn vt vb : Value) (k v : ByteArray) (w : World) (hB : Books w w.heap.size vn vt vb b) (hc : chkB b = true) :
    Calls Tryz.prog 49 #[.agg #[vn, vt, vb, .int .u64 (b.fe : Nat)], .string k, .string v] w fun e w' => e = .returned (.int .i64 (canF b k v : Nat)) ∧ Below w.heap.size w w' := by
  have HE : Hid (canF b k v = canE b k v) := by show _ = _; unfold canF; rw [hc]; rfl
  rw [HE.out]
  clear HE
  have HCK : Hid (∀ z, Below w.heap.size w z → Calls Tryz.prog 39 #[.agg #[vn, vt, vb, .int .u64 (b.fe : Nat)]] z fun e w' => e = .returned (.int .i64 0) ∧ Below z.heap.size z w') := fun z hz => (check_ref8 b vn vt vb z (hB.on hz)).mono fun e w' ⟨he, hb⟩ => ⟨by rw [hc] at he; exact he, hb⟩
  have HCN : Hid (∀ z, Below w.heap.size w z → Calls Tryz.prog 89 #[.agg #[vn, vt, vb, .int .u64 (b.fe : Nat)], .string k, .string v] z fun e w' => e = .returned (.int .i64 (canE b k v : Nat)) ∧ Below z.heap.size z w') := fun z hz => can_ref8 b vn vt vb k v z (hB.on hz) (rb_of_chk hc)
  generalize canE b k v = q at *
  obtain ⟨W0, hW0⟩ : ∃ W0, W0 = w.alloc (.cells #[vn, vt, vb, .int .u64 (b.fe : Nat)] 27) := ⟨_, rfl⟩
  have HB0 : Hid (Below w.heap.size w W0) := by rw [hW0]; exact al w _
  have HX0 : Hid (Hd.Bxn W0 w.heap.size [vn, vt, vb, .int .u64 (b.fe : Nat)]) := by rw [hW0]; exact Hd.Bxn.made w _ _
  have HW := Lib.hid hW0
  clear hW0
  obtain ⟨an, cn, rfl⟩ := hB.hn.slice
  obtain ⟨at', ct, rfl⟩ := hB.ht.slice
  obtain ⟨ab, cb, rfl⟩ := hB.hb.slice
  clear hB hc
  go_enter Tryz.func49, Tryz.ntmps49
  go_upto_region 1 with fail
  rw [← HW.out]
  clear HW
  refine wp_region_list ?_
  refine wpList_load_mid rfl 27 (.tmp 3) rfl (w.heap.size) (0) rfl [.slice an b.ns.length cn, .slice at' b.ts.length ct, .slice ab b.bs.length cb, .int .u64 (b.fe : Nat)] _ (HX0.out.range 0) Tryz.underlying27 rfl rfl ?_
  refine wpList_plain rfl fun K hK => ?_
  go_wp2_with fail
  refine (HCK.out W0 HB0.out).mono ?_
  rintro e w1 ⟨rfl, hb⟩
  refine hK _ _ ?_
  clear hK K
  have HB1 : Hid (Below w.heap.size w w1) := HB0.out.trans (hb.mono HB0.out.size)
  have HX1 := Lib.hid (HX0.out.below hb)
  clear hb HB0 HX0 HCK
  refine wpList_plain rfl fun K hK => ?_
  go_simp
  refine hK _ _ ?_
  clear hK K
  refine wpList_nil ?_
  go_upto_region 3 with fail
  refine wp_region_list ?_
  refine wpList_load_mid rfl 27 (.tmp 3) rfl (w.heap.size) (0) rfl [.slice an b.ns.length cn, .slice at' b.ts.length ct, .slice ab b.bs.length cb, .int .u64 (b.fe : Nat)] _ (HX1.out.range 0) Tryz.underlying27 rfl rfl ?_
  refine wpList_plain rfl fun K hK => ?_
  go_simp
  refine hK _ _ ?_
  clear hK K
  refine wpList_plain rfl fun K hK => ?_
  go_simp
  refine hK _ _ ?_
  clear hK K
  refine wpList_plain rfl fun K hK => ?_
  go_wp2_with fail
  refine (HCN.out w1 HB1.out).mono ?_
  rintro e w2 ⟨rfl, hb⟩
  refine hK _ _ ?_
  clear hK K
  have HB2 : Hid (Below w.heap.size w w2) := HB1.out.trans (hb.mono HB1.out.size)
  clear hb HB1 HX1 HCN
  refine wpList_plain rfl fun K hK => ?_
  go_simp
  refine hK _ _ ?_
  clear hK K
  refine wpList_nil ?_
  go_wp2
  go_ret
  exact ⟨rfl, HB2.out⟩
theorem cano_any (b : Bk) (vn vt vb : Value) (k v : ByteArray) (w : World) (hB : Books w w.heap.size vn vt vb b) :
    Calls Tryz.prog 49 #[.agg #[vn, vt, vb, .int .u64 (b.fe : Nat)], .string k, .string v] w fun e w' => e = .returned (.int .i64 (canF b k v : Nat)) ∧ Below w.heap.size w w' := by
  cases hc : chkB b
  · exact cano_no b vn vt vb k v w hB hc
  · exact cano_ok b vn vt vb k v w hB hc
set_option maxRecDepth 100000 in
set_option maxHeartbeats 4000000 in
theorem usedo_no (b : Bk) (vn vt vb : Value) (v : ByteArray) (w : World) (hB : Books w w.heap.size vn vt vb b) (hc : chkB b = false) :
    Calls Tryz.prog 43 #[.agg #[vn, vt, vb, .int .u64 (b.fe : Nat)], .string v] w fun e w' => e = .returned (.tuple #[.agg #[.int .i64 0, .int .i64 0, .int .i64 0], .int .i64 10]) ∧ Below w.heap.size w w' := by
  have HCK : Hid (∀ z, Below w.heap.size w z → Calls Tryz.prog 39 #[.agg #[vn, vt, vb, .int .u64 (b.fe : Nat)]] z fun e w' => e = .returned (.int .i64 10) ∧ Below z.heap.size z w') := fun z hz => (check_ref8 b vn vt vb z (hB.on hz)).mono fun e w' ⟨he, hb⟩ => ⟨by rw [hc] at he; exact he, hb⟩
  obtain ⟨W0, hW0⟩ : ∃ W0, W0 = (w.alloc (.cells #[vn, vt, vb, .int .u64 (b.fe : Nat)] 27)).alloc (.cells #[.int .i64 0, .int .i64 0, .int .i64 0] 39) := ⟨_, rfl⟩
  have hf0 : Fr2 w W0 [vn, vt, vb, .int .u64 (b.fe : Nat)] [.int .i64 0, .int .i64 0, .int .i64 0] := by rw [hW0]; exact Fr2.made w _ _ _ _
  have HF0 := Lib.hid hf0
  have HW := Lib.hid hW0
  clear hW0 hf0
  obtain ⟨an, cn, rfl⟩ := hB.hn.slice
  obtain ⟨at', ct, rfl⟩ := hB.ht.slice
  obtain ⟨ab, cb, rfl⟩ := hB.hb.slice
  clear hB hc
  go_enter Tryz.func43, Tryz.ntmps43
  go_upto_region 1 with fail
  rw [← HW.out]
  clear HW
  refine wp_region_list ?_
  refine wpList_load_mid rfl 27 (.tmp 2) rfl (w.heap.size) (0) rfl [.slice an b.ns.length cn, .slice at' b.ts.length ct, .slice ab b.bs.length cb, .int .u64 (b.fe : Nat)] _ (HF0.out.p.range 0) Tryz.underlying27 rfl rfl ?_
  refine wpList_plain rfl fun K hK => ?_
  go_wp2_with fail
  refine (HCK.out W0 HF0.out.b).mono ?_
  rintro e w1 ⟨rfl, hb⟩
  refine hK _ _ ?_
  clear hK K
  have HF1 := Lib.hid (HF0.out.below hb)
  clear hb HF0 HCK
  refine wpList_plain rfl fun K hK => ?_
  go_simp
  refine hK _ _ ?_
  clear hK K
  refine wpList_plain rfl fun K hK => ?_
  go_simp
  refine hK _ _ ?_
  clear hK K
  refine wpList_nil ?_
  go_upto_region 2 with fail
  refine wp_region_list ?_
  refine wpList_plain rfl fun K hK => ?_
  go_simp
  refine hK _ _ ?_
  clear hK K
  have hthR := HF1.out.r.there 3 rfl
  refine wpList_store_mid rfl 39 (.tmp 4) (.tmp 10) rfl (w.heap.size + 1) 0 #[.int .i64 0, .int .i64 0, .int .i64 0] rfl rfl hthR rfl (all_oneCell_toArray (List.all_eq_true.1 (show List.all ([.int .i64 0, .int .i64 0, .int .i64 0] : List Value) (fun v => v.oneCell') = true from rfl))) ?_
  rw [show (#[.int .i64 0, .int .i64 0, .int .i64 0] : Array Value).toList = [.int .i64 0, .int .i64 0, .int .i64 0] from rfl]
  have HR1 := Lib.hid (HF1.out.setR [.int .i64 0, .int .i64 0, .int .i64 0] rfl)
  clear hthR HF1
  generalize (w1).setCells (w.heap.size + 1) 0 [.int .i64 0, .int .i64 0, .int .i64 0] = z1 at *
  refine wpList_plain rfl fun K hK => ?_
  go_simp
  refine hK _ _ ?_
  clear hK K
  refine wpList_nil ?_
  go_wp2
  exact Hd.bodyPost_bx2 rfl (w.heap.size + 1) [.int .i64 0, .int .i64 0, .int .i64 0] _ rfl rfl HR1.out.r Tryz.underlying39 rfl rfl (⟨rfl, HR1.out.b⟩)
set_option maxRecDepth 100000 in
set_option maxHeartbeats 4000000 in
theorem usedo_none (b : Bk) (vn vt vb : Value) (v : ByteArray) (w : World) (hB : Books w w.heap.size vn vt vb b) (hc : chkB b = true) (hh : hsN b.ns v = false) :
    Calls Tryz.prog 43 #[.agg #[vn, vt, vb, .int .u64 (b.fe : Nat)], .string v] w fun e w' => e = .returned (.tuple #[.agg #[.int .i64 0, .int .i64 0, .int .i64 0], .int .i64 6]) ∧ Below w.heap.size w w' := by
  have HCK : Hid (∀ z, Below w.heap.size w z → Calls Tryz.prog 39 #[.agg #[vn, vt, vb, .int .u64 (b.fe : Nat)]] z fun e w' => e = .returned (.int .i64 0) ∧ Below z.heap.size z w') := fun z hz => (check_ref8 b vn vt vb z (hB.on hz)).mono fun e w' ⟨he, hb⟩ => ⟨by rw [hc] at he; exact he, hb⟩
  have HNK : Hid (∀ z, Below w.heap.size w z → Calls Tryz.prog 84 #[.agg #[vn, vt, vb, .int .u64 (b.fe : Nat)], .string v] z fun e w' => e = .returned (.int .i64 (-1)) ∧ Below z.heap.size z w') := fun z hz => (Node_ix b vn vt vb v z (hB.on hz)).mono fun e w' ⟨he, hb⟩ => ⟨by rw [he]; unfold ixK; rw [if_neg (by show ¬ hsN b.ns v = true; rw [hh]; simp)], hb⟩
  obtain ⟨W0, hW0⟩ : ∃ W0, W0 = (w.alloc (.cells #[vn, vt, vb, .int .u64 (b.fe : Nat)] 27)).alloc (.cells #[.int .i64 0, .int .i64 0, .int .i64 0] 39) := ⟨_, rfl⟩
  have hf0 : Fr2 w W0 [vn, vt, vb, .int .u64 (b.fe : Nat)] [.int .i64 0, .int .i64 0, .int .i64 0] := by rw [hW0]; exact Fr2.made w _ _ _ _
  have HF0 := Lib.hid hf0
  have HW := Lib.hid hW0
  clear hW0 hf0
  obtain ⟨an, cn, rfl⟩ := hB.hn.slice
  obtain ⟨at', ct, rfl⟩ := hB.ht.slice
  obtain ⟨ab, cb, rfl⟩ := hB.hb.slice
  clear hB hc hh
  go_enter Tryz.func43, Tryz.ntmps43
  go_upto_region 1 with fail
  rw [← HW.out]
  clear HW
  refine wp_region_list ?_
  refine wpList_load_mid rfl 27 (.tmp 2) rfl (w.heap.size) (0) rfl [.slice an b.ns.length cn, .slice at' b.ts.length ct, .slice ab b.bs.length cb, .int .u64 (b.fe : Nat)] _ (HF0.out.p.range 0) Tryz.underlying27 rfl rfl ?_
  refine wpList_plain rfl fun K hK => ?_
  go_wp2_with fail
  refine (HCK.out W0 HF0.out.b).mono ?_
  rintro e w1 ⟨rfl, hb⟩
  refine hK _ _ ?_
  clear hK K
  have HF1 := Lib.hid (HF0.out.below hb)
  clear hb HF0 HCK
  refine wpList_plain rfl fun K hK => ?_
  go_simp
  refine hK _ _ ?_
  clear hK K
  refine wpList_plain rfl fun K hK => ?_
  go_simp
  refine hK _ _ ?_
  clear hK K
  refine wpList_nil ?_
  go_upto_region 3 with fail
  refine wp_region_list ?_
  refine wpList_load_mid rfl 27 (.tmp 2) rfl (w.heap.size) (0) rfl [.slice an b.ns.length cn, .slice at' b.ts.length ct, .slice ab b.bs.length cb, .int .u64 (b.fe : Nat)] _ (HF1.out.p.range 0) Tryz.underlying27 rfl rfl ?_
  refine wpList_plain rfl fun K hK => ?_
  go_simp
  refine hK _ _ ?_
  clear hK K
  refine wpList_plain rfl fun K hK => ?_
  go_wp2_with fail
  refine (HNK.out w1 HF1.out.b).mono ?_
  rintro e w2 ⟨rfl, hb⟩
  refine hK _ _ ?_
  clear hK K
  have HF2 := Lib.hid (HF1.out.below hb)
  clear hb HF1 HNK
  refine wpList_plain rfl fun K hK => ?_
  go_simp
  refine hK _ _ ?_
  clear hK K
  refine wpList_plain rfl fun K hK => ?_
  go_simp
  refine hK _ _ ?_
  clear hK K
  refine wpList_nil ?_
  go_upto_region 4 with fail
  refine wp_region_list ?_
  refine wpList_plain rfl fun K hK => ?_
  go_simp
  refine hK _ _ ?_
  clear hK K
  have hthR := HF2.out.r.there 3 rfl
  refine wpList_store_mid rfl 39 (.tmp 4) (.tmp 16) rfl (w.heap.size + 1) 0 #[.int .i64 0, .int .i64 0, .int .i64 0] rfl rfl hthR rfl (all_oneCell_toArray (List.all_eq_true.1 (show List.all ([.int .i64 0, .int .i64 0, .int .i64 0] : List Value) (fun v => v.oneCell') = true from rfl))) ?_
  rw [show (#[.int .i64 0, .int .i64 0, .int .i64 0] : Array Value).toList = [.int .i64 0, .int .i64 0, .int .i64 0] from rfl]
  have HR1 := Lib.hid (HF2.out.setR [.int .i64 0, .int .i64 0, .int .i64 0] rfl)
  clear hthR HF2
  generalize (w2).setCells (w.heap.size + 1) 0 [.int .i64 0, .int .i64 0, .int .i64 0] = z1 at *
  refine wpList_plain rfl fun K hK => ?_
  go_simp
  refine hK _ _ ?_
  clear hK K
  refine wpList_nil ?_
  go_wp2
  exact Hd.bodyPost_bx2 rfl (w.heap.size + 1) [.int .i64 0, .int .i64 0, .int .i64 0] _ rfl rfl HR1.out.r Tryz.underlying39 rfl rfl (⟨rfl, HR1.out.b⟩)
set_option maxRecDepth 100000 in
set_option maxHeartbeats 4000000 in
theorem usedo_ok (b : Bk) (vn vt vb : Value) (v : ByteArray) (w : World) (hB : Books w w.heap.size vn vt vb b) (hc : chkB b = true) (hh : hsN b.ns v = true) :
    Calls Tryz.prog 43 #[.agg #[vn, vt, vb, .int .u64 (b.fe : Nat)], .string v] w fun e w' => e = .returned (.tuple #[.agg #[.int .i64 (us0 b v), .int .i64 (us1 b v), .int .i64 (us2 b v)], .int .i64 0]) ∧ Below w.heap.size w w' := by
  have HCK : Hid (∀ z, Below w.heap.size w z → Calls Tryz.prog 39 #[.agg #[vn, vt, vb, .int .u64 (b.fe : Nat)]] z fun e w' => e = .returned (.int .i64 0) ∧ Below z.heap.size z w') := fun z hz => (check_ref8 b vn vt vb z (hB.on hz)).mono fun e w' ⟨he, hb⟩ => ⟨by rw [hc] at he; exact he, hb⟩
  obtain ⟨i, hi⟩ : ∃ i : Nat, ixK (b.ns.map (·.n)) v = (i : Int) := ⟨fiK (b.ns.map (·.n)) v, by unfold ixK; rw [if_pos (show hasK (b.ns.map (·.n)) v = true from hh)]⟩
  have HNK : Hid (∀ z, Below w.heap.size w z → Calls Tryz.prog 84 #[.agg #[vn, vt, vb, .int .u64 (b.fe : Nat)], .string v] z fun e w' => e = .returned (.int .i64 (i : Nat)) ∧ Below z.heap.size z w') := fun z hz => (Node_ix b vn vt vb v z (hB.on hz)).mono fun e w' ⟨he, hb⟩ => ⟨by rw [he, hi], hb⟩
  have i0 : decide ((i : Int) < 0) = false := decide_eq_false (by omega)
  have i1 : ¬ (i : Int) < 0 := by omega
  clear hi
  have HUS : Hid (∀ z, Below w.heap.size w z → Calls Tryz.prog 85 #[.agg #[vn, vt, vb, .int .u64 (b.fe : Nat)], .string v] z fun e w' => e = .returned (.agg #[.int .i64 (us0 b v), .int .i64 (us1 b v), .int .i64 (us2 b v)]) ∧ Below z.heap.size z w') := fun z hz => used_ref b vn vt vb v z (hB.on hz) (rb_of_chk hc).lists
  generalize us0 b v = s0 at *
  generalize us1 b v = s1 at *
  generalize us2 b v = s2 at *
  obtain ⟨W0, hW0⟩ : ∃ W0, W0 = (w.alloc (.cells #[vn, vt, vb, .int .u64 (b.fe : Nat)] 27)).alloc (.cells #[.int .i64 0, .int .i64 0, .int .i64 0] 39) := ⟨_, rfl⟩
  have hf0 : Fr2 w W0 [vn, vt, vb, .int .u64 (b.fe : Nat)] [.int .i64 0, .int .i64 0, .int .i64 0] := by rw [hW0]; exact Fr2.made w _ _ _ _
  have HF0 := Lib.hid hf0
  have HW := Lib.hid hW0
  clear hW0 hf0
  obtain ⟨an, cn, rfl⟩ := hB.hn.slice
  obtain ⟨at', ct, rfl⟩ := hB.ht.slice
  obtain ⟨ab, cb, rfl⟩ := hB.hb.slice
  clear hB hc hh
  go_enter Tryz.func43, Tryz.ntmps43
  go_upto_region 1 with fail
  rw [← HW.out]
  clear HW
  refine wp_region_list ?_
  refine wpList_load_mid rfl 27 (.tmp 2) rfl (w.heap.size) (0) rfl [.slice an b.ns.length cn, .slice at' b.ts.length ct, .slice ab b.bs.length cb, .int .u64 (b.fe : Nat)] _ (HF0.out.p.range 0) Tryz.underlying27 rfl rfl ?_
  refine wpList_plain rfl fun K hK => ?_
  go_wp2_with fail
  refine (HCK.out W0 HF0.out.b).mono ?_
  rintro e w1 ⟨rfl, hb⟩
  refine hK _ _ ?_
  clear hK K
  have HF1 := Lib.hid (HF0.out.below hb)
  clear hb HF0 HCK
  refine wpList_plain rfl fun K hK => ?_
  go_simp
  refine hK _ _ ?_
  clear hK K
  refine wpList_plain rfl fun K hK => ?_
  go_simp
  refine hK _ _ ?_
  clear hK K
  refine wpList_nil ?_
  go_upto_region 3 with fail
  refine wp_region_list ?_
  refine wpList_load_mid rfl 27 (.tmp 2) rfl (w.heap.size) (0) rfl [.slice an b.ns.length cn, .slice at' b.ts.length ct, .slice ab b.bs.length cb, .int .u64 (b.fe : Nat)] _ (HF1.out.p.range 0) Tryz.underlying27 rfl rfl ?_
  refine wpList_plain rfl fun K hK => ?_
  go_simp
  refine hK _ _ ?_
  clear hK K
  refine wpList_plain rfl fun K hK => ?_
  go_wp2_with fail
  refine (HNK.out w1 HF1.out.b).mono ?_
  rintro e w2 ⟨rfl, hb⟩
  refine hK _ _ ?_
  clear hK K
  have HF2 := Lib.hid (HF1.out.below hb)
  clear hb HF1 HNK
  refine wpList_plain rfl fun K hK => ?_
  go_simp
  refine hK _ _ ?_
  clear hK K
  refine wpList_plain rfl fun K hK => ?_
  go_simp
  refine hK _ _ ?_
  clear hK K
  refine wpList_nil ?_
  go_upto_region 5 with fail
  refine wp_region_list ?_
  refine wpList_load_mid rfl 27 (.tmp 2) rfl (w.heap.size) (0) rfl [.slice an b.ns.length cn, .slice at' b.ts.length ct, .slice ab b.bs.length cb, .int .u64 (b.fe : Nat)] _ (HF2.out.p.range 0) Tryz.underlying27 rfl rfl ?_
  refine wpList_plain rfl fun K hK => ?_
  go_simp
  refine hK _ _ ?_
  clear hK K
  refine wpList_plain rfl fun K hK => ?_
  go_wp2_with fail
  refine (HUS.out w2 HF2.out.b).mono ?_
  rintro e w3 ⟨rfl, hb⟩
  refine hK _ _ ?_
  clear hK K
  have HF3 := Lib.hid (HF2.out.below hb)
  clear hb HF2 HUS
  have hthR := HF3.out.r.there 3 rfl
  refine wpList_store_mid rfl 39 (.tmp 4) (.tmp 19) rfl (w.heap.size + 1) 0 #[.int .i64 s0, .int .i64 s1, .int .i64 s2] rfl rfl hthR rfl (all_oneCell_toArray (List.all_eq_true.1 (show List.all ([.int .i64 s0, .int .i64 s1, .int .i64 s2] : List Value) (fun v => v.oneCell') = true from rfl))) ?_
  rw [show (#[.int .i64 s0, .int .i64 s1, .int .i64 s2] : Array Value).toList = [.int .i64 s0, .int .i64 s1, .int .i64 s2] from rfl]
  have HR1 := Lib.hid (HF3.out.setR [.int .i64 s0, .int .i64 s1, .int .i64 s2] rfl)
  clear hthR HF3
  generalize (w3).setCells (w.heap.size + 1) 0 [.int .i64 s0, .int .i64 s1, .int .i64 s2] = z1 at *
  refine wpList_plain rfl fun K hK => ?_
  go_simp
  refine hK _ _ ?_
  clear hK K
  refine wpList_nil ?_
  go_wp2
  exact Hd.bodyPost_bx2 rfl (w.heap.size + 1) [.int .i64 s0, .int .i64 s1, .int .i64 s2] _ rfl rfl HR1.out.r Tryz.underlying39 rfl rfl (⟨rfl, HR1.out.b⟩)
theorem usedo_any (b : Bk) (vn vt vb : Value) (v : ByteArray) (w : World) (hB : Books w w.heap.size vn vt vb b) : Calls Tryz.prog 43 #[.agg #[vn, vt, vb, .int .u64 (b.fe : Nat)], .string v] w fun e w' => e = .returned (.tuple #[.agg #[.int .i64 (usV b v (us0 b v)), .int .i64 (usV b v (us1 b v)), .int .i64 (usV b v (us2 b v))], .int .i64 (usF b v : Nat)]) ∧ Below w.heap.size w w' := by
  unfold usV usF
  cases hc : chkB b
  · exact usedo_no b vn vt vb v w hB hc
  · cases hh : hsN b.ns v
    · exact usedo_none b vn vt vb v w hB hc hh
    · exact usedo_ok b vn vt vb v w hB hc hh
end Bo
end Go.Proofs.YthbmnkeigmbbdaaGreat
