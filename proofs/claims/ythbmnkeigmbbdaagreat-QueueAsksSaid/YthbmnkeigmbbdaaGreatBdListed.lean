/-
  WHETHER A BOOK'S LISTS ARE RIGHT, by the document: gafferref08.listed.
-/
import Derived.Test.YthbmnkeigmbbdaaGreatBqV
import Derived.Test.YthbmnkeigmbbdaaGreatBgU
import Derived.Test.YthbmnkeigmbbdaaGreatRigCheckR
import Derived.Deep.RegionHeld3
import Derived.Deep.LoopGhost
namespace Go.Proofs.YthbmnkeigmbbdaaGreat
open Go.RowKit Go.Lib
namespace Bo
open Rw
set_option linter.unusedVariables false
/-- The test at each place of a book's lists. -/
def gN (b : Bk) (k : Nat) : Bool := match b.ns[k]? with | none => true | some x => okN x && adjB (b.ns.map (·.n)) k
def gT (b : Bk) (k : Nat) : Bool := match b.ts[k]? with | none => true | some x => okT x && adjB (b.ts.map (·.n)) k
def gB (b : Bk) (k : Nat) : Bool := match b.bs[k]? with | none => true | some o => (hasK (b.ts.map (·.n)) o.k && hasK (b.ns.map (·.n)) o.v) && adjB (b.bs.map (·.k)) k
theorem gN_at {b : Bk} {k : Nat} (h : k < b.ns.length) : gN b k = (okN b.ns[k] && adjB (b.ns.map (·.n)) k) := by unfold gN; rw [List.getElem?_eq_getElem h]
theorem gT_at {b : Bk} {k : Nat} (h : k < b.ts.length) : gT b k = (okT b.ts[k] && adjB (b.ts.map (·.n)) k) := by unfold gT; rw [List.getElem?_eq_getElem h]
theorem gB_at {b : Bk} {k : Nat} (h : k < b.bs.length) : gB b k = ((hasK (b.ts.map (·.n)) b.bs[k].k && hasK (b.ns.map (·.n)) b.bs[k].v) && adjB (b.bs.map (·.k)) k) := by unfold gB; rw [List.getElem?_eq_getElem h]
/-- Whether a book's lists are right, but for what is on nodes. -/
def lsB (b : Bk) : Bool := decide (b.ns.length ≤ 16) && (decide (b.ts.length ≤ 32) && ((List.range b.ns.length).all (gN b) && ((List.range b.ts.length).all (gT b) && (List.range b.bs.length).all (gB b))))
theorem lsB_iff (b : Bk) : lsB b = true ↔ b.ns.length ≤ 16 ∧ b.ts.length ≤ 32 ∧ (∀ k, k < b.ns.length → gN b k = true) ∧ (∀ k, k < b.ts.length → gT b k = true) ∧ (∀ k, k < b.bs.length → gB b k = true) := by
  unfold lsB
  simp only [Bool.and_eq_true, decide_eq_true_eq, List.all_eq_true, List.mem_range]
theorem lsB_no {b : Bk} (h : ¬ (b.ns.length ≤ 16 ∧ b.ts.length ≤ 32 ∧ (∀ k, k < b.ns.length → gN b k = true) ∧ (∀ k, k < b.ts.length → gT b k = true) ∧ (∀ k, k < b.bs.length → gB b k = true))) : lsB b = false := by
  rw [← Bool.not_eq_true, lsB_iff]
  exact h
theorem adj_0 (ks : List ByteArray) : adjB ks 0 = true := by
  unfold adjB
  rw [dif_neg (by omega)]
theorem adj_s (ks : List ByteArray) (j : Nat) (h : j + 1 < ks.length) : adjB ks (j + 1) = lsS ks[j] ks[j + 1] := by
  unfold adjB
  rw [dif_pos ⟨h, by omega⟩]
  rfl
theorem chr_n (x : NdM) (w : World) (h : DeepN w w.heap.size x) (hf : FitN x.nd) :
    Calls Tryz.prog 150 #[.agg #[.string x.nd.n, .int .i64 x.nd.z0, .int .i64 x.nd.z1, .int .i64 x.nd.z2, .slice x.a2 x.nd.ls.length x.c2, .slice x.a3 x.nd.ts.length x.c3]] w fun e w' => e = .returned (.int .i64 (erN x.nd : Nat)) ∧ Below w.heap.size w w' :=
  Rg.node_ref _ _ _ _ _ _ _ _ _ _ _ _ w hf.1 (h.pr hf).1 (h.pr hf).2
theorem chr_t (x : TdM) (w : World) (h : DeepT w w.heap.size x) (hf : FitT x.td) :
    Calls Tryz.prog 151 #[.agg #[.string x.td.n, .int .i64 x.td.z0, .int .i64 x.td.z1, .int .i64 x.td.z2, .slice x.a4 x.td.ws.length x.c4, .slice x.a5 x.td.bs.length x.c5, .string x.td.g, .string x.td.a, .int .i64 x.td.r]] w fun e w' => e = .returned (.int .i64 (erT x.td : Nat)) ∧ Below w.heap.size w w' :=
  Rg.task_ref _ _ _ _ _ _ _ _ _ _ _ _ _ _ _ w hf.1 (h.pr hf).1 (h.pr hf).2
set_option maxRecDepth 100000 in
set_option maxHeartbeats 4000000 in
theorem listed_ref (b : Bk) (vn vt vb : Value) (w : World) (hB : Books w w.heap.size vn vt vb b) :
    Calls Tryz.prog 82 #[.agg #[vn, vt, vb, .int .u64 (b.fe : Nat)]] w fun e w' => e = .returned (.bool (lsB b)) ∧ Below w.heap.size w w' := by
  have hln : b.ns.length ≤ 4398046511104 := by obtain ⟨m, hm, -, -, hl⟩ := hB.hn; omega
  have hlt : b.ts.length ≤ 4398046511104 := by obtain ⟨m, hm, -, -, hl⟩ := hB.ht; omega
  have hlb : b.bs.length ≤ 4398046511104 := by have hl := hB.hb.2.2; omega
  have HTK : Hid (∀ k z, Below w.heap.size w z → Calls Tryz.prog 48 #[.agg #[vn, vt, vb, .int .u64 (b.fe : Nat)], .string k] z fun e w' => e = .returned (.int .i64 (ixK (b.ts.map (·.n)) k)) ∧ Below z.heap.size z w') := fun k z hz => Task_ix b vn vt vb k z (hB.on hz)
  have HNK : Hid (∀ k z, Below w.heap.size w z → Calls Tryz.prog 84 #[.agg #[vn, vt, vb, .int .u64 (b.fe : Nat)], .string k] z fun e w' => e = .returned (.int .i64 (ixK (b.ns.map (·.n)) k)) ∧ Below z.heap.size z w') := fun k z hz => Node_ix b vn vt vb k z (hB.on hz)
  obtain ⟨an, cn, rfl, hN⟩ := hB.hn.row
  obtain ⟨at', ct, rfl, hT⟩ := hB.ht.row
  obtain ⟨ab, cb, rfl, hBd⟩ := hB.hb.row
  obtain ⟨W0, hW0⟩ : ∃ W0, W0 = w.alloc (.cells #[.slice an b.ns.length cn, .slice at' b.ts.length ct, .slice ab b.bs.length cb, .int .u64 (b.fe : Nat)] 27) := ⟨_, rfl⟩
  have HB0 : Hid (Below w.heap.size w W0) := by rw [hW0]; exact al w _
  have HX0 : Hid (Hd.Bxn W0 w.heap.size [.slice an b.ns.length cn, .slice at' b.ts.length ct, .slice ab b.bs.length cb, .int .u64 (b.fe : Nat)]) := by rw [hW0]; exact Hd.Bxn.made w _ _
  have HW := Lib.hid hW0
  have HRWN := Lib.hid hN
  have HRWT := Lib.hid hT
  have HRWB := Lib.hid hBd
  obtain ⟨r, hr⟩ : ∃ r, r = lsB b := ⟨_, rfl⟩
  rw [← hr]
  have HR : Hid (r = lsB b) := hr
  clear hW0 hB hN hT hBd hr
  go_enter Tryz.func82, Tryz.ntmps82
  go_upto_region 1 with fail
  rw [← HW.out]
  clear HW
  have b0 : W0.cell? ⟨w.heap.size, 0, none⟩ = some (.slice an b.ns.length cn) := HX0.out.cell 0
  have b1 : W0.cell? ⟨w.heap.size, 1, none⟩ = some (.slice at' b.ts.length ct) := HX0.out.cell 1
  by_cases h16 : 16 < b.ns.length
  · have HE : Hid (r = false) := by
      show r = false
      rw [HR.out]
      exact lsB_no fun h => by have := h.1; omega
    have d0 : decide (16 < b.ns.length) = true := decide_eq_true h16
    go_wp2
    go_ret
    exact ⟨by rw [HE.out]; rfl, HB0.out⟩
  have H16 : Hid (b.ns.length ≤ 16) := by show _ ≤ _; omega
  have d0 : decide (16 < b.ns.length) = false := decide_eq_false h16
  by_cases h32 : 32 < b.ts.length
  · have HE : Hid (r = false) := by
      show r = false
      rw [HR.out]
      exact lsB_no fun h => by have := h.2.1; omega
    have d1 : decide (32 < b.ts.length) = true := decide_eq_true h32
    go_wp2
    go_ret
    exact ⟨by rw [HE.out]; rfl, HB0.out⟩
  have H32 : Hid (b.ts.length ≤ 32) := by show _ ≤ _; omega
  have d1 : decide (32 < b.ts.length) = false := decide_eq_false h32
  go_wp2
  clear b0 b1 d0 d1 h16 h32
  go_loopg [22] b.ns.length (fun gg i wx => ∃ k : Nat, k + gg = b.ns.length ∧ i = .int .i64 k ∧ Aside (∀ i, i < k → gN b i = true) ∧ Aside (Below w.heap.size w wx ∧ Hd.Bxn wx w.heap.size [.slice an b.ns.length cn, .slice at' b.ts.length ct, .slice ab b.bs.length cb, .int .u64 (b.fe : Nat)]))
  case atStart => exact ⟨0, by omega, rfl, fun i hi => absurd hi (by omega), ⟨HB0.out, HX0.out⟩⟩
  case round =>
    obtain ⟨k, hkg, rfl, HA, HK⟩ := hrel
    have HGr : Hid (∀ i, i < k → gN b i = true) := HA.out
    have HBr : Hid (Below w.heap.size w wr) := HK.out.1
    have HXr : Hid (Hd.Bxn wr w.heap.size [.slice an b.ns.length cn, .slice at' b.ts.length ct, .slice ab b.bs.length cb, .int .u64 (b.fe : Nat)]) := HK.out.2
    clear HA HK HB0 HX0
    cases gk with
    | zero =>
      obtain rfl : k = b.ns.length := by omega
      have HDONEN := HGr
      have HB0 := HBr
      have HX0 := HXr
      clear hkg HGr HBr HXr
      have b1 : wr.cell? ⟨w.heap.size, 1, none⟩ = some (.slice at' b.ts.length ct) := HX0.out.cell 1
      obtain ⟨zN, rfl⟩ : ∃ q, q = wr := ⟨wr, rfl⟩
      go_wp2
      clear b1
      go_loopg [50] b.ts.length (fun gg i wx => ∃ k : Nat, k + gg = b.ts.length ∧ i = .int .i64 k ∧ Aside (∀ i, i < k → gT b i = true) ∧ Aside (Below w.heap.size w wx ∧ Hd.Bxn wx w.heap.size [.slice an b.ns.length cn, .slice at' b.ts.length ct, .slice ab b.bs.length cb, .int .u64 (b.fe : Nat)]))
      case atStart => exact ⟨0, by omega, rfl, fun i hi => absurd hi (by omega), ⟨HB0.out, HX0.out⟩⟩
      case round =>
        obtain ⟨k, hkg, rfl, HA, HK⟩ := hrel
        have HGr : Hid (∀ i, i < k → gT b i = true) := HA.out
        have HBr : Hid (Below w.heap.size w wr) := HK.out.1
        have HXr : Hid (Hd.Bxn wr w.heap.size [.slice an b.ns.length cn, .slice at' b.ts.length ct, .slice ab b.bs.length cb, .int .u64 (b.fe : Nat)]) := HK.out.2
        clear HA HK HB0 HX0
        cases gk with
        | zero =>
          obtain rfl : k = b.ts.length := by omega
          have HDONET := HGr
          have HB0 := HBr
          have HX0 := HXr
          clear hkg HGr HBr HXr
          have b2 : wr.cell? ⟨w.heap.size, 2, none⟩ = some (.slice ab b.bs.length cb) := HX0.out.cell 2
          obtain ⟨zT, rfl⟩ : ∃ q, q = wr := ⟨wr, rfl⟩
          go_wp2
          clear b2
          go_loopg [78] b.bs.length (fun gg i wx => ∃ k : Nat, k + gg = b.bs.length ∧ i = .int .i64 k ∧ Aside (∀ i, i < k → gB b i = true) ∧ Aside (Below w.heap.size w wx ∧ Hd.Bxn wx w.heap.size [.slice an b.ns.length cn, .slice at' b.ts.length ct, .slice ab b.bs.length cb, .int .u64 (b.fe : Nat)]))
          case atStart => exact ⟨0, by omega, rfl, fun i hi => absurd hi (by omega), ⟨HB0.out, HX0.out⟩⟩
          case round =>
            obtain ⟨k, hkg, rfl, HA, HK⟩ := hrel
            have HGr : Hid (∀ i, i < k → gB b i = true) := HA.out
            have HBr : Hid (Below w.heap.size w wr) := HK.out.1
            have HXr : Hid (Hd.Bxn wr w.heap.size [.slice an b.ns.length cn, .slice at' b.ts.length ct, .slice ab b.bs.length cb, .int .u64 (b.fe : Nat)]) := HK.out.2
            clear HA HK HB0 HX0
            cases gk with
            | zero =>
              obtain rfl : k = b.bs.length := by omega
              have HDONEB := HGr
              have HB0 := HBr
              have HX0 := HXr
              clear hkg HGr HBr HXr
              have HE : Hid (r = true) := by
                show r = true
                rw [HR.out, lsB_iff]
                exact ⟨H16.out, H32.out, HDONEN.out, HDONET.out, HDONEB.out⟩
              go_wp2
              go_ret
              exact ⟨by rw [HE.out]; rfl, HB0.out⟩
            | succ gg =>
              have hlk : k < b.bs.length := by omega
              have t2 : (k : Int) < (b.bs.length : Int) := by omega
              have t3 : IntKind.i64.wrap ((k : Int) + 1) = (k : Int) + 1 := by rw [IntKind.wrap_i64]; omega
              have t4 : (0 : Int) ≤ (k : Int) := by omega
              obtain ⟨g, o, rfl, hgl, hrr⟩ := HRWB.out (by omega)
              have hax := hrr k hlk
              have HGA := Lib.hid (gB_at hlk)
              obtain ⟨x, hx⟩ : ∃ x, x = b.bs[k] := ⟨_, rfl⟩
              rw [← hx] at hax HGA
              have HKX : Hid (x.k = b.bs[k].k) := by show _ = _; rw [hx]
              clear hx
              have hrow : wr.rangeAt g (o + k * 2) [.string x.k, .string x.v] := fun j u hj => (hax.keep HBr.out hgl) j u hj
              clear hax
              go_upto_region 17 with fail
              refine wp_region_list ?_
              refine wpList_plain rfl fun K hK => ?_
              go_simp
              refine hK _ _ ?_
              clear hK K
              refine wpList_plain rfl fun K hK => ?_
              go_simp
              refine hK _ _ ?_
              clear hK K
              refine wpList_load_mid rfl 106 (.tmp 81) rfl (g) (o + k * 2) rfl [.string x.k, .string x.v] _ (hrow) Tryz.underlying106 rfl rfl ?_
              refine wpList_plain rfl fun K hK => ?_
              go_simp
              refine hK _ _ ?_
              clear hK K
              refine wpList_plain rfl fun K hK => ?_
              go_simp
              refine hK _ _ ?_
              clear hK K
              obtain ⟨th1, hbz, hx1⟩ := one_made wr [.string ⟨#[]⟩, .string ⟨#[]⟩] [.string x.k, .string x.v] 106 rfl
              refine wpList_store_mid rfl 106 (.tmp 8) (.tmp 82) rfl (wr.heap.size) 0 #[.string x.k, .string x.v] rfl rfl th1 rfl (all_oneCell_toArray (List.all_eq_true.1 (show List.all ([.string x.k, .string x.v] : List Value) (fun v => v.oneCell') = true from rfl))) ?_
              rw [show (#[.string x.k, .string x.v] : Array Value).toList = [.string x.k, .string x.v] from rfl]
              clear th1 hrow
              obtain ⟨zB, hzB⟩ : ∃ q : Nat, q = wr.heap.size := ⟨_, rfl⟩
              rw [← hzB] at hbz hx1 ⊢
              generalize (wr.alloc (.cells #[.string ⟨#[]⟩, .string ⟨#[]⟩] 106)).setCells zB 0 [.string x.k, .string x.v] = y0 at *
              rw [hzB] at hbz
              clear hzB
              have HBy : Hid (Below w.heap.size w y0) := HBr.out.trans (hbz.mono HBr.out.size)
              have HXy := Lib.hid (HXr.out.below hbz)
              have HEy := Lib.hid hx1
              clear hbz hx1 HBr HXr
              refine wpList_nil ?_
              go_upto_region 18 with fail
              cases hht : hasK (b.ts.map (·.n)) x.k
              case' false =>
                have HCT : Hid (∀ z, Below w.heap.size w z → Calls Tryz.prog 48 #[.agg #[.slice an b.ns.length cn, .slice at' b.ts.length ct, .slice (some ⟨g, o, none⟩) b.bs.length cb, .int .u64 (b.fe : Nat)], .string x.k] z fun e w' => e = .returned (.int .i64 (-1)) ∧ Below z.heap.size z w') := fun z hz => (HTK.out x.k z hz).mono fun e w' ⟨he, hb⟩ => ⟨by rw [he]; unfold ixK; rw [if_neg (by rw [hht]; simp)], hb⟩
                have HE : Hid (r = false) := by
                  show r = false
                  rw [HR.out]
                  refine lsB_no fun h => ?_
                  have h2 := h.2.2.2.2 k hlk
                  rw [HGA.out, hht] at h2
                  simp at h2
                clear HR HGr HGA
                clear hht HTK HNK
                obtain ⟨RC, hRC⟩ : ∃ RC : World → Prop, RC = fun _ => True := ⟨_, rfl⟩
                have HRC : Hid (∀ z, Below w.heap.size w z → RC z) := fun z _ => by rw [hRC]; trivial
              case' true =>
                obtain ⟨i, hi⟩ : ∃ i : Nat, ixK (b.ts.map (·.n)) x.k = (i : Int) := ⟨fiK (b.ts.map (·.n)) x.k, by unfold ixK; rw [if_pos hht]⟩
                have HCT : Hid (∀ z, Below w.heap.size w z → Calls Tryz.prog 48 #[.agg #[.slice an b.ns.length cn, .slice at' b.ts.length ct, .slice (some ⟨g, o, none⟩) b.bs.length cb, .int .u64 (b.fe : Nat)], .string x.k] z fun e w' => e = .returned (.int .i64 (i : Nat)) ∧ Below z.heap.size z w') := fun z hz => (HTK.out x.k z hz).mono fun e w' ⟨he, hb⟩ => ⟨by rw [he, hi], hb⟩
                have i0 : ¬ (i : Int) < 0 := by omega
                have i1 : decide ((i : Int) < 0) = false := decide_eq_false i0
                clear hi
                cases hhn : hasK (b.ns.map (·.n)) x.v
                case' false =>
                  have HCN : Hid (∀ z, Below w.heap.size w z → Calls Tryz.prog 84 #[.agg #[.slice an b.ns.length cn, .slice at' b.ts.length ct, .slice (some ⟨g, o, none⟩) b.bs.length cb, .int .u64 (b.fe : Nat)], .string x.v] z fun e w' => e = .returned (.int .i64 (-1)) ∧ Below z.heap.size z w') := fun z hz => (HNK.out x.v z hz).mono fun e w' ⟨he, hb⟩ => ⟨by rw [he]; unfold ixK; rw [if_neg (by rw [hhn]; simp)], hb⟩
                  have HE : Hid (r = false) := by
                    show r = false
                    rw [HR.out]
                    refine lsB_no fun h => ?_
                    have h2 := h.2.2.2.2 k hlk
                    rw [HGA.out, hht, hhn] at h2
                    simp at h2
                  clear HR HGr HGA
                  clear hht hhn HTK HNK
                  obtain ⟨RC, hRC⟩ : ∃ RC : World → Prop, RC = fun _ => True := ⟨_, rfl⟩
                  have HRC : Hid (∀ z, Below w.heap.size w z → RC z) := fun z _ => by rw [hRC]; trivial
                case' true =>
                  obtain ⟨i', hi⟩ : ∃ i : Nat, ixK (b.ns.map (·.n)) x.v = (i : Int) := ⟨fiK (b.ns.map (·.n)) x.v, by unfold ixK; rw [if_pos hhn]⟩
                  have HCN : Hid (∀ z, Below w.heap.size w z → Calls Tryz.prog 84 #[.agg #[.slice an b.ns.length cn, .slice at' b.ts.length ct, .slice (some ⟨g, o, none⟩) b.bs.length cb, .int .u64 (b.fe : Nat)], .string x.v] z fun e w' => e = .returned (.int .i64 (i' : Nat)) ∧ Below z.heap.size z w') := fun z hz => (HNK.out x.v z hz).mono fun e w' ⟨he, hb⟩ => ⟨by rw [he, hi], hb⟩
                  have i2 : ¬ (i' : Int) < 0 := by omega
                  have i3 : decide ((i' : Int) < 0) = false := decide_eq_false i2
                  clear hi
                  have HHT := Lib.hid hht
                  have HHN := Lib.hid hhn
                  clear hht hhn HTK HNK
                  by_cases hk0 : k = 0
                  case' pos =>
                    have HAJ : Hid (adjB (b.bs.map (·.k)) k = true) := by rw [hk0]; exact adj_0 _
                    have HG : Hid (gB b k = true) := by
                      show _ = _
                      rw [HGA.out, HHT.out, HHN.out, HAJ.out]
                      rfl
                    clear HGA
                    have t0 : decide (0 < k) = false := by simp; omega
                    have t0b : ¬ 0 < k := by omega
                    clear hk0
                    obtain ⟨RC, hRC⟩ : ∃ RC : World → Prop, RC = fun _ => True := ⟨_, rfl⟩
                    have HRC : Hid (∀ z, Below w.heap.size w z → RC z) := fun z _ => by rw [hRC]; trivial
                  case' neg =>
                    obtain ⟨j, hj⟩ : ∃ j, k = j + 1 := ⟨k - 1, by omega⟩
                    obtain ⟨xp, hxp⟩ : ∃ xp, xp = b.bs[j]'(by omega) := ⟨_, rfl⟩
                    have hap := hrr j (by omega)
                    rw [← hxp] at hap
                    have HPE : Hid (xp = b.bs[j]'(by omega)) := hxp
                    have HKP : Hid (xp.k = (b.bs[j]'(by omega)).k) := by show _ = _; rw [HPE.out]
                    clear hxp HPE
                    obtain ⟨RC, hRC⟩ : ∃ RC : World → Prop, RC = fun z => z.cell? ⟨g, o + j * 2, none⟩ = some (.string xp.k) := ⟨_, rfl⟩
                    have HRC : Hid (∀ z, Below w.heap.size w z → RC z) := fun z hz => by rw [hRC]; exact (hap.keep hz hgl) 0 _ rfl
                    have HAJ : Hid (adjB (b.bs.map (·.k)) k = lsS xp.k x.k) := by
                      show _ = _
                      have h1 : j + 1 < (b.bs.map (·.k)).length := by rw [List.length_map]; omega
                      have h2 := adj_s (b.bs.map (·.k)) j h1
                      rw [HKP.out, HKX.out]
                      simp only [hj]
                      rw [h2]
                      simp
                    have HJ : Hid (k = j + 1) := hj
                    have tj : IntKind.i64.wrap ((k : Int) - 1) = (j : Int) := by rw [IntKind.wrap_i64]; omega
                    have t0 : 0 < k := by omega
                    have t0c : (0 : Int) < (k : Int) := by omega
                    have t5 : (j : Int) < (b.bs.length : Int) := by omega
                    have t6 : (0 : Int) ≤ (j : Int) := by omega
                    have t7 : j < b.bs.length := by omega
                    clear HKP hap hj hk0
                    cases hls : lsS xp.k x.k
                    case' false =>
                      have g1 : Op.bytesLess xp.k.toList x.k.toList = false := hls
                      have HA2 : Hid (adjB (b.bs.map (·.k)) k = false) := HAJ.out.trans hls
                      have HE : Hid (r = false) := by
                        show r = false
                        rw [HR.out]
                        refine lsB_no fun h => ?_
                        have h2 := h.2.2.2.2 k hlk
                        rw [HGA.out, HHT.out, HHN.out, HA2.out] at h2
                        simp at h2
                      clear HR HGr HGA
                      clear hls HAJ
                    case' true =>
                      have g1 : Op.bytesLess xp.k.toList x.k.toList = true := hls
                      have HA2 : Hid (adjB (b.bs.map (·.k)) k = true) := HAJ.out.trans hls
                      have HG : Hid (gB b k = true) := by
                        show _ = _
                        rw [HGA.out, HHT.out, HHN.out, HA2.out]
                        rfl
                      clear HGA
                      clear hls HAJ
              all_goals
                have HP : Hid (∀ z, Below y0.heap.size y0 z → (z.cell? ⟨w.heap.size, 0, none⟩ = some (.slice an b.ns.length cn) ∧ z.cell? ⟨w.heap.size, 1, none⟩ = some (.slice at' b.ts.length ct) ∧ z.cell? ⟨w.heap.size, 2, none⟩ = some (.slice (some ⟨g, o, none⟩) b.bs.length cb) ∧ z.cell? ⟨w.heap.size, 3, none⟩ = some (.int .u64 (b.fe : Nat)) ∧ z.cell? ⟨zB, 0, none⟩ = some (.string x.k) ∧ z.cell? ⟨zB, 1, none⟩ = some (.string x.v) ∧ RC z)) := fun z hz => ⟨(HXy.out.below hz).cell 0, (HXy.out.below hz).cell 1, (HXy.out.below hz).cell 2, (HXy.out.below hz).cell 3, (HEy.out.below hz).cell 0, (HEy.out.below hz).cell 1, HRC.out z (HBy.out.trans (hz.mono HBy.out.size))⟩
                have HYd : Hid (Below y0.heap.size y0 y0.drew) := ⟨rfl, rfl, rfl, Nat.le_refl _, fun _ _ => rfl⟩
                refine wp_region_held_drew (S := fun z => z.cell? ⟨w.heap.size, 0, none⟩ = some (.slice an b.ns.length cn) ∧ z.cell? ⟨w.heap.size, 1, none⟩ = some (.slice at' b.ts.length ct) ∧ z.cell? ⟨w.heap.size, 2, none⟩ = some (.slice (some ⟨g, o, none⟩) b.bs.length cb) ∧ z.cell? ⟨w.heap.size, 3, none⟩ = some (.int .u64 (b.fe : Nat)) ∧ z.cell? ⟨zB, 0, none⟩ = some (.string x.k) ∧ z.cell? ⟨zB, 1, none⟩ = some (.string x.v) ∧ RC z) (by kernel_rfl) (HP.out _ HYd.out) (fun hHeld => ?_)
                generalize y0.drew = yd at *
                refine wpAnyH_take (i := 0) (v := ?_) rfl (by kernel_rfl) (by kernel_rfl) (by kernel_rfl) (fun _ _ _ h => h) (Or.inl ⟨by rfl, ?_⟩) (by assumption) ?_
                rotate_left
                · intro z hSz
                  obtain ⟨c0, c1, c2, c3, c4, c5, c6⟩ := hSz
                  try simp only [hRC] at c6
                  go_simp
                  try with_reducible rfl
                try simp only [Act.put, List.setIfInBounds_toArray, List.set_cons_zero, List.set_cons_succ, List.getElem_toArray, List.getElem_cons_zero]
                refine wpAnyH_take (i := 1) (v := ?_) rfl (by kernel_rfl) (by kernel_rfl) (by kernel_rfl) (fun _ _ _ h => h) (Or.inl ⟨by rfl, ?_⟩) (by assumption) ?_
                rotate_left
                · intro z hSz
                  obtain ⟨c0, c1, c2, c3, c4, c5, c6⟩ := hSz
                  try simp only [hRC] at c6
                  go_simp
                  try with_reducible rfl
                try simp only [Act.put, List.setIfInBounds_toArray, List.set_cons_zero, List.set_cons_succ, List.getElem_toArray, List.getElem_cons_succ, List.getElem_cons_zero]
                refine wpAnyH_take (i := 2) (v := ?_) rfl (by kernel_rfl) (by kernel_rfl) (by kernel_rfl) (fun _ _ _ h => h) (Or.inl ⟨by rfl, ?_⟩) (by assumption) ?_
                rotate_left
                · intro z hSz
                  obtain ⟨c0, c1, c2, c3, c4, c5, c6⟩ := hSz
                  try simp only [hRC] at c6
                  go_simp
                  try with_reducible rfl
                try simp only [Act.put, List.setIfInBounds_toArray, List.set_cons_zero, List.set_cons_succ, List.getElem_toArray, List.getElem_cons_succ, List.getElem_cons_zero]
                refine wpAnyH_ready (rs := [3]) (by kernel_rfl) (by simp) ?_
                refine AllReadyH.cons rfl (fun K hK => ?_) AllReadyH.nil
                go_simp
                refine (HCT.out _ (HBy.out.trans (HYd.out.mono HBy.out.size))).mono ?_
                rintro e w5 ⟨rfl, hb⟩
                have HYw5 : Hid (Below y0.heap.size y0 w5) := HYd.out.trans (hb.mono HYd.out.size)
                clear hb
                refine hK.out _ _ (HP.out _ HYw5.out) (fun hHeld2 => ?_)
                clear hK K hHeld
                have hHeld := hHeld2
                clear hHeld2
                try simp only [Act.put, List.setIfInBounds_toArray, List.set_cons_zero, List.set_cons_succ, List.getElem_toArray, List.getElem_cons_succ, List.getElem_cons_zero]
                refine wpAnyH_take (i := 4) (v := ?_) rfl (by kernel_rfl) (by kernel_rfl) (by kernel_rfl) (fun _ _ _ h => h) (Or.inl ⟨by rfl, ?_⟩) (by assumption) ?_
                rotate_left
                · intro z hSz
                  obtain ⟨c0, c1, c2, c3, c4, c5, c6⟩ := hSz
                  try simp only [hRC] at c6
                  go_simp
                  try with_reducible rfl
                try simp only [Act.put, List.setIfInBounds_toArray, List.set_cons_zero, List.set_cons_succ, List.getElem_toArray, List.getElem_cons_succ, List.getElem_cons_zero]
                refine wpAnyH_take (i := 5) (v := ?_) rfl (by kernel_rfl) (by kernel_rfl) (by kernel_rfl) (fun _ _ _ h => h) (Or.inl ⟨by rfl, ?_⟩) (by assumption) ?_
                rotate_left
                · intro z hSz
                  obtain ⟨c0, c1, c2, c3, c4, c5, c6⟩ := hSz
                  try simp only [hRC] at c6
                  go_simp
                  try with_reducible rfl
                try simp only [Act.put, List.setIfInBounds_toArray, List.set_cons_zero, List.set_cons_succ, List.getElem_toArray, List.getElem_cons_succ, List.getElem_cons_zero]
                first
                  | refine wpAnyH_take (i := 6) (v := undef) rfl (by kernel_rfl) (by kernel_rfl) (by kernel_rfl) (fun _ _ _ h => h) (Or.inr ⟨by rfl, rfl⟩) (by assumption) ?_
                  | refine wpAnyH_take (i := 6) (v := ?_) rfl (by kernel_rfl) (by kernel_rfl) (by kernel_rfl) (fun _ _ _ h => h) (Or.inl ⟨by rfl, ?_⟩) (by assumption) ?_
                    rotate_left
                    · intro z hSz
                      obtain ⟨c0, c1, c2, c3, c4, c5, c6⟩ := hSz
                      try simp only [hRC] at c6
                      go_simp
                      try with_reducible rfl
                try simp only [Act.put, List.setIfInBounds_toArray, List.set_cons_zero, List.set_cons_succ, List.getElem_toArray, List.getElem_cons_succ, List.getElem_cons_zero]
                first
                  | refine wpAnyH_take (i := 7) (v := undef) rfl (by kernel_rfl) (by kernel_rfl) (by kernel_rfl) (fun _ _ _ h => h) (Or.inr ⟨by rfl, rfl⟩) (by assumption) ?_
                  | refine wpAnyH_take (i := 7) (v := ?_) rfl (by kernel_rfl) (by kernel_rfl) (by kernel_rfl) (fun _ _ _ h => h) (Or.inl ⟨by rfl, ?_⟩) (by assumption) ?_
                    rotate_left
                    · intro z hSz
                      obtain ⟨c0, c1, c2, c3, c4, c5, c6⟩ := hSz
                      try simp only [hRC] at c6
                      go_simp
                      try with_reducible rfl
                try simp only [Act.put, List.setIfInBounds_toArray, List.set_cons_zero, List.set_cons_succ, List.getElem_toArray, List.getElem_cons_succ, List.getElem_cons_zero]
                first
                  | refine wpAnyH_take (i := 8) (v := undef) rfl (by kernel_rfl) (by kernel_rfl) (by kernel_rfl) (fun _ _ _ h => h) (Or.inr ⟨by rfl, rfl⟩) (by assumption) ?_
                  | refine wpAnyH_take (i := 8) (v := ?_) rfl (by kernel_rfl) (by kernel_rfl) (by kernel_rfl) (fun _ _ _ h => h) (Or.inl ⟨by rfl, ?_⟩) (by assumption) ?_
                    rotate_left
                    · intro z hSz
                      obtain ⟨c0, c1, c2, c3, c4, c5, c6⟩ := hSz
                      try simp only [hRC] at c6
                      go_simp
                      try with_reducible rfl
                try simp only [Act.put, List.setIfInBounds_toArray, List.set_cons_zero, List.set_cons_succ, List.getElem_toArray, List.getElem_cons_succ, List.getElem_cons_zero]
                first
                  | refine wpAnyH_take (i := 9) (v := undef) rfl (by kernel_rfl) (by kernel_rfl) (by kernel_rfl) (fun _ _ _ h => h) (Or.inr ⟨by rfl, rfl⟩) (by assumption) ?_
                    try simp only [Act.put, List.setIfInBounds_toArray, List.set_cons_zero, List.set_cons_succ, List.getElem_toArray, List.getElem_cons_succ, List.getElem_cons_zero]
                    have HYz := HYw5
                  | refine wpAnyH_ready (rs := [9]) (by kernel_rfl) (by simp) ?_
                    refine AllReadyH.cons rfl (fun K hK => ?_) AllReadyH.nil
                    go_simp
                    refine (HCN.out _ (HBy.out.trans (HYw5.out.mono HBy.out.size))).mono ?_
                    rintro e w6 ⟨rfl, hb⟩
                    have HYw6 : Hid (Below y0.heap.size y0 w6) := HYw5.out.trans (hb.mono HYw5.out.size)
                    clear hb
                    refine hK.out _ _ (HP.out _ HYw6.out) (fun hHeld2 => ?_)
                    clear hK K hHeld
                    have hHeld := hHeld2
                    clear hHeld2
                    try simp only [Act.put, List.setIfInBounds_toArray, List.set_cons_zero, List.set_cons_succ, List.getElem_toArray, List.getElem_cons_succ, List.getElem_cons_zero]
                    have HYz := HYw6
                first
                  | refine wpAnyH_take (i := 10) (v := undef) rfl (by kernel_rfl) (by kernel_rfl) (by kernel_rfl) (fun _ _ _ h => h) (Or.inr ⟨by rfl, rfl⟩) (by assumption) ?_
                  | refine wpAnyH_take (i := 10) (v := ?_) rfl (by kernel_rfl) (by kernel_rfl) (by kernel_rfl) (fun _ _ _ h => h) (Or.inl ⟨by rfl, ?_⟩) (by assumption) ?_
                    rotate_left
                    · intro z hSz
                      obtain ⟨c0, c1, c2, c3, c4, c5, c6⟩ := hSz
                      try simp only [hRC] at c6
                      go_simp
                      try with_reducible rfl
                try simp only [Act.put, List.setIfInBounds_toArray, List.set_cons_zero, List.set_cons_succ, List.getElem_toArray, List.getElem_cons_succ, List.getElem_cons_zero]
                refine wpAnyH_take (i := 11) (v := ?_) rfl (by kernel_rfl) (by kernel_rfl) (by kernel_rfl) (fun _ _ _ h => h) (Or.inl ⟨by rfl, ?_⟩) (by assumption) ?_
                rotate_left
                · intro z hSz
                  obtain ⟨c0, c1, c2, c3, c4, c5, c6⟩ := hSz
                  try simp only [hRC] at c6
                  go_simp
                  try with_reducible rfl
                try simp only [Act.put, List.setIfInBounds_toArray, List.set_cons_zero, List.set_cons_succ, List.getElem_toArray, List.getElem_cons_succ, List.getElem_cons_zero]
                refine wpAnyH_take (i := 12) (v := ?_) rfl (by kernel_rfl) (by kernel_rfl) (by kernel_rfl) (fun _ _ _ h => h) (Or.inl ⟨by rfl, ?_⟩) (by assumption) ?_
                rotate_left
                · intro z hSz
                  obtain ⟨c0, c1, c2, c3, c4, c5, c6⟩ := hSz
                  try simp only [hRC] at c6
                  go_simp
                  try with_reducible rfl
                try simp only [Act.put, List.setIfInBounds_toArray, List.set_cons_zero, List.set_cons_succ, List.getElem_toArray, List.getElem_cons_succ, List.getElem_cons_zero]
                first
                  | refine wpAnyH_take (i := 13) (v := undef) rfl (by kernel_rfl) (by kernel_rfl) (by kernel_rfl) (fun _ _ _ h => h) (Or.inr ⟨by rfl, rfl⟩) (by assumption) ?_
                  | refine wpAnyH_take (i := 13) (v := ?_) rfl (by kernel_rfl) (by kernel_rfl) (by kernel_rfl) (fun _ _ _ h => h) (Or.inl ⟨by rfl, ?_⟩) (by assumption) ?_
                    rotate_left
                    · intro z hSz
                      obtain ⟨c0, c1, c2, c3, c4, c5, c6⟩ := hSz
                      try simp only [hRC] at c6
                      go_simp
                      try with_reducible rfl
                try simp only [Act.put, List.setIfInBounds_toArray, List.set_cons_zero, List.set_cons_succ, List.getElem_toArray, List.getElem_cons_succ, List.getElem_cons_zero]
                first
                  | refine wpAnyH_take (i := 14) (v := undef) rfl (by kernel_rfl) (by kernel_rfl) (by kernel_rfl) (fun _ _ _ h => h) (Or.inr ⟨by rfl, rfl⟩) (by assumption) ?_
                  | refine wpAnyH_take (i := 14) (v := ?_) rfl (by kernel_rfl) (by kernel_rfl) (by kernel_rfl) (fun _ _ _ h => h) (Or.inl ⟨by rfl, ?_⟩) (by assumption) ?_
                    rotate_left
                    · intro z hSz
                      obtain ⟨c0, c1, c2, c3, c4, c5, c6⟩ := hSz
                      try simp only [hRC] at c6
                      go_simp
                      try with_reducible rfl
                try simp only [Act.put, List.setIfInBounds_toArray, List.set_cons_zero, List.set_cons_succ, List.getElem_toArray, List.getElem_cons_succ, List.getElem_cons_zero]
                first
                  | refine wpAnyH_take (i := 15) (v := undef) rfl (by kernel_rfl) (by kernel_rfl) (by kernel_rfl) (fun _ _ _ h => h) (Or.inr ⟨by rfl, rfl⟩) (by assumption) ?_
                  | refine wpAnyH_take (i := 15) (v := ?_) rfl (by kernel_rfl) (by kernel_rfl) (by kernel_rfl) (fun _ _ _ h => h) (Or.inl ⟨by rfl, ?_⟩) (by assumption) ?_
                    rotate_left
                    · intro z hSz
                      obtain ⟨c0, c1, c2, c3, c4, c5, c6⟩ := hSz
                      try simp only [hRC] at c6
                      go_simp
                      try with_reducible rfl
                try simp only [Act.put, List.setIfInBounds_toArray, List.set_cons_zero, List.set_cons_succ, List.getElem_toArray, List.getElem_cons_succ, List.getElem_cons_zero]
                first
                  | refine wpAnyH_take (i := 16) (v := undef) rfl (by kernel_rfl) (by kernel_rfl) (by kernel_rfl) (fun _ _ _ h => h) (Or.inr ⟨by rfl, rfl⟩) (by assumption) ?_
                  | refine wpAnyH_take (i := 16) (v := ?_) rfl (by kernel_rfl) (by kernel_rfl) (by kernel_rfl) (fun _ _ _ h => h) (Or.inl ⟨by rfl, ?_⟩) (by assumption) ?_
                    rotate_left
                    · intro z hSz
                      obtain ⟨c0, c1, c2, c3, c4, c5, c6⟩ := hSz
                      try simp only [hRC] at c6
                      go_simp
                      try with_reducible rfl
                try simp only [Act.put, List.setIfInBounds_toArray, List.set_cons_zero, List.set_cons_succ, List.getElem_toArray, List.getElem_cons_succ, List.getElem_cons_zero]
                first
                  | refine wpAnyH_take (i := 17) (v := undef) rfl (by kernel_rfl) (by kernel_rfl) (by kernel_rfl) (fun _ _ _ h => h) (Or.inr ⟨by rfl, rfl⟩) (by assumption) ?_
                  | refine wpAnyH_take (i := 17) (v := ?_) rfl (by kernel_rfl) (by kernel_rfl) (by kernel_rfl) (fun _ _ _ h => h) (Or.inl ⟨by rfl, ?_⟩) (by assumption) ?_
                    rotate_left
                    · intro z hSz
                      obtain ⟨c0, c1, c2, c3, c4, c5, c6⟩ := hSz
                      try simp only [hRC] at c6
                      go_simp
                      try with_reducible rfl
                try simp only [Act.put, List.setIfInBounds_toArray, List.set_cons_zero, List.set_cons_succ, List.getElem_toArray, List.getElem_cons_succ, List.getElem_cons_zero]
                first
                  | refine wpAnyH_take (i := 18) (v := undef) rfl (by kernel_rfl) (by kernel_rfl) (by kernel_rfl) (fun _ _ _ h => h) (Or.inr ⟨by rfl, rfl⟩) (by assumption) ?_
                  | refine wpAnyH_take (i := 18) (v := ?_) rfl (by kernel_rfl) (by kernel_rfl) (by kernel_rfl) (fun _ _ _ h => h) (Or.inl ⟨by rfl, ?_⟩) (by assumption) ?_
                    rotate_left
                    · intro z hSz
                      obtain ⟨c0, c1, c2, c3, c4, c5, c6⟩ := hSz
                      try simp only [hRC] at c6
                      go_simp
                      try with_reducible rfl
                try simp only [Act.put, List.setIfInBounds_toArray, List.set_cons_zero, List.set_cons_succ, List.getElem_toArray, List.getElem_cons_succ, List.getElem_cons_zero]
                first
                  | refine wpAnyH_take (i := 19) (v := undef) rfl (by kernel_rfl) (by kernel_rfl) (by kernel_rfl) (fun _ _ _ h => h) (Or.inr ⟨by rfl, rfl⟩) (by assumption) ?_
                  | refine wpAnyH_take (i := 19) (v := ?_) rfl (by kernel_rfl) (by kernel_rfl) (by kernel_rfl) (fun _ _ _ h => h) (Or.inl ⟨by rfl, ?_⟩) (by assumption) ?_
                    rotate_left
                    · intro z hSz
                      obtain ⟨c0, c1, c2, c3, c4, c5, c6⟩ := hSz
                      try simp only [hRC] at c6
                      go_simp
                      try with_reducible rfl
                try simp only [Act.put, List.setIfInBounds_toArray, List.set_cons_zero, List.set_cons_succ, List.getElem_toArray, List.getElem_cons_succ, List.getElem_cons_zero]
                first
                  | refine wpAnyH_take (i := 20) (v := undef) rfl (by kernel_rfl) (by kernel_rfl) (by kernel_rfl) (fun _ _ _ h => h) (Or.inr ⟨by rfl, rfl⟩) (by assumption) ?_
                  | refine wpAnyH_take (i := 20) (v := ?_) rfl (by kernel_rfl) (by kernel_rfl) (by kernel_rfl) (fun _ _ _ h => h) (Or.inl ⟨by rfl, ?_⟩) (by assumption) ?_
                    rotate_left
                    · intro z hSz
                      obtain ⟨c0, c1, c2, c3, c4, c5, c6⟩ := hSz
                      try simp only [hRC] at c6
                      go_simp
                      try with_reducible rfl
                try simp only [Act.put, List.setIfInBounds_toArray, List.set_cons_zero, List.set_cons_succ, List.getElem_toArray, List.getElem_cons_succ, List.getElem_cons_zero]
                first
                  | refine wpAnyH_take (i := 21) (v := undef) rfl (by kernel_rfl) (by kernel_rfl) (by kernel_rfl) (fun _ _ _ h => h) (Or.inr ⟨by rfl, rfl⟩) (by assumption) ?_
                  | refine wpAnyH_take (i := 21) (v := ?_) rfl (by kernel_rfl) (by kernel_rfl) (by kernel_rfl) (fun _ _ _ h => h) (Or.inl ⟨by rfl, ?_⟩) (by assumption) ?_
                    rotate_left
                    · intro z hSz
                      obtain ⟨c0, c1, c2, c3, c4, c5, c6⟩ := hSz
                      try simp only [hRC] at c6
                      go_simp
                      try with_reducible rfl
                try simp only [Act.put, List.setIfInBounds_toArray, List.set_cons_zero, List.set_cons_succ, List.getElem_toArray, List.getElem_cons_succ, List.getElem_cons_zero]
                first
                  | refine wpAnyH_take (i := 22) (v := undef) rfl (by kernel_rfl) (by kernel_rfl) (by kernel_rfl) (fun _ _ _ h => h) (Or.inr ⟨by rfl, rfl⟩) (by assumption) ?_
                  | refine wpAnyH_take (i := 22) (v := ?_) rfl (by kernel_rfl) (by kernel_rfl) (by kernel_rfl) (fun _ _ _ h => h) (Or.inl ⟨by rfl, ?_⟩) (by assumption) ?_
                    rotate_left
                    · intro z hSz
                      obtain ⟨c0, c1, c2, c3, c4, c5, c6⟩ := hSz
                      try simp only [hRC] at c6
                      go_simp
                      try with_reducible rfl
                try simp only [Act.put, List.setIfInBounds_toArray, List.set_cons_zero, List.set_cons_succ, List.getElem_toArray, List.getElem_cons_succ, List.getElem_cons_zero]
                first
                  | refine wpAnyH_take (i := 23) (v := undef) rfl (by kernel_rfl) (by kernel_rfl) (by kernel_rfl) (fun _ _ _ h => h) (Or.inr ⟨by rfl, rfl⟩) (by assumption) ?_
                  | refine wpAnyH_take (i := 23) (v := ?_) rfl (by kernel_rfl) (by kernel_rfl) (by kernel_rfl) (fun _ _ _ h => h) (Or.inl ⟨by rfl, ?_⟩) (by assumption) ?_
                    rotate_left
                    · intro z hSz
                      obtain ⟨c0, c1, c2, c3, c4, c5, c6⟩ := hSz
                      try simp only [hRC] at c6
                      go_simp
                      try with_reducible rfl
                try simp only [Act.put, List.setIfInBounds_toArray, List.set_cons_zero, List.set_cons_succ, List.getElem_toArray, List.getElem_cons_succ, List.getElem_cons_zero]
                first
                  | refine wpAnyH_take (i := 24) (v := undef) rfl (by kernel_rfl) (by kernel_rfl) (by kernel_rfl) (fun _ _ _ h => h) (Or.inr ⟨by rfl, rfl⟩) (by assumption) ?_
                  | refine wpAnyH_take (i := 24) (v := ?_) rfl (by kernel_rfl) (by kernel_rfl) (by kernel_rfl) (fun _ _ _ h => h) (Or.inl ⟨by rfl, ?_⟩) (by assumption) ?_
                    rotate_left
                    · intro z hSz
                      obtain ⟨c0, c1, c2, c3, c4, c5, c6⟩ := hSz
                      try simp only [hRC] at c6
                      go_simp
                      try with_reducible rfl
                try simp only [Act.put, List.setIfInBounds_toArray, List.set_cons_zero, List.set_cons_succ, List.getElem_toArray, List.getElem_cons_succ, List.getElem_cons_zero]
                first
                  | refine wpAnyH_take (i := 25) (v := undef) rfl (by kernel_rfl) (by kernel_rfl) (by kernel_rfl) (fun _ _ _ h => h) (Or.inr ⟨by rfl, rfl⟩) (by assumption) ?_
                  | refine wpAnyH_take (i := 25) (v := ?_) rfl (by kernel_rfl) (by kernel_rfl) (by kernel_rfl) (fun _ _ _ h => h) (Or.inl ⟨by rfl, ?_⟩) (by assumption) ?_
                    rotate_left
                    · intro z hSz
                      obtain ⟨c0, c1, c2, c3, c4, c5, c6⟩ := hSz
                      try simp only [hRC] at c6
                      go_simp
                      try with_reducible rfl
                try simp only [Act.put, List.setIfInBounds_toArray, List.set_cons_zero, List.set_cons_succ, List.getElem_toArray, List.getElem_cons_succ, List.getElem_cons_zero]
                first
                  | refine wpAnyH_take (i := 26) (v := undef) rfl (by kernel_rfl) (by kernel_rfl) (by kernel_rfl) (fun _ _ _ h => h) (Or.inr ⟨by rfl, rfl⟩) (by assumption) ?_
                  | refine wpAnyH_take (i := 26) (v := ?_) rfl (by kernel_rfl) (by kernel_rfl) (by kernel_rfl) (fun _ _ _ h => h) (Or.inl ⟨by rfl, ?_⟩) (by assumption) ?_
                    rotate_left
                    · intro z hSz
                      obtain ⟨c0, c1, c2, c3, c4, c5, c6⟩ := hSz
                      try simp only [hRC] at c6
                      go_simp
                      try with_reducible rfl
                try simp only [Act.put, List.setIfInBounds_toArray, List.set_cons_zero, List.set_cons_succ, List.getElem_toArray, List.getElem_cons_succ, List.getElem_cons_zero]
                refine wpAnyH_take (i := 27) (v := ?_) rfl (by kernel_rfl) (by kernel_rfl) (by kernel_rfl) (fun _ _ _ h => h) (Or.inl ⟨by rfl, ?_⟩) (by assumption) ?_
                rotate_left
                · intro z hSz
                  obtain ⟨c0, c1, c2, c3, c4, c5, c6⟩ := hSz
                  try simp only [hRC] at c6
                  go_simp
                  try with_reducible rfl
                try simp only [Act.put, List.setIfInBounds_toArray, List.set_cons_zero, List.set_cons_succ, List.getElem_toArray, List.getElem_cons_succ, List.getElem_cons_zero]
                refine wpAnyH_done (by kernel_rfl) ?_ _
                clear hHeld
                have HXz := Lib.hid (HXy.out.below HYz.out)
                have HBz := Lib.hid (HBy.out.trans (HYz.out.mono HBy.out.size))
                first
                  | have HGG := HG.out
                    go_wp2
                    go_roundg gg
                    case measure => omega
                    case rel => exact ⟨k + 1, by omega, by simp, fun i hi => by
                      rcases (by omega : i < k ∨ i = k) with h | rfl
                      · exact HGr.out i h
                      · exact HG.out, ⟨HBz.out, HXz.out⟩⟩
                  | go_wp2
                    go_ret
                    exact ⟨by rw [HE.out]; rfl, HBz.out⟩
        | succ gg =>
          have hlk : k < b.ts.length := by omega
          have t2 : (k : Int) < (b.ts.length : Int) := by omega
          have t3 : IntKind.i64.wrap ((k : Int) + 1) = (k : Int) + 1 := by rw [IntKind.wrap_i64]; omega
          have t4 : (0 : Int) ≤ (k : Int) := by omega
          obtain ⟨g, o, rfl, hgl, hrr⟩ := HRWT.out (by omega)
          obtain ⟨x, hx, hax, hdx, hfx⟩ := hrr k hlk
          have HGA := Lib.hid (gT_at hlk)
          rw [← hx] at HGA
          have HKX : Hid (x.td.n = b.ts[k].n) := by show _ = _; rw [hx]
          have HCK : Hid (∀ z, Below w.heap.size w z → Calls Tryz.prog 151 #[.agg #[.string x.td.n, .int .i64 x.td.z0, .int .i64 x.td.z1, .int .i64 x.td.z2, .slice x.a4 x.td.ws.length x.c4, .slice x.a5 x.td.bs.length x.c5, .string x.td.g, .string x.td.a, .int .i64 x.td.r]] z fun e w' => e = .returned (.int .i64 (erT x.td : Nat)) ∧ Below z.heap.size z w') := fun z hz => chr_t x z (hdx.on hz) hfx
          clear hx hdx hfx
          have hrow : wr.rangeAt g (o + k * 9) [.string x.td.n, .int .i64 x.td.z0, .int .i64 x.td.z1, .int .i64 x.td.z2, .slice x.a4 x.td.ws.length x.c4, .slice x.a5 x.td.bs.length x.c5, .string x.td.g, .string x.td.a, .int .i64 x.td.r] := fun j u hj => (hax.keep HBr.out hgl) j u hj
          clear hax
          go_upto_region 11 with fail
          refine wp_region_list ?_
          refine wpList_plain rfl fun K hK => ?_
          go_simp
          refine hK _ _ ?_
          clear hK K
          refine wpList_plain rfl fun K hK => ?_
          go_simp
          refine hK _ _ ?_
          clear hK K
          refine wpList_load_mid rfl 42 (.tmp 53) rfl (g) (o + k * 9) rfl [.string x.td.n, .int .i64 x.td.z0, .int .i64 x.td.z1, .int .i64 x.td.z2, .slice x.a4 x.td.ws.length x.c4, .slice x.a5 x.td.bs.length x.c5, .string x.td.g, .string x.td.a, .int .i64 x.td.r] _ (hrow) Tryz.underlying42 rfl rfl ?_
          refine wpList_plain rfl fun K hK => ?_
          go_simp
          refine hK _ _ ?_
          clear hK K
          refine wpList_plain rfl fun K hK => ?_
          go_simp
          refine hK _ _ ?_
          clear hK K
          obtain ⟨th1, hbz, hx1⟩ := one_made wr [.string ⟨#[]⟩, .int .i64 0, .int .i64 0, .int .i64 0, .slice none 0 0, .slice none 0 0, .string ⟨#[]⟩, .string ⟨#[]⟩, .int .i64 0] [.string x.td.n, .int .i64 x.td.z0, .int .i64 x.td.z1, .int .i64 x.td.z2, .slice x.a4 x.td.ws.length x.c4, .slice x.a5 x.td.bs.length x.c5, .string x.td.g, .string x.td.a, .int .i64 x.td.r] 42 rfl
          refine wpList_store_mid rfl 42 (.tmp 6) (.tmp 54) rfl (wr.heap.size) 0 #[.string x.td.n, .int .i64 x.td.z0, .int .i64 x.td.z1, .int .i64 x.td.z2, .slice x.a4 x.td.ws.length x.c4, .slice x.a5 x.td.bs.length x.c5, .string x.td.g, .string x.td.a, .int .i64 x.td.r] rfl rfl th1 rfl (all_oneCell_toArray (List.all_eq_true.1 (show List.all ([.string x.td.n, .int .i64 x.td.z0, .int .i64 x.td.z1, .int .i64 x.td.z2, .slice x.a4 x.td.ws.length x.c4, .slice x.a5 x.td.bs.length x.c5, .string x.td.g, .string x.td.a, .int .i64 x.td.r] : List Value) (fun v => v.oneCell') = true from rfl))) ?_
          rw [show (#[.string x.td.n, .int .i64 x.td.z0, .int .i64 x.td.z1, .int .i64 x.td.z2, .slice x.a4 x.td.ws.length x.c4, .slice x.a5 x.td.bs.length x.c5, .string x.td.g, .string x.td.a, .int .i64 x.td.r] : Array Value).toList = [.string x.td.n, .int .i64 x.td.z0, .int .i64 x.td.z1, .int .i64 x.td.z2, .slice x.a4 x.td.ws.length x.c4, .slice x.a5 x.td.bs.length x.c5, .string x.td.g, .string x.td.a, .int .i64 x.td.r] from rfl]
          clear th1 hrow
          obtain ⟨zB, hzB⟩ : ∃ q : Nat, q = wr.heap.size := ⟨_, rfl⟩
          rw [← hzB] at hbz hx1 ⊢
          generalize (wr.alloc (.cells #[.string ⟨#[]⟩, .int .i64 0, .int .i64 0, .int .i64 0, .slice none 0 0, .slice none 0 0, .string ⟨#[]⟩, .string ⟨#[]⟩, .int .i64 0] 42)).setCells zB 0 [.string x.td.n, .int .i64 x.td.z0, .int .i64 x.td.z1, .int .i64 x.td.z2, .slice x.a4 x.td.ws.length x.c4, .slice x.a5 x.td.bs.length x.c5, .string x.td.g, .string x.td.a, .int .i64 x.td.r] = y0 at *
          rw [hzB] at hbz
          clear hzB
          have HBy : Hid (Below w.heap.size w y0) := HBr.out.trans (hbz.mono HBr.out.size)
          have HXy := Lib.hid (HXr.out.below hbz)
          have HEy := Lib.hid hx1
          clear hbz hx1 HBr HXr
          refine wpList_nil ?_
          go_upto_region 12 with fail
          by_cases hq : erT x.td = 0
          case' pos =>
            have HOK : Hid (okT x.td = true) := decide_eq_true hq
            rw [hq] at HCK
            clear hq
            by_cases hk0 : k = 0
            case' pos =>
              have HAJ : Hid (adjB (b.ts.map (·.n)) k = true) := by rw [hk0]; exact adj_0 _
              have HG : Hid (gT b k = true) := by
                show _ = _
                rw [HGA.out, HOK.out, HAJ.out]
                rfl
              clear HGA
              have t0 : decide (0 < k) = false := by simp; omega
              have t0b : ¬ 0 < k := by omega
              clear hk0
              obtain ⟨RC, hRC⟩ : ∃ RC : World → Prop, RC = fun _ => True := ⟨_, rfl⟩
              have HRC : Hid (∀ z, Below w.heap.size w z → RC z) := fun z _ => by rw [hRC]; trivial
            case' neg =>
              obtain ⟨j, hj⟩ : ∃ j, k = j + 1 := ⟨k - 1, by omega⟩
              obtain ⟨xp, hxp, hap, -, -⟩ := hrr j (by omega)
              have HKP : Hid (xp.td.n = (b.ts[j]'(by omega)).n) := by show _ = _; rw [hxp]
              clear hxp
              obtain ⟨RC, hRC⟩ : ∃ RC : World → Prop, RC = fun z => z.cell? ⟨g, o + j * 9, none⟩ = some (.string xp.td.n) := ⟨_, rfl⟩
              have HRC : Hid (∀ z, Below w.heap.size w z → RC z) := fun z hz => by rw [hRC]; exact (hap.keep hz hgl) 0 _ rfl
              have HAJ : Hid (adjB (b.ts.map (·.n)) k = lsS xp.td.n x.td.n) := by
                show _ = _
                have h1 : j + 1 < (b.ts.map (·.n)).length := by rw [List.length_map]; omega
                have h2 := adj_s (b.ts.map (·.n)) j h1
                rw [HKP.out, HKX.out]
                simp only [hj]
                rw [h2]
                simp
              have HJ : Hid (k = j + 1) := hj
              have tj : IntKind.i64.wrap ((k : Int) - 1) = (j : Int) := by rw [IntKind.wrap_i64]; omega
              have t0 : 0 < k := by omega
              have t0c : (0 : Int) < (k : Int) := by omega
              have t5 : (j : Int) < (b.ts.length : Int) := by omega
              have t6 : (0 : Int) ≤ (j : Int) := by omega
              have t7 : j < b.ts.length := by omega
              clear HKP hap hj hk0
              cases hls : lsS xp.td.n x.td.n
              case' false =>
                have g1 : Op.bytesLess xp.td.n.toList x.td.n.toList = false := hls
                have HA2 : Hid (adjB (b.ts.map (·.n)) k = false) := HAJ.out.trans hls
                have HE : Hid (r = false) := by
                  show r = false
                  rw [HR.out]
                  refine lsB_no fun h => ?_
                  have h2 := h.2.2.2.1 k hlk
                  rw [HGA.out, HOK.out, HA2.out] at h2
                  simp at h2
                clear HR HGr HGA
                clear hls HAJ
              case' true =>
                have g1 : Op.bytesLess xp.td.n.toList x.td.n.toList = true := hls
                have HA2 : Hid (adjB (b.ts.map (·.n)) k = true) := HAJ.out.trans hls
                have HG : Hid (gT b k = true) := by
                  show _ = _
                  rw [HGA.out, HOK.out, HA2.out]
                  rfl
                clear HGA
                clear hls HAJ
          case' neg =>
            have HOK : Hid (okT x.td = false) := decide_eq_false hq
            generalize erT x.td = q at *
            have q0 : ((q : Int) == 0) = false := by simpa using hq
            have q1 : ((q : Int) != 0) = true := by simpa using hq
            have q2 : ¬ (q : Int) = 0 := by omega
            have HE : Hid (r = false) := by
              show r = false
              rw [HR.out]
              refine lsB_no fun h => ?_
              have h2 := h.2.2.2.1 k hlk
              rw [HGA.out, HOK.out] at h2
              simp at h2
            clear HR HGr HGA
            clear hq
            obtain ⟨RC, hRC⟩ : ∃ RC : World → Prop, RC = fun _ => True := ⟨_, rfl⟩
            have HRC : Hid (∀ z, Below w.heap.size w z → RC z) := fun z _ => by rw [hRC]; trivial
          all_goals
            have HP : Hid (∀ z, Below y0.heap.size y0 z → (z.cell? ⟨w.heap.size, 1, none⟩ = some (.slice (some ⟨g, o, none⟩) b.ts.length ct) ∧ z.cell? ⟨zB, 0, none⟩ = some (.string x.td.n) ∧ z.cell? ⟨zB, 1, none⟩ = some (.int .i64 x.td.z0) ∧ z.cell? ⟨zB, 2, none⟩ = some (.int .i64 x.td.z1) ∧ z.cell? ⟨zB, 3, none⟩ = some (.int .i64 x.td.z2) ∧ z.cell? ⟨zB, 4, none⟩ = some (.slice x.a4 x.td.ws.length x.c4) ∧ z.cell? ⟨zB, 5, none⟩ = some (.slice x.a5 x.td.bs.length x.c5) ∧ z.cell? ⟨zB, 6, none⟩ = some (.string x.td.g) ∧ z.cell? ⟨zB, 7, none⟩ = some (.string x.td.a) ∧ z.cell? ⟨zB, 8, none⟩ = some (.int .i64 x.td.r) ∧ RC z)) := fun z hz => ⟨(HXy.out.below hz).cell 1, (HEy.out.below hz).cell 0, (HEy.out.below hz).cell 1, (HEy.out.below hz).cell 2, (HEy.out.below hz).cell 3, (HEy.out.below hz).cell 4, (HEy.out.below hz).cell 5, (HEy.out.below hz).cell 6, (HEy.out.below hz).cell 7, (HEy.out.below hz).cell 8, HRC.out z (HBy.out.trans (hz.mono HBy.out.size))⟩
            have HYd : Hid (Below y0.heap.size y0 y0.drew) := ⟨rfl, rfl, rfl, Nat.le_refl _, fun _ _ => rfl⟩
            refine wp_region_held_drew (S := fun z => z.cell? ⟨w.heap.size, 1, none⟩ = some (.slice (some ⟨g, o, none⟩) b.ts.length ct) ∧ z.cell? ⟨zB, 0, none⟩ = some (.string x.td.n) ∧ z.cell? ⟨zB, 1, none⟩ = some (.int .i64 x.td.z0) ∧ z.cell? ⟨zB, 2, none⟩ = some (.int .i64 x.td.z1) ∧ z.cell? ⟨zB, 3, none⟩ = some (.int .i64 x.td.z2) ∧ z.cell? ⟨zB, 4, none⟩ = some (.slice x.a4 x.td.ws.length x.c4) ∧ z.cell? ⟨zB, 5, none⟩ = some (.slice x.a5 x.td.bs.length x.c5) ∧ z.cell? ⟨zB, 6, none⟩ = some (.string x.td.g) ∧ z.cell? ⟨zB, 7, none⟩ = some (.string x.td.a) ∧ z.cell? ⟨zB, 8, none⟩ = some (.int .i64 x.td.r) ∧ RC z) (by kernel_rfl) (HP.out _ HYd.out) (fun hHeld => ?_)
            generalize y0.drew = yd at *
            refine wpAnyH_take (i := 0) (v := ?_) rfl (by kernel_rfl) (by kernel_rfl) (by kernel_rfl) (fun _ _ _ h => h) (Or.inl ⟨by rfl, ?_⟩) (by assumption) ?_
            rotate_left
            · intro z hSz
              obtain ⟨c0, c1, c2, c3, c4, c5, c6, c7, c8, c9, c10⟩ := hSz
              try simp only [hRC] at c10
              go_simp
              try with_reducible rfl
            try simp only [Act.put, List.setIfInBounds_toArray, List.set_cons_zero, List.set_cons_succ, List.getElem_toArray, List.getElem_cons_zero]
            refine wpAnyH_ready (rs := [1]) (by kernel_rfl) (by simp) ?_
            refine AllReadyH.cons rfl (fun K hK => ?_) AllReadyH.nil
            go_simp
            refine (HCK.out _ (HBy.out.trans (HYd.out.mono HBy.out.size))).mono ?_
            rintro e w5 ⟨rfl, hb⟩
            have HYw5 : Hid (Below y0.heap.size y0 w5) := HYd.out.trans (hb.mono HYd.out.size)
            clear hb
            refine hK.out _ _ (HP.out _ HYw5.out) (fun hHeld2 => ?_)
            clear hK K hHeld
            have hHeld := hHeld2
            clear hHeld2
            try simp only [Act.put, List.setIfInBounds_toArray, List.set_cons_zero, List.set_cons_succ, List.getElem_toArray, List.getElem_cons_succ, List.getElem_cons_zero]
            refine wpAnyH_take (i := 2) (v := ?_) rfl (by kernel_rfl) (by kernel_rfl) (by kernel_rfl) (fun _ _ _ h => h) (Or.inl ⟨by rfl, ?_⟩) (by assumption) ?_
            rotate_left
            · intro z hSz
              obtain ⟨c0, c1, c2, c3, c4, c5, c6, c7, c8, c9, c10⟩ := hSz
              try simp only [hRC] at c10
              go_simp
              try with_reducible rfl
            try simp only [Act.put, List.setIfInBounds_toArray, List.set_cons_zero, List.set_cons_succ, List.getElem_toArray, List.getElem_cons_succ, List.getElem_cons_zero]
            refine wpAnyH_take (i := 3) (v := ?_) rfl (by kernel_rfl) (by kernel_rfl) (by kernel_rfl) (fun _ _ _ h => h) (Or.inl ⟨by rfl, ?_⟩) (by assumption) ?_
            rotate_left
            · intro z hSz
              obtain ⟨c0, c1, c2, c3, c4, c5, c6, c7, c8, c9, c10⟩ := hSz
              try simp only [hRC] at c10
              go_simp
              try with_reducible rfl
            try simp only [Act.put, List.setIfInBounds_toArray, List.set_cons_zero, List.set_cons_succ, List.getElem_toArray, List.getElem_cons_succ, List.getElem_cons_zero]
            first
              | refine wpAnyH_take (i := 4) (v := undef) rfl (by kernel_rfl) (by kernel_rfl) (by kernel_rfl) (fun _ _ _ h => h) (Or.inr ⟨by rfl, rfl⟩) (by assumption) ?_
              | refine wpAnyH_take (i := 4) (v := ?_) rfl (by kernel_rfl) (by kernel_rfl) (by kernel_rfl) (fun _ _ _ h => h) (Or.inl ⟨by rfl, ?_⟩) (by assumption) ?_
                rotate_left
                · intro z hSz
                  obtain ⟨c0, c1, c2, c3, c4, c5, c6, c7, c8, c9, c10⟩ := hSz
                  try simp only [hRC] at c10
                  go_simp
                  try with_reducible rfl
            try simp only [Act.put, List.setIfInBounds_toArray, List.set_cons_zero, List.set_cons_succ, List.getElem_toArray, List.getElem_cons_succ, List.getElem_cons_zero]
            first
              | refine wpAnyH_take (i := 5) (v := undef) rfl (by kernel_rfl) (by kernel_rfl) (by kernel_rfl) (fun _ _ _ h => h) (Or.inr ⟨by rfl, rfl⟩) (by assumption) ?_
              | refine wpAnyH_take (i := 5) (v := ?_) rfl (by kernel_rfl) (by kernel_rfl) (by kernel_rfl) (fun _ _ _ h => h) (Or.inl ⟨by rfl, ?_⟩) (by assumption) ?_
                rotate_left
                · intro z hSz
                  obtain ⟨c0, c1, c2, c3, c4, c5, c6, c7, c8, c9, c10⟩ := hSz
                  try simp only [hRC] at c10
                  go_simp
                  try with_reducible rfl
            try simp only [Act.put, List.setIfInBounds_toArray, List.set_cons_zero, List.set_cons_succ, List.getElem_toArray, List.getElem_cons_succ, List.getElem_cons_zero]
            first
              | refine wpAnyH_take (i := 6) (v := undef) rfl (by kernel_rfl) (by kernel_rfl) (by kernel_rfl) (fun _ _ _ h => h) (Or.inr ⟨by rfl, rfl⟩) (by assumption) ?_
              | refine wpAnyH_take (i := 6) (v := ?_) rfl (by kernel_rfl) (by kernel_rfl) (by kernel_rfl) (fun _ _ _ h => h) (Or.inl ⟨by rfl, ?_⟩) (by assumption) ?_
                rotate_left
                · intro z hSz
                  obtain ⟨c0, c1, c2, c3, c4, c5, c6, c7, c8, c9, c10⟩ := hSz
                  try simp only [hRC] at c10
                  go_simp
                  try with_reducible rfl
            try simp only [Act.put, List.setIfInBounds_toArray, List.set_cons_zero, List.set_cons_succ, List.getElem_toArray, List.getElem_cons_succ, List.getElem_cons_zero]
            first
              | refine wpAnyH_take (i := 7) (v := undef) rfl (by kernel_rfl) (by kernel_rfl) (by kernel_rfl) (fun _ _ _ h => h) (Or.inr ⟨by rfl, rfl⟩) (by assumption) ?_
              | refine wpAnyH_take (i := 7) (v := ?_) rfl (by kernel_rfl) (by kernel_rfl) (by kernel_rfl) (fun _ _ _ h => h) (Or.inl ⟨by rfl, ?_⟩) (by assumption) ?_
                rotate_left
                · intro z hSz
                  obtain ⟨c0, c1, c2, c3, c4, c5, c6, c7, c8, c9, c10⟩ := hSz
                  try simp only [hRC] at c10
                  go_simp
                  try with_reducible rfl
            try simp only [Act.put, List.setIfInBounds_toArray, List.set_cons_zero, List.set_cons_succ, List.getElem_toArray, List.getElem_cons_succ, List.getElem_cons_zero]
            first
              | refine wpAnyH_take (i := 8) (v := undef) rfl (by kernel_rfl) (by kernel_rfl) (by kernel_rfl) (fun _ _ _ h => h) (Or.inr ⟨by rfl, rfl⟩) (by assumption) ?_
              | refine wpAnyH_take (i := 8) (v := ?_) rfl (by kernel_rfl) (by kernel_rfl) (by kernel_rfl) (fun _ _ _ h => h) (Or.inl ⟨by rfl, ?_⟩) (by assumption) ?_
                rotate_left
                · intro z hSz
                  obtain ⟨c0, c1, c2, c3, c4, c5, c6, c7, c8, c9, c10⟩ := hSz
                  try simp only [hRC] at c10
                  go_simp
                  try with_reducible rfl
            try simp only [Act.put, List.setIfInBounds_toArray, List.set_cons_zero, List.set_cons_succ, List.getElem_toArray, List.getElem_cons_succ, List.getElem_cons_zero]
            first
              | refine wpAnyH_take (i := 9) (v := undef) rfl (by kernel_rfl) (by kernel_rfl) (by kernel_rfl) (fun _ _ _ h => h) (Or.inr ⟨by rfl, rfl⟩) (by assumption) ?_
              | refine wpAnyH_take (i := 9) (v := ?_) rfl (by kernel_rfl) (by kernel_rfl) (by kernel_rfl) (fun _ _ _ h => h) (Or.inl ⟨by rfl, ?_⟩) (by assumption) ?_
                rotate_left
                · intro z hSz
                  obtain ⟨c0, c1, c2, c3, c4, c5, c6, c7, c8, c9, c10⟩ := hSz
                  try simp only [hRC] at c10
                  go_simp
                  try with_reducible rfl
            try simp only [Act.put, List.setIfInBounds_toArray, List.set_cons_zero, List.set_cons_succ, List.getElem_toArray, List.getElem_cons_succ, List.getElem_cons_zero]
            first
              | refine wpAnyH_take (i := 10) (v := undef) rfl (by kernel_rfl) (by kernel_rfl) (by kernel_rfl) (fun _ _ _ h => h) (Or.inr ⟨by rfl, rfl⟩) (by assumption) ?_
              | refine wpAnyH_take (i := 10) (v := ?_) rfl (by kernel_rfl) (by kernel_rfl) (by kernel_rfl) (fun _ _ _ h => h) (Or.inl ⟨by rfl, ?_⟩) (by assumption) ?_
                rotate_left
                · intro z hSz
                  obtain ⟨c0, c1, c2, c3, c4, c5, c6, c7, c8, c9, c10⟩ := hSz
                  try simp only [hRC] at c10
                  go_simp
                  try with_reducible rfl
            try simp only [Act.put, List.setIfInBounds_toArray, List.set_cons_zero, List.set_cons_succ, List.getElem_toArray, List.getElem_cons_succ, List.getElem_cons_zero]
            first
              | refine wpAnyH_take (i := 11) (v := undef) rfl (by kernel_rfl) (by kernel_rfl) (by kernel_rfl) (fun _ _ _ h => h) (Or.inr ⟨by rfl, rfl⟩) (by assumption) ?_
              | refine wpAnyH_take (i := 11) (v := ?_) rfl (by kernel_rfl) (by kernel_rfl) (by kernel_rfl) (fun _ _ _ h => h) (Or.inl ⟨by rfl, ?_⟩) (by assumption) ?_
                rotate_left
                · intro z hSz
                  obtain ⟨c0, c1, c2, c3, c4, c5, c6, c7, c8, c9, c10⟩ := hSz
                  try simp only [hRC] at c10
                  go_simp
                  try with_reducible rfl
            try simp only [Act.put, List.setIfInBounds_toArray, List.set_cons_zero, List.set_cons_succ, List.getElem_toArray, List.getElem_cons_succ, List.getElem_cons_zero]
            first
              | refine wpAnyH_take (i := 12) (v := undef) rfl (by kernel_rfl) (by kernel_rfl) (by kernel_rfl) (fun _ _ _ h => h) (Or.inr ⟨by rfl, rfl⟩) (by assumption) ?_
              | refine wpAnyH_take (i := 12) (v := ?_) rfl (by kernel_rfl) (by kernel_rfl) (by kernel_rfl) (fun _ _ _ h => h) (Or.inl ⟨by rfl, ?_⟩) (by assumption) ?_
                rotate_left
                · intro z hSz
                  obtain ⟨c0, c1, c2, c3, c4, c5, c6, c7, c8, c9, c10⟩ := hSz
                  try simp only [hRC] at c10
                  go_simp
                  try with_reducible rfl
            try simp only [Act.put, List.setIfInBounds_toArray, List.set_cons_zero, List.set_cons_succ, List.getElem_toArray, List.getElem_cons_succ, List.getElem_cons_zero]
            first
              | refine wpAnyH_take (i := 13) (v := undef) rfl (by kernel_rfl) (by kernel_rfl) (by kernel_rfl) (fun _ _ _ h => h) (Or.inr ⟨by rfl, rfl⟩) (by assumption) ?_
              | refine wpAnyH_take (i := 13) (v := ?_) rfl (by kernel_rfl) (by kernel_rfl) (by kernel_rfl) (fun _ _ _ h => h) (Or.inl ⟨by rfl, ?_⟩) (by assumption) ?_
                rotate_left
                · intro z hSz
                  obtain ⟨c0, c1, c2, c3, c4, c5, c6, c7, c8, c9, c10⟩ := hSz
                  try simp only [hRC] at c10
                  go_simp
                  try with_reducible rfl
            try simp only [Act.put, List.setIfInBounds_toArray, List.set_cons_zero, List.set_cons_succ, List.getElem_toArray, List.getElem_cons_succ, List.getElem_cons_zero]
            first
              | refine wpAnyH_take (i := 14) (v := undef) rfl (by kernel_rfl) (by kernel_rfl) (by kernel_rfl) (fun _ _ _ h => h) (Or.inr ⟨by rfl, rfl⟩) (by assumption) ?_
              | refine wpAnyH_take (i := 14) (v := ?_) rfl (by kernel_rfl) (by kernel_rfl) (by kernel_rfl) (fun _ _ _ h => h) (Or.inl ⟨by rfl, ?_⟩) (by assumption) ?_
                rotate_left
                · intro z hSz
                  obtain ⟨c0, c1, c2, c3, c4, c5, c6, c7, c8, c9, c10⟩ := hSz
                  try simp only [hRC] at c10
                  go_simp
                  try with_reducible rfl
            try simp only [Act.put, List.setIfInBounds_toArray, List.set_cons_zero, List.set_cons_succ, List.getElem_toArray, List.getElem_cons_succ, List.getElem_cons_zero]
            first
              | refine wpAnyH_take (i := 15) (v := undef) rfl (by kernel_rfl) (by kernel_rfl) (by kernel_rfl) (fun _ _ _ h => h) (Or.inr ⟨by rfl, rfl⟩) (by assumption) ?_
              | refine wpAnyH_take (i := 15) (v := ?_) rfl (by kernel_rfl) (by kernel_rfl) (by kernel_rfl) (fun _ _ _ h => h) (Or.inl ⟨by rfl, ?_⟩) (by assumption) ?_
                rotate_left
                · intro z hSz
                  obtain ⟨c0, c1, c2, c3, c4, c5, c6, c7, c8, c9, c10⟩ := hSz
                  try simp only [hRC] at c10
                  go_simp
                  try with_reducible rfl
            try simp only [Act.put, List.setIfInBounds_toArray, List.set_cons_zero, List.set_cons_succ, List.getElem_toArray, List.getElem_cons_succ, List.getElem_cons_zero]
            first
              | refine wpAnyH_take (i := 16) (v := undef) rfl (by kernel_rfl) (by kernel_rfl) (by kernel_rfl) (fun _ _ _ h => h) (Or.inr ⟨by rfl, rfl⟩) (by assumption) ?_
              | refine wpAnyH_take (i := 16) (v := ?_) rfl (by kernel_rfl) (by kernel_rfl) (by kernel_rfl) (fun _ _ _ h => h) (Or.inl ⟨by rfl, ?_⟩) (by assumption) ?_
                rotate_left
                · intro z hSz
                  obtain ⟨c0, c1, c2, c3, c4, c5, c6, c7, c8, c9, c10⟩ := hSz
                  try simp only [hRC] at c10
                  go_simp
                  try with_reducible rfl
            try simp only [Act.put, List.setIfInBounds_toArray, List.set_cons_zero, List.set_cons_succ, List.getElem_toArray, List.getElem_cons_succ, List.getElem_cons_zero]
            first
              | refine wpAnyH_take (i := 17) (v := undef) rfl (by kernel_rfl) (by kernel_rfl) (by kernel_rfl) (fun _ _ _ h => h) (Or.inr ⟨by rfl, rfl⟩) (by assumption) ?_
              | refine wpAnyH_take (i := 17) (v := ?_) rfl (by kernel_rfl) (by kernel_rfl) (by kernel_rfl) (fun _ _ _ h => h) (Or.inl ⟨by rfl, ?_⟩) (by assumption) ?_
                rotate_left
                · intro z hSz
                  obtain ⟨c0, c1, c2, c3, c4, c5, c6, c7, c8, c9, c10⟩ := hSz
                  try simp only [hRC] at c10
                  go_simp
                  try with_reducible rfl
            try simp only [Act.put, List.setIfInBounds_toArray, List.set_cons_zero, List.set_cons_succ, List.getElem_toArray, List.getElem_cons_succ, List.getElem_cons_zero]
            refine wpAnyH_take (i := 18) (v := ?_) rfl (by kernel_rfl) (by kernel_rfl) (by kernel_rfl) (fun _ _ _ h => h) (Or.inl ⟨by rfl, ?_⟩) (by assumption) ?_
            rotate_left
            · intro z hSz
              obtain ⟨c0, c1, c2, c3, c4, c5, c6, c7, c8, c9, c10⟩ := hSz
              try simp only [hRC] at c10
              go_simp
              try with_reducible rfl
            try simp only [Act.put, List.setIfInBounds_toArray, List.set_cons_zero, List.set_cons_succ, List.getElem_toArray, List.getElem_cons_succ, List.getElem_cons_zero]
            have HYz := HYw5
            refine wpAnyH_done (by kernel_rfl) ?_ _
            clear hHeld
            have HXz := Lib.hid (HXy.out.below HYz.out)
            have HBz := Lib.hid (HBy.out.trans (HYz.out.mono HBy.out.size))
            first
              | have HGG := HG.out
                go_wp2
                go_roundg gg
                case measure => omega
                case rel => exact ⟨k + 1, by omega, by simp, fun i hi => by
                  rcases (by omega : i < k ∨ i = k) with h | rfl
                  · exact HGr.out i h
                  · exact HG.out, ⟨HBz.out, HXz.out⟩⟩
              | go_wp2
                go_ret
                exact ⟨by rw [HE.out]; rfl, HBz.out⟩
    | succ gg =>
      have hlk : k < b.ns.length := by omega
      have t2 : (k : Int) < (b.ns.length : Int) := by omega
      have t3 : IntKind.i64.wrap ((k : Int) + 1) = (k : Int) + 1 := by rw [IntKind.wrap_i64]; omega
      have t4 : (0 : Int) ≤ (k : Int) := by omega
      obtain ⟨g, o, rfl, hgl, hrr⟩ := HRWN.out (by omega)
      obtain ⟨x, hx, hax, hdx, hfx⟩ := hrr k hlk
      have HGA := Lib.hid (gN_at hlk)
      rw [← hx] at HGA
      have HKX : Hid (x.nd.n = b.ns[k].n) := by show _ = _; rw [hx]
      have HCK : Hid (∀ z, Below w.heap.size w z → Calls Tryz.prog 150 #[.agg #[.string x.nd.n, .int .i64 x.nd.z0, .int .i64 x.nd.z1, .int .i64 x.nd.z2, .slice x.a2 x.nd.ls.length x.c2, .slice x.a3 x.nd.ts.length x.c3]] z fun e w' => e = .returned (.int .i64 (erN x.nd : Nat)) ∧ Below z.heap.size z w') := fun z hz => chr_n x z (hdx.on hz) hfx
      clear hx hdx hfx
      have hrow : wr.rangeAt g (o + k * 6) [.string x.nd.n, .int .i64 x.nd.z0, .int .i64 x.nd.z1, .int .i64 x.nd.z2, .slice x.a2 x.nd.ls.length x.c2, .slice x.a3 x.nd.ts.length x.c3] := fun j u hj => (hax.keep HBr.out hgl) j u hj
      clear hax
      go_upto_region 5 with fail
      refine wp_region_list ?_
      refine wpList_plain rfl fun K hK => ?_
      go_simp
      refine hK _ _ ?_
      clear hK K
      refine wpList_plain rfl fun K hK => ?_
      go_simp
      refine hK _ _ ?_
      clear hK K
      refine wpList_load_mid rfl 45 (.tmp 25) rfl (g) (o + k * 6) rfl [.string x.nd.n, .int .i64 x.nd.z0, .int .i64 x.nd.z1, .int .i64 x.nd.z2, .slice x.a2 x.nd.ls.length x.c2, .slice x.a3 x.nd.ts.length x.c3] _ (hrow) Tryz.underlying45 rfl rfl ?_
      refine wpList_plain rfl fun K hK => ?_
      go_simp
      refine hK _ _ ?_
      clear hK K
      refine wpList_plain rfl fun K hK => ?_
      go_simp
      refine hK _ _ ?_
      clear hK K
      obtain ⟨th1, hbz, hx1⟩ := one_made wr [.string ⟨#[]⟩, .int .i64 0, .int .i64 0, .int .i64 0, .slice none 0 0, .slice none 0 0] [.string x.nd.n, .int .i64 x.nd.z0, .int .i64 x.nd.z1, .int .i64 x.nd.z2, .slice x.a2 x.nd.ls.length x.c2, .slice x.a3 x.nd.ts.length x.c3] 45 rfl
      refine wpList_store_mid rfl 45 (.tmp 4) (.tmp 26) rfl (wr.heap.size) 0 #[.string x.nd.n, .int .i64 x.nd.z0, .int .i64 x.nd.z1, .int .i64 x.nd.z2, .slice x.a2 x.nd.ls.length x.c2, .slice x.a3 x.nd.ts.length x.c3] rfl rfl th1 rfl (all_oneCell_toArray (List.all_eq_true.1 (show List.all ([.string x.nd.n, .int .i64 x.nd.z0, .int .i64 x.nd.z1, .int .i64 x.nd.z2, .slice x.a2 x.nd.ls.length x.c2, .slice x.a3 x.nd.ts.length x.c3] : List Value) (fun v => v.oneCell') = true from rfl))) ?_
      rw [show (#[.string x.nd.n, .int .i64 x.nd.z0, .int .i64 x.nd.z1, .int .i64 x.nd.z2, .slice x.a2 x.nd.ls.length x.c2, .slice x.a3 x.nd.ts.length x.c3] : Array Value).toList = [.string x.nd.n, .int .i64 x.nd.z0, .int .i64 x.nd.z1, .int .i64 x.nd.z2, .slice x.a2 x.nd.ls.length x.c2, .slice x.a3 x.nd.ts.length x.c3] from rfl]
      clear th1 hrow
      obtain ⟨zB, hzB⟩ : ∃ q : Nat, q = wr.heap.size := ⟨_, rfl⟩
      rw [← hzB] at hbz hx1 ⊢
      generalize (wr.alloc (.cells #[.string ⟨#[]⟩, .int .i64 0, .int .i64 0, .int .i64 0, .slice none 0 0, .slice none 0 0] 45)).setCells zB 0 [.string x.nd.n, .int .i64 x.nd.z0, .int .i64 x.nd.z1, .int .i64 x.nd.z2, .slice x.a2 x.nd.ls.length x.c2, .slice x.a3 x.nd.ts.length x.c3] = y0 at *
      rw [hzB] at hbz
      clear hzB
      have HBy : Hid (Below w.heap.size w y0) := HBr.out.trans (hbz.mono HBr.out.size)
      have HXy := Lib.hid (HXr.out.below hbz)
      have HEy := Lib.hid hx1
      clear hbz hx1 HBr HXr
      refine wpList_nil ?_
      go_upto_region 6 with fail
      by_cases hq : erN x.nd = 0
      case' pos =>
        have HOK : Hid (okN x.nd = true) := decide_eq_true hq
        rw [hq] at HCK
        clear hq
        by_cases hk0 : k = 0
        case' pos =>
          have HAJ : Hid (adjB (b.ns.map (·.n)) k = true) := by rw [hk0]; exact adj_0 _
          have HG : Hid (gN b k = true) := by
            show _ = _
            rw [HGA.out, HOK.out, HAJ.out]
            rfl
          clear HGA
          have t0 : decide (0 < k) = false := by simp; omega
          have t0b : ¬ 0 < k := by omega
          clear hk0
          obtain ⟨RC, hRC⟩ : ∃ RC : World → Prop, RC = fun _ => True := ⟨_, rfl⟩
          have HRC : Hid (∀ z, Below w.heap.size w z → RC z) := fun z _ => by rw [hRC]; trivial
        case' neg =>
          obtain ⟨j, hj⟩ : ∃ j, k = j + 1 := ⟨k - 1, by omega⟩
          obtain ⟨xp, hxp, hap, -, -⟩ := hrr j (by omega)
          have HKP : Hid (xp.nd.n = (b.ns[j]'(by omega)).n) := by show _ = _; rw [hxp]
          clear hxp
          obtain ⟨RC, hRC⟩ : ∃ RC : World → Prop, RC = fun z => z.cell? ⟨g, o + j * 6, none⟩ = some (.string xp.nd.n) := ⟨_, rfl⟩
          have HRC : Hid (∀ z, Below w.heap.size w z → RC z) := fun z hz => by rw [hRC]; exact (hap.keep hz hgl) 0 _ rfl
          have HAJ : Hid (adjB (b.ns.map (·.n)) k = lsS xp.nd.n x.nd.n) := by
            show _ = _
            have h1 : j + 1 < (b.ns.map (·.n)).length := by rw [List.length_map]; omega
            have h2 := adj_s (b.ns.map (·.n)) j h1
            rw [HKP.out, HKX.out]
            simp only [hj]
            rw [h2]
            simp
          have HJ : Hid (k = j + 1) := hj
          have tj : IntKind.i64.wrap ((k : Int) - 1) = (j : Int) := by rw [IntKind.wrap_i64]; omega
          have t0 : 0 < k := by omega
          have t0c : (0 : Int) < (k : Int) := by omega
          have t5 : (j : Int) < (b.ns.length : Int) := by omega
          have t6 : (0 : Int) ≤ (j : Int) := by omega
          have t7 : j < b.ns.length := by omega
          clear HKP hap hj hk0
          cases hls : lsS xp.nd.n x.nd.n
          case' false =>
            have g1 : Op.bytesLess xp.nd.n.toList x.nd.n.toList = false := hls
            have HA2 : Hid (adjB (b.ns.map (·.n)) k = false) := HAJ.out.trans hls
            have HE : Hid (r = false) := by
              show r = false
              rw [HR.out]
              refine lsB_no fun h => ?_
              have h2 := h.2.2.1 k hlk
              rw [HGA.out, HOK.out, HA2.out] at h2
              simp at h2
            clear HR HGr HGA
            clear hls HAJ
          case' true =>
            have g1 : Op.bytesLess xp.nd.n.toList x.nd.n.toList = true := hls
            have HA2 : Hid (adjB (b.ns.map (·.n)) k = true) := HAJ.out.trans hls
            have HG : Hid (gN b k = true) := by
              show _ = _
              rw [HGA.out, HOK.out, HA2.out]
              rfl
            clear HGA
            clear hls HAJ
      case' neg =>
        have HOK : Hid (okN x.nd = false) := decide_eq_false hq
        generalize erN x.nd = q at *
        have q0 : ((q : Int) == 0) = false := by simpa using hq
        have q1 : ((q : Int) != 0) = true := by simpa using hq
        have q2 : ¬ (q : Int) = 0 := by omega
        have HE : Hid (r = false) := by
          show r = false
          rw [HR.out]
          refine lsB_no fun h => ?_
          have h2 := h.2.2.1 k hlk
          rw [HGA.out, HOK.out] at h2
          simp at h2
        clear HR HGr HGA
        clear hq
        obtain ⟨RC, hRC⟩ : ∃ RC : World → Prop, RC = fun _ => True := ⟨_, rfl⟩
        have HRC : Hid (∀ z, Below w.heap.size w z → RC z) := fun z _ => by rw [hRC]; trivial
      all_goals
        have HP : Hid (∀ z, Below y0.heap.size y0 z → (z.cell? ⟨w.heap.size, 0, none⟩ = some (.slice (some ⟨g, o, none⟩) b.ns.length cn) ∧ z.cell? ⟨zB, 0, none⟩ = some (.string x.nd.n) ∧ z.cell? ⟨zB, 1, none⟩ = some (.int .i64 x.nd.z0) ∧ z.cell? ⟨zB, 2, none⟩ = some (.int .i64 x.nd.z1) ∧ z.cell? ⟨zB, 3, none⟩ = some (.int .i64 x.nd.z2) ∧ z.cell? ⟨zB, 4, none⟩ = some (.slice x.a2 x.nd.ls.length x.c2) ∧ z.cell? ⟨zB, 5, none⟩ = some (.slice x.a3 x.nd.ts.length x.c3) ∧ RC z)) := fun z hz => ⟨(HXy.out.below hz).cell 0, (HEy.out.below hz).cell 0, (HEy.out.below hz).cell 1, (HEy.out.below hz).cell 2, (HEy.out.below hz).cell 3, (HEy.out.below hz).cell 4, (HEy.out.below hz).cell 5, HRC.out z (HBy.out.trans (hz.mono HBy.out.size))⟩
        have HYd : Hid (Below y0.heap.size y0 y0.drew) := ⟨rfl, rfl, rfl, Nat.le_refl _, fun _ _ => rfl⟩
        refine wp_region_held_drew (S := fun z => z.cell? ⟨w.heap.size, 0, none⟩ = some (.slice (some ⟨g, o, none⟩) b.ns.length cn) ∧ z.cell? ⟨zB, 0, none⟩ = some (.string x.nd.n) ∧ z.cell? ⟨zB, 1, none⟩ = some (.int .i64 x.nd.z0) ∧ z.cell? ⟨zB, 2, none⟩ = some (.int .i64 x.nd.z1) ∧ z.cell? ⟨zB, 3, none⟩ = some (.int .i64 x.nd.z2) ∧ z.cell? ⟨zB, 4, none⟩ = some (.slice x.a2 x.nd.ls.length x.c2) ∧ z.cell? ⟨zB, 5, none⟩ = some (.slice x.a3 x.nd.ts.length x.c3) ∧ RC z) (by kernel_rfl) (HP.out _ HYd.out) (fun hHeld => ?_)
        generalize y0.drew = yd at *
        refine wpAnyH_take (i := 0) (v := ?_) rfl (by kernel_rfl) (by kernel_rfl) (by kernel_rfl) (fun _ _ _ h => h) (Or.inl ⟨by rfl, ?_⟩) (by assumption) ?_
        rotate_left
        · intro z hSz
          obtain ⟨c0, c1, c2, c3, c4, c5, c6, c7⟩ := hSz
          try simp only [hRC] at c7
          go_simp
          try with_reducible rfl
        try simp only [Act.put, List.setIfInBounds_toArray, List.set_cons_zero, List.set_cons_succ, List.getElem_toArray, List.getElem_cons_zero]
        refine wpAnyH_ready (rs := [1]) (by kernel_rfl) (by simp) ?_
        refine AllReadyH.cons rfl (fun K hK => ?_) AllReadyH.nil
        go_simp
        refine (HCK.out _ (HBy.out.trans (HYd.out.mono HBy.out.size))).mono ?_
        rintro e w5 ⟨rfl, hb⟩
        have HYw5 : Hid (Below y0.heap.size y0 w5) := HYd.out.trans (hb.mono HYd.out.size)
        clear hb
        refine hK.out _ _ (HP.out _ HYw5.out) (fun hHeld2 => ?_)
        clear hK K hHeld
        have hHeld := hHeld2
        clear hHeld2
        try simp only [Act.put, List.setIfInBounds_toArray, List.set_cons_zero, List.set_cons_succ, List.getElem_toArray, List.getElem_cons_succ, List.getElem_cons_zero]
        refine wpAnyH_take (i := 2) (v := ?_) rfl (by kernel_rfl) (by kernel_rfl) (by kernel_rfl) (fun _ _ _ h => h) (Or.inl ⟨by rfl, ?_⟩) (by assumption) ?_
        rotate_left
        · intro z hSz
          obtain ⟨c0, c1, c2, c3, c4, c5, c6, c7⟩ := hSz
          try simp only [hRC] at c7
          go_simp
          try with_reducible rfl
        try simp only [Act.put, List.setIfInBounds_toArray, List.set_cons_zero, List.set_cons_succ, List.getElem_toArray, List.getElem_cons_succ, List.getElem_cons_zero]
        refine wpAnyH_take (i := 3) (v := ?_) rfl (by kernel_rfl) (by kernel_rfl) (by kernel_rfl) (fun _ _ _ h => h) (Or.inl ⟨by rfl, ?_⟩) (by assumption) ?_
        rotate_left
        · intro z hSz
          obtain ⟨c0, c1, c2, c3, c4, c5, c6, c7⟩ := hSz
          try simp only [hRC] at c7
          go_simp
          try with_reducible rfl
        try simp only [Act.put, List.setIfInBounds_toArray, List.set_cons_zero, List.set_cons_succ, List.getElem_toArray, List.getElem_cons_succ, List.getElem_cons_zero]
        first
          | refine wpAnyH_take (i := 4) (v := undef) rfl (by kernel_rfl) (by kernel_rfl) (by kernel_rfl) (fun _ _ _ h => h) (Or.inr ⟨by rfl, rfl⟩) (by assumption) ?_
          | refine wpAnyH_take (i := 4) (v := ?_) rfl (by kernel_rfl) (by kernel_rfl) (by kernel_rfl) (fun _ _ _ h => h) (Or.inl ⟨by rfl, ?_⟩) (by assumption) ?_
            rotate_left
            · intro z hSz
              obtain ⟨c0, c1, c2, c3, c4, c5, c6, c7⟩ := hSz
              try simp only [hRC] at c7
              go_simp
              try with_reducible rfl
        try simp only [Act.put, List.setIfInBounds_toArray, List.set_cons_zero, List.set_cons_succ, List.getElem_toArray, List.getElem_cons_succ, List.getElem_cons_zero]
        first
          | refine wpAnyH_take (i := 5) (v := undef) rfl (by kernel_rfl) (by kernel_rfl) (by kernel_rfl) (fun _ _ _ h => h) (Or.inr ⟨by rfl, rfl⟩) (by assumption) ?_
          | refine wpAnyH_take (i := 5) (v := ?_) rfl (by kernel_rfl) (by kernel_rfl) (by kernel_rfl) (fun _ _ _ h => h) (Or.inl ⟨by rfl, ?_⟩) (by assumption) ?_
            rotate_left
            · intro z hSz
              obtain ⟨c0, c1, c2, c3, c4, c5, c6, c7⟩ := hSz
              try simp only [hRC] at c7
              go_simp
              try with_reducible rfl
        try simp only [Act.put, List.setIfInBounds_toArray, List.set_cons_zero, List.set_cons_succ, List.getElem_toArray, List.getElem_cons_succ, List.getElem_cons_zero]
        first
          | refine wpAnyH_take (i := 6) (v := undef) rfl (by kernel_rfl) (by kernel_rfl) (by kernel_rfl) (fun _ _ _ h => h) (Or.inr ⟨by rfl, rfl⟩) (by assumption) ?_
          | refine wpAnyH_take (i := 6) (v := ?_) rfl (by kernel_rfl) (by kernel_rfl) (by kernel_rfl) (fun _ _ _ h => h) (Or.inl ⟨by rfl, ?_⟩) (by assumption) ?_
            rotate_left
            · intro z hSz
              obtain ⟨c0, c1, c2, c3, c4, c5, c6, c7⟩ := hSz
              try simp only [hRC] at c7
              go_simp
              try with_reducible rfl
        try simp only [Act.put, List.setIfInBounds_toArray, List.set_cons_zero, List.set_cons_succ, List.getElem_toArray, List.getElem_cons_succ, List.getElem_cons_zero]
        first
          | refine wpAnyH_take (i := 7) (v := undef) rfl (by kernel_rfl) (by kernel_rfl) (by kernel_rfl) (fun _ _ _ h => h) (Or.inr ⟨by rfl, rfl⟩) (by assumption) ?_
          | refine wpAnyH_take (i := 7) (v := ?_) rfl (by kernel_rfl) (by kernel_rfl) (by kernel_rfl) (fun _ _ _ h => h) (Or.inl ⟨by rfl, ?_⟩) (by assumption) ?_
            rotate_left
            · intro z hSz
              obtain ⟨c0, c1, c2, c3, c4, c5, c6, c7⟩ := hSz
              try simp only [hRC] at c7
              go_simp
              try with_reducible rfl
        try simp only [Act.put, List.setIfInBounds_toArray, List.set_cons_zero, List.set_cons_succ, List.getElem_toArray, List.getElem_cons_succ, List.getElem_cons_zero]
        first
          | refine wpAnyH_take (i := 8) (v := undef) rfl (by kernel_rfl) (by kernel_rfl) (by kernel_rfl) (fun _ _ _ h => h) (Or.inr ⟨by rfl, rfl⟩) (by assumption) ?_
          | refine wpAnyH_take (i := 8) (v := ?_) rfl (by kernel_rfl) (by kernel_rfl) (by kernel_rfl) (fun _ _ _ h => h) (Or.inl ⟨by rfl, ?_⟩) (by assumption) ?_
            rotate_left
            · intro z hSz
              obtain ⟨c0, c1, c2, c3, c4, c5, c6, c7⟩ := hSz
              try simp only [hRC] at c7
              go_simp
              try with_reducible rfl
        try simp only [Act.put, List.setIfInBounds_toArray, List.set_cons_zero, List.set_cons_succ, List.getElem_toArray, List.getElem_cons_succ, List.getElem_cons_zero]
        first
          | refine wpAnyH_take (i := 9) (v := undef) rfl (by kernel_rfl) (by kernel_rfl) (by kernel_rfl) (fun _ _ _ h => h) (Or.inr ⟨by rfl, rfl⟩) (by assumption) ?_
          | refine wpAnyH_take (i := 9) (v := ?_) rfl (by kernel_rfl) (by kernel_rfl) (by kernel_rfl) (fun _ _ _ h => h) (Or.inl ⟨by rfl, ?_⟩) (by assumption) ?_
            rotate_left
            · intro z hSz
              obtain ⟨c0, c1, c2, c3, c4, c5, c6, c7⟩ := hSz
              try simp only [hRC] at c7
              go_simp
              try with_reducible rfl
        try simp only [Act.put, List.setIfInBounds_toArray, List.set_cons_zero, List.set_cons_succ, List.getElem_toArray, List.getElem_cons_succ, List.getElem_cons_zero]
        first
          | refine wpAnyH_take (i := 10) (v := undef) rfl (by kernel_rfl) (by kernel_rfl) (by kernel_rfl) (fun _ _ _ h => h) (Or.inr ⟨by rfl, rfl⟩) (by assumption) ?_
          | refine wpAnyH_take (i := 10) (v := ?_) rfl (by kernel_rfl) (by kernel_rfl) (by kernel_rfl) (fun _ _ _ h => h) (Or.inl ⟨by rfl, ?_⟩) (by assumption) ?_
            rotate_left
            · intro z hSz
              obtain ⟨c0, c1, c2, c3, c4, c5, c6, c7⟩ := hSz
              try simp only [hRC] at c7
              go_simp
              try with_reducible rfl
        try simp only [Act.put, List.setIfInBounds_toArray, List.set_cons_zero, List.set_cons_succ, List.getElem_toArray, List.getElem_cons_succ, List.getElem_cons_zero]
        first
          | refine wpAnyH_take (i := 11) (v := undef) rfl (by kernel_rfl) (by kernel_rfl) (by kernel_rfl) (fun _ _ _ h => h) (Or.inr ⟨by rfl, rfl⟩) (by assumption) ?_
          | refine wpAnyH_take (i := 11) (v := ?_) rfl (by kernel_rfl) (by kernel_rfl) (by kernel_rfl) (fun _ _ _ h => h) (Or.inl ⟨by rfl, ?_⟩) (by assumption) ?_
            rotate_left
            · intro z hSz
              obtain ⟨c0, c1, c2, c3, c4, c5, c6, c7⟩ := hSz
              try simp only [hRC] at c7
              go_simp
              try with_reducible rfl
        try simp only [Act.put, List.setIfInBounds_toArray, List.set_cons_zero, List.set_cons_succ, List.getElem_toArray, List.getElem_cons_succ, List.getElem_cons_zero]
        first
          | refine wpAnyH_take (i := 12) (v := undef) rfl (by kernel_rfl) (by kernel_rfl) (by kernel_rfl) (fun _ _ _ h => h) (Or.inr ⟨by rfl, rfl⟩) (by assumption) ?_
          | refine wpAnyH_take (i := 12) (v := ?_) rfl (by kernel_rfl) (by kernel_rfl) (by kernel_rfl) (fun _ _ _ h => h) (Or.inl ⟨by rfl, ?_⟩) (by assumption) ?_
            rotate_left
            · intro z hSz
              obtain ⟨c0, c1, c2, c3, c4, c5, c6, c7⟩ := hSz
              try simp only [hRC] at c7
              go_simp
              try with_reducible rfl
        try simp only [Act.put, List.setIfInBounds_toArray, List.set_cons_zero, List.set_cons_succ, List.getElem_toArray, List.getElem_cons_succ, List.getElem_cons_zero]
        first
          | refine wpAnyH_take (i := 13) (v := undef) rfl (by kernel_rfl) (by kernel_rfl) (by kernel_rfl) (fun _ _ _ h => h) (Or.inr ⟨by rfl, rfl⟩) (by assumption) ?_
          | refine wpAnyH_take (i := 13) (v := ?_) rfl (by kernel_rfl) (by kernel_rfl) (by kernel_rfl) (fun _ _ _ h => h) (Or.inl ⟨by rfl, ?_⟩) (by assumption) ?_
            rotate_left
            · intro z hSz
              obtain ⟨c0, c1, c2, c3, c4, c5, c6, c7⟩ := hSz
              try simp only [hRC] at c7
              go_simp
              try with_reducible rfl
        try simp only [Act.put, List.setIfInBounds_toArray, List.set_cons_zero, List.set_cons_succ, List.getElem_toArray, List.getElem_cons_succ, List.getElem_cons_zero]
        first
          | refine wpAnyH_take (i := 14) (v := undef) rfl (by kernel_rfl) (by kernel_rfl) (by kernel_rfl) (fun _ _ _ h => h) (Or.inr ⟨by rfl, rfl⟩) (by assumption) ?_
          | refine wpAnyH_take (i := 14) (v := ?_) rfl (by kernel_rfl) (by kernel_rfl) (by kernel_rfl) (fun _ _ _ h => h) (Or.inl ⟨by rfl, ?_⟩) (by assumption) ?_
            rotate_left
            · intro z hSz
              obtain ⟨c0, c1, c2, c3, c4, c5, c6, c7⟩ := hSz
              try simp only [hRC] at c7
              go_simp
              try with_reducible rfl
        try simp only [Act.put, List.setIfInBounds_toArray, List.set_cons_zero, List.set_cons_succ, List.getElem_toArray, List.getElem_cons_succ, List.getElem_cons_zero]
        first
          | refine wpAnyH_take (i := 15) (v := undef) rfl (by kernel_rfl) (by kernel_rfl) (by kernel_rfl) (fun _ _ _ h => h) (Or.inr ⟨by rfl, rfl⟩) (by assumption) ?_
          | refine wpAnyH_take (i := 15) (v := ?_) rfl (by kernel_rfl) (by kernel_rfl) (by kernel_rfl) (fun _ _ _ h => h) (Or.inl ⟨by rfl, ?_⟩) (by assumption) ?_
            rotate_left
            · intro z hSz
              obtain ⟨c0, c1, c2, c3, c4, c5, c6, c7⟩ := hSz
              try simp only [hRC] at c7
              go_simp
              try with_reducible rfl
        try simp only [Act.put, List.setIfInBounds_toArray, List.set_cons_zero, List.set_cons_succ, List.getElem_toArray, List.getElem_cons_succ, List.getElem_cons_zero]
        first
          | refine wpAnyH_take (i := 16) (v := undef) rfl (by kernel_rfl) (by kernel_rfl) (by kernel_rfl) (fun _ _ _ h => h) (Or.inr ⟨by rfl, rfl⟩) (by assumption) ?_
          | refine wpAnyH_take (i := 16) (v := ?_) rfl (by kernel_rfl) (by kernel_rfl) (by kernel_rfl) (fun _ _ _ h => h) (Or.inl ⟨by rfl, ?_⟩) (by assumption) ?_
            rotate_left
            · intro z hSz
              obtain ⟨c0, c1, c2, c3, c4, c5, c6, c7⟩ := hSz
              try simp only [hRC] at c7
              go_simp
              try with_reducible rfl
        try simp only [Act.put, List.setIfInBounds_toArray, List.set_cons_zero, List.set_cons_succ, List.getElem_toArray, List.getElem_cons_succ, List.getElem_cons_zero]
        first
          | refine wpAnyH_take (i := 17) (v := undef) rfl (by kernel_rfl) (by kernel_rfl) (by kernel_rfl) (fun _ _ _ h => h) (Or.inr ⟨by rfl, rfl⟩) (by assumption) ?_
          | refine wpAnyH_take (i := 17) (v := ?_) rfl (by kernel_rfl) (by kernel_rfl) (by kernel_rfl) (fun _ _ _ h => h) (Or.inl ⟨by rfl, ?_⟩) (by assumption) ?_
            rotate_left
            · intro z hSz
              obtain ⟨c0, c1, c2, c3, c4, c5, c6, c7⟩ := hSz
              try simp only [hRC] at c7
              go_simp
              try with_reducible rfl
        try simp only [Act.put, List.setIfInBounds_toArray, List.set_cons_zero, List.set_cons_succ, List.getElem_toArray, List.getElem_cons_succ, List.getElem_cons_zero]
        refine wpAnyH_take (i := 18) (v := ?_) rfl (by kernel_rfl) (by kernel_rfl) (by kernel_rfl) (fun _ _ _ h => h) (Or.inl ⟨by rfl, ?_⟩) (by assumption) ?_
        rotate_left
        · intro z hSz
          obtain ⟨c0, c1, c2, c3, c4, c5, c6, c7⟩ := hSz
          try simp only [hRC] at c7
          go_simp
          try with_reducible rfl
        try simp only [Act.put, List.setIfInBounds_toArray, List.set_cons_zero, List.set_cons_succ, List.getElem_toArray, List.getElem_cons_succ, List.getElem_cons_zero]
        have HYz := HYw5
        refine wpAnyH_done (by kernel_rfl) ?_ _
        clear hHeld
        have HXz := Lib.hid (HXy.out.below HYz.out)
        have HBz := Lib.hid (HBy.out.trans (HYz.out.mono HBy.out.size))
        first
          | have HGG := HG.out
            go_wp2
            go_roundg gg
            case measure => omega
            case rel => exact ⟨k + 1, by omega, by simp, fun i hi => by
              rcases (by omega : i < k ∨ i = k) with h | rfl
              · exact HGr.out i h
              · exact HG.out, ⟨HBz.out, HXz.out⟩⟩
          | go_wp2
            go_ret
            exact ⟨by rw [HE.out]; rfl, HBz.out⟩
end Bo
end Go.Proofs.YthbmnkeigmbbdaaGreat
