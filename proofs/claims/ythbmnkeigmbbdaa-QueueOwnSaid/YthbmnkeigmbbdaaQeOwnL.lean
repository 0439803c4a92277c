/-
  gafferlaw11.QueueOwn.
-/
import Derived.Test.YthbmnkeigmbbdaaQeEach
import Derived.Test.YthbmnkeigmbbdaaQeSp
import Derived.Test.YthbmnkeigmbbdaaBgP
import Derived.Test.YthbmnkeigmbbdaaBoSame
namespace Go.Proofs.Ythbmnkeigmbbdaa
open Go.RowKit Go.Lib
namespace Bo
open Rw
set_option linter.unusedVariables false
theorem CpyB.books {b : Bk} {w w' : World} {B : Nat} {vn vt vb : Value} {e : Ending} (hB : Books w B vn vt vb b) (h : CpyB b w e w') : ∃ ka kc ma mc na nc, e = .returned (.agg #[.slice ka (b).ns.length kc, .slice ma (b).ts.length mc, .slice na (b).bs.length nc, .int .u64 ((b).fe : Nat)]) ∧ Books w' w'.heap.size (.slice ka (b).ns.length kc) (.slice ma (b).ts.length mc) (.slice na (b).bs.length nc) b ∧ Below w.heap.size w w' := by
  obtain ⟨v1, v2, v3, mn, mt, he, hn, ht, ho, hb⟩ := h
  have hk := cpy_books hB ho hn ht
  obtain ⟨⟨ka, kc, rfl⟩, ⟨ma, mc, rfl⟩, ⟨na, nc, rfl⟩⟩ := And.intro hk.hn.slice (And.intro hk.ht.slice hk.hb.slice)
  exact ⟨ka, kc, ma, mc, na, nc, he, hk, hb⟩
set_option maxRecDepth 100000 in
set_option maxHeartbeats 4000000 in
theorem ownl_law (b : Bk) (vb0 : Value) (w : World) (hb : BookArg w vb0 b) : Calls Try.prog 5 #[vb0] w fun e w' => e = .returned (.bool true) ∧ Below w.heap.size w w' := by
  obtain ⟨vn, vt, vb, rfl, hB⟩ := hb
  obtain ⟨⟨a0, c0, rfl⟩, ⟨b0, d0, rfl⟩, ⟨e0, f0, rfl⟩⟩ := And.intro hB.hn.slice (And.intro hB.ht.slice hB.hb.slice)
  obtain ⟨W0, hW0⟩ : ∃ W0, W0 = w.alloc (.cells #[.slice a0 (b).ns.length c0, .slice b0 (b).ts.length d0, .slice e0 (b).bs.length f0, .int .u64 ((b).fe : Nat)] 27) := ⟨_, rfl⟩
  have hb0 : Below w.heap.size w W0 := by rw [hW0]; exact al w _
  have hx0 : Hd.Bxn W0 w.heap.size [.slice a0 (b).ns.length c0, .slice b0 (b).ts.length d0, .slice e0 (b).bs.length f0, .int .u64 ((b).fe : Nat)] := by rw [hW0]; exact Hd.Bxn.made w _ _
  have HL : Hid (Calls Try.prog 6 #[] W0 fun e w' => e = .returned (.bool true) ∧ Below W0.heap.size W0 w') := livesQ_any W0
  have HBK : Hid (∀ z, Below w.heap.size w z → Books z z.heap.size (.slice a0 (b).ns.length c0) (.slice b0 (b).ts.length d0) (.slice e0 (b).bs.length f0) (b)) := fun z hz => hB.on hz
  have HW := Lib.hid hW0
  have HX0 := Lib.hid hx0
  have HB0 := Lib.hid hb0
  clear hW0 hb0 hx0 hB
  have HFT : Hid (∀ t ∈ b.ts, FitT t) := by
    obtain ⟨m, hm, -, h2, -⟩ := (HBK.out w (Below.refl _ _)).ht
    intro t ht
    rw [hm] at ht
    obtain ⟨y, hy, rfl⟩ := List.mem_map.1 ht
    exact (h2 y hy).2
  have HFN : Hid (∀ t ∈ b.ns, FitN t) := by
    obtain ⟨m, hm, -, h2, -⟩ := (HBK.out w (Below.refl _ _)).hn
    intro t ht
    rw [hm] at ht
    obtain ⟨y, hy, rfl⟩ := List.mem_map.1 ht
    exact (h2 y hy).2
  have HNS : Hid (b.ns.length ≤ 4398046511104) := by obtain ⟨m, hm, -, -, hl⟩ := (HBK.out w (Below.refl _ _)).hn; show _ ≤ _; omega
  have HTS : Hid (b.ts.length ≤ 4398046511104) := by obtain ⟨m, hm, -, -, hl⟩ := (HBK.out w (Below.refl _ _)).ht; show _ ≤ _; omega
  have HCP : Hid (∀ z, Below w.heap.size w z → Calls Try.prog 11 #[.agg #[.slice a0 (b).ns.length c0, .slice b0 (b).ts.length d0, .slice e0 (b).bs.length f0, .int .u64 ((b).fe : Nat)]] z fun e w' => ∃ ka kc ma mc na nc, e = .returned (.agg #[.slice ka (b).ns.length kc, .slice ma (b).ts.length mc, .slice na (b).bs.length nc, .int .u64 ((b).fe : Nat)]) ∧ Books w' w'.heap.size (.slice ka (b).ns.length kc) (.slice ma (b).ts.length mc) (.slice na (b).bs.length nc) b ∧ Below z.heap.size z w') := fun z hz => (copy_bk b _ _ _ z (HBK.out z hz)).mono fun e w' h => CpyB.books (HBK.out z hz) h
  go_enter Try.func5, Try.ntmps5
  go_upto_region 1 with fail
  rw [← HW.out]
  go_wp2_with fail
  refine HL.out.mono ?_
  rintro e w1 ⟨rfl, hb⟩
  have HX1 := Lib.hid (HX0.out.below hb)
  have HB1 : Hid (Below w.heap.size w w1) := HB0.out.trans (hb.mono HB0.out.size)
  clear hb HX0 HB0 HL HW
  have y0 : w1.cell? ⟨w.heap.size, 0, none⟩ = some (.slice a0 (b).ns.length c0) := HX1.out.cell 0
  have y1 : w1.cell? ⟨w.heap.size, 1, none⟩ = some (.slice b0 (b).ts.length d0) := HX1.out.cell 1
  have y2 : w1.cell? ⟨w.heap.size, 2, none⟩ = some (.slice e0 (b).bs.length f0) := HX1.out.cell 2
  have y3 : w1.cell? ⟨w.heap.size, 3, none⟩ = some (.int .u64 ((b).fe : Nat)) := HX1.out.cell 3
  go_wp2_with fail
  refine (HCP.out w1 HB1.out).mono ?_
  rintro e w2 ⟨ka, kc, ma, mc, na, nc, rfl, hkb, hb⟩
  have HX12 := Lib.hid (HX1.out.below hb)
  have HB2 : Hid (Below w.heap.size w w2) := HB1.out.trans (hb.mono HB1.out.size)
  have HKB := Lib.hid hkb
  have HX2 := HX12
  clear hkb HX12
  clear hb y0 y1 y2 y3
  obtain ⟨w3, hw3⟩ : ∃ w3, w3 = w2.alloc (.cells #[.slice ka (b).ns.length kc, .slice ma (b).ts.length mc, .slice na (b).bs.length nc, .int .u64 ((b).fe : Nat)] 27) := ⟨_, rfl⟩
  have HU : Hid (Below w2.heap.size w2 w3) := by rw [hw3]; exact al _ _
  have HKX : Hid (Hd.Bxn w3 w2.heap.size [.slice ka (b).ns.length kc, .slice ma (b).ts.length mc, .slice na (b).bs.length nc, .int .u64 ((b).fe : Nat)]) := by rw [hw3]; exact Hd.Bxn.made w2 _ _
  have HWY := Lib.hid hw3
  clear hw3
  go_upto_region 4 with fail
  rw [← HWY.out]
  have HKK := Lib.hid (HKB.out.on HU.out)
  have HX3 := Lib.hid (HX2.out.below HU.out)
  have HB3 : Hid (Below w.heap.size w w3) := HB2.out.trans (HU.out.mono HB2.out.size)
  clear HWY HU HX2 HB2 HKB HX1 HB1 HCP
  have HWQ := Lib.hid (waitq_any b _ _ _ w3 (HBK.out w3 HB3.out))
  have y0 : w3.cell? ⟨w.heap.size, 0, none⟩ = some (.slice a0 (b).ns.length c0) := HX3.out.cell 0
  have y1 : w3.cell? ⟨w.heap.size, 1, none⟩ = some (.slice b0 (b).ts.length d0) := HX3.out.cell 1
  have y2 : w3.cell? ⟨w.heap.size, 2, none⟩ = some (.slice e0 (b).bs.length f0) := HX3.out.cell 2
  have y3 : w3.cell? ⟨w.heap.size, 3, none⟩ = some (.int .u64 ((b).fe : Nat)) := HX3.out.cell 3
  go_wp2_with fail
  refine HWQ.out.mono ?_
  rintro e w4 ⟨vA, m, rfl, ho, hm, hd, hb⟩
  have HU3 : Hid (Below w3.heap.size w3 w4) := hb
  have hfm : ∀ x ∈ m, FitT x.td := fun x hx => by
    refine HFT.out x.td ?_
    have h1 : x.td ∈ m.map (·.td) := List.mem_map_of_mem hx
    rw [hm] at h1
    cases hc : chkB b
    · rw [hc, if_neg (by decide)] at h1; cases h1
    · rw [hc, if_pos rfl] at h1
      exact ((wt_mem (rb_of_chk hc)).1 h1).1
  have hml : m.length ≤ 4398046511104 := by
    have h2 := congrArg List.length hm
    rw [List.length_map] at h2
    cases hc : chkB b
    · rw [hc, if_neg (by decide), List.length_nil] at h2; omega
    · rw [hc, if_pos rfl] at h2
      have h3 := wt_len (rb_of_chk hc)
      have := HTS.out
      omega
  obtain ⟨gA, cA, hv, hsp⟩ := Sp.start (⟨Hd.td0, none, 0, none, 0⟩ : TdM) (fun y => y.a4) (fun y => y.td.ws) (fun y => y.c4) 4 ho (fun y hy => ⟨rfl, (hd y hy).1⟩)
  have hsb : ∀ i, i < m.length → ((m.getD i ⟨Hd.td0, none, 0, none, 0⟩).td.ws).length ≤ 4398046511104 := fun i hi => by
    have h1 : m.getD i ⟨Hd.td0, none, 0, none, 0⟩ = m[i] := by simp [List.getD, List.getElem?_eq_getElem hi]
    rw [h1]
    have h2 := (hfm m[i] (List.getElem_mem _)).2.2.1.1
    omega
  obtain ⟨aA, dA, rfl⟩ := ho.slice
  generalize m.length = nA at *
  obtain ⟨saA, hsa⟩ : ∃ f : Nat → Option Addr, f = fun i => (m.getD i ⟨Hd.td0, none, 0, none, 0⟩).a4 := ⟨_, rfl⟩
  obtain ⟨slA, hsl0⟩ : ∃ f : Nat → Nat, f = fun i => ((m.getD i ⟨Hd.td0, none, 0, none, 0⟩).td.ws).length := ⟨_, rfl⟩
  obtain ⟨scA, hsc⟩ : ∃ f : Nat → Nat, f = fun i => (m.getD i ⟨Hd.td0, none, 0, none, 0⟩).c4 := ⟨_, rfl⟩
  rw [← hsa, ← hsl0, ← hsc] at hsp
  have HSLA : Hid (∀ i, i < nA → slA i ≤ 4398046511104) := by rw [hsl0]; exact hsb
  have HSPA : Hid (Sp w4 w3.heap.size 36 9 4 nA saA slA scA gA w4) := hsp
  have HVA := Lib.hid hv
  have HLA := Lib.hid hml
  clear hsp hv hml hsb hfm hsa hsl0 hsc ho hm hd hb y0 y1 y2 y3 HWQ
  go_wp2
  go_loopg [23] nA (fun gg i wx => ∃ k : Nat, k + gg = nA ∧ i = .int .i64 k ∧ Aside (Sp w4 w3.heap.size 36 9 4 nA saA slA scA gA wx))
  case atStart => exact ⟨0, by omega, rfl, HSPA.out⟩
  case round =>
    obtain ⟨k, hkg, rfl, HS⟩ := hrel
    obtain ⟨zA, rfl⟩ : ∃ q, q = wr := ⟨wr, rfl⟩
    have HS1 : Hid (Sp w4 w3.heap.size 36 9 4 nA saA slA scA gA zA) := HS.out
    clear HS
    cases gk with
    | succ go =>
      have hlk : k < nA := by omega
      have t2 : (k : Int) < (nA : Int) := by omega
      have t3 : IntKind.i64.wrap ((k : Int) + 1) = (k : Int) + 1 := by rw [IntKind.wrap_i64]; have := HLA.out; omega
      have t4 : (0 : Int) ≤ (k : Int) := by omega
      obtain ⟨rfl, rfl⟩ := slice_inj (HVA.out (by omega))
      obtain ⟨r1, r2⟩ := HS1.out.rn (by omega)
      obtain ⟨u0, hu0⟩ := r1.cell (k * 9) (by omega)
      have hf0 := r1.fz (k * 9)
      have hsl := HS1.out.lb k hlk
      have hsl2 : (zA.setCell ⟨gA, k * 9, none⟩ (.string ⟨#[115, 112, 111, 105, 108, 116]⟩)).cell? ⟨gA, k * 9 + 4, none⟩ = some (.slice (saA k) (slA k) (scA k)) := (HS1.out.name (by omega) (by omega) k hlk (.string ⟨#[115, 112, 111, 105, 108, 116]⟩)).lb k hlk
      have HS2 := Lib.hid (HS1.out.name (by omega) (by omega) k hlk (.string ⟨#[115, 112, 111, 105, 108, 116]⟩))
      have HKG := Lib.hid hkg
      have HLK := Lib.hid hlk
      clear r1 r2 hkg hsl
      go_wp2
      clear hu0 hf0 hsl2
      go_loopg [36] (slA k) (fun gi i wx => ∃ q : Nat, q + gi = slA k ∧ i = .int .i64 q ∧ Aside (Sp w4 w3.heap.size 36 9 4 nA saA slA scA gA wx))
      case atStart => exact ⟨0, by omega, rfl, HS2.out⟩
      case round =>
        obtain ⟨q, hqg, rfl, HS⟩ := hrel
        obtain ⟨yA, rfl⟩ : ∃ q, q = wr := ⟨wr, rfl⟩
        have HS3 : Hid (Sp w4 w3.heap.size 36 9 4 nA saA slA scA gA yA) := HS.out
        clear HS
        cases gk with
        | zero =>
          obtain rfl : q = slA k := by omega
          clear hqg HS2 HS1
          go_wp2
          go_roundg go
          case measure => omega
          case rel => exact ⟨k + 1, by have := HKG.out; omega, by simp, HS3.out⟩
        | succ gi =>
          have hlq : q < slA k := by omega
          have v2 : (q : Int) < (slA k : Int) := by omega
          have v3 : IntKind.i64.wrap ((q : Int) + 1) = (q : Int) + 1 := by rw [IntKind.wrap_i64]; have := HSLA.out k HLK.out; omega
          have v4 : (0 : Int) ≤ (q : Int) := by omega
          obtain ⟨gp, hgp⟩ := HS3.out.ra k HLK.out (by omega)
          obtain ⟨q1, q2⟩ := HS3.out.rp k HLK.out gp hgp (by omega)
          obtain ⟨u1, hu1⟩ := q1.cell (q * 2) (by omega)
          have hf1 := q1.fz (q * 2)
          have hsl : yA.cell? ⟨gA, k * 9 + 4, none⟩ = some (.slice (some ⟨gp, 0, none⟩) (slA k) (scA k)) := by have := HS3.out.lb k HLK.out; rw [hgp] at this; exact this
          have HS4 := Lib.hid (HS3.out.key (by decide) k HLK.out gp hgp (by omega) (q * 2) (.string ⟨#[115, 112, 111, 105, 108, 116]⟩))
          have HQG := Lib.hid hqg
          clear q1 q2 hqg hgp HS1 HS2 HS3
          go_wp2
          go_roundg gi
          case measure => omega
          case rel => exact ⟨q + 1, by have := HQG.out; omega, by simp, HS4.out⟩
    | zero =>
      obtain rfl : k = nA := by omega
      have HBS : Hid (Below w3.heap.size w4 zA) := HS1.out.be
      clear HS1 hkg
      have HU4 : Hid (Below w3.heap.size w3 zA) := HU3.out.trans (HBS.out.mono (Nat.le_refl _))
      have HWZ : Hid (Below w.heap.size w zA) := HB3.out.trans (HU4.out.mono HB3.out.size)
      have HXZ := Lib.hid (HX3.out.below HU4.out)
      have HLD := Lib.hid (loads_any b _ _ _ zA (HBK.out zA HWZ.out))
      clear HBS
      have y0 : zA.cell? ⟨w.heap.size, 0, none⟩ = some (.slice a0 (b).ns.length c0) := HXZ.out.cell 0
      have y1 : zA.cell? ⟨w.heap.size, 1, none⟩ = some (.slice b0 (b).ts.length d0) := HXZ.out.cell 1
      have y2 : zA.cell? ⟨w.heap.size, 2, none⟩ = some (.slice e0 (b).bs.length f0) := HXZ.out.cell 2
      have y3 : zA.cell? ⟨w.heap.size, 3, none⟩ = some (.int .u64 ((b).fe : Nat)) := HXZ.out.cell 3
      go_wp2_with fail
      refine HLD.out.mono ?_
      rintro e w5 ⟨vB, l, rfl, ho, hm, hd, hb⟩
      have HU5 : Hid (Below w3.heap.size w3 w5) := HU4.out.trans (hb.mono HU4.out.size)
      have hfn : ∀ x ∈ l, FitN x.nd := fun x hx => by
        refine HFN.out x.nd ?_
        have h1 : x.nd ∈ l.map (·.nd) := List.mem_map_of_mem hx
        rw [hm] at h1
        split at h1
        · exact h1
        · cases h1
      have hll : (l.map (mkL b)).length ≤ 4398046511104 := by
        have h1 : l.length ≤ b.ns.length := by
          have h2 := congrArg List.length hm
          rw [List.length_map] at h2
          split at h2
          · omega
          · rw [List.length_nil] at h2; omega
        rw [List.length_map]
        have := HNS.out
        omega
      obtain ⟨gB, cB, hv, hsp⟩ := Sp.start (⟨⟨Hd.nd0, none, 0, none, 0⟩, 0, 0, 0⟩ : LdM) (fun y => y.x.a2) (fun y => y.x.nd.ls) (fun y => y.x.c2) 4 ho (fun y hy => by
        obtain ⟨x, hx, rfl⟩ := List.mem_map.1 hy
        exact ⟨rfl, (hd x hx).1⟩)
      have hsb : ∀ i, i < (l.map (mkL b)).length → (((l.map (mkL b)).getD i ⟨⟨Hd.nd0, none, 0, none, 0⟩, 0, 0, 0⟩).x.nd.ls).length ≤ 4398046511104 := fun i hi => by
        have h1 : (l.map (mkL b)).getD i ⟨⟨Hd.nd0, none, 0, none, 0⟩, 0, 0, 0⟩ = (l.map (mkL b))[i] := by simp [List.getD, List.getElem?_eq_getElem hi]
        rw [h1, List.getElem_map]
        have h2 := (hfn (l[i]'(by simpa using hi)) (List.getElem_mem _)).2.2.1.1
        show (l[i]'(by simpa using hi)).nd.ls.length ≤ _
        omega
      obtain ⟨aB, dB, rfl⟩ := ho.slice
      generalize (l.map (mkL b)).length = nB at *
      obtain ⟨saB, hsa⟩ : ∃ f : Nat → Option Addr, f = fun i => ((l.map (mkL b)).getD i ⟨⟨Hd.nd0, none, 0, none, 0⟩, 0, 0, 0⟩).x.a2 := ⟨_, rfl⟩
      obtain ⟨slB, hsl0⟩ : ∃ f : Nat → Nat, f = fun i => (((l.map (mkL b)).getD i ⟨⟨Hd.nd0, none, 0, none, 0⟩, 0, 0, 0⟩).x.nd.ls).length := ⟨_, rfl⟩
      obtain ⟨scB, hsc⟩ : ∃ f : Nat → Nat, f = fun i => ((l.map (mkL b)).getD i ⟨⟨Hd.nd0, none, 0, none, 0⟩, 0, 0, 0⟩).x.c2 := ⟨_, rfl⟩
      rw [← hsa, ← hsl0, ← hsc] at hsp
      have HSLB : Hid (∀ i, i < nB → slB i ≤ 4398046511104) := by rw [hsl0]; exact hsb
      have HSPB : Hid (Sp w5 zA.heap.size 46 9 4 nB saB slB scB gB w5) := hsp
      have HVB := Lib.hid hv
      have HLB := Lib.hid hll
      clear hsp hv hll hsb hfn hsa hsl0 hsc ho hm hd hb y0 y1 y2 y3 HLD HXZ
      generalize (if chkB b = true then b.ns else []) = nsx at *
      go_wp2
      go_loopg [56] nB (fun gg i wx => ∃ k : Nat, k + gg = nB ∧ i = .int .i64 k ∧ Aside (Sp w5 zA.heap.size 46 9 4 nB saB slB scB gB wx))
      case atStart => exact ⟨0, by omega, rfl, HSPB.out⟩
      case round =>
        obtain ⟨k, hkg, rfl, HS⟩ := hrel
        obtain ⟨zB, rfl⟩ : ∃ q, q = wr := ⟨wr, rfl⟩
        have HS1 : Hid (Sp w5 zA.heap.size 46 9 4 nB saB slB scB gB zB) := HS.out
        clear HS
        cases gk with
        | succ go =>
          have hlk : k < nB := by omega
          have t2 : (k : Int) < (nB : Int) := by omega
          have t3 : IntKind.i64.wrap ((k : Int) + 1) = (k : Int) + 1 := by rw [IntKind.wrap_i64]; have := HLB.out; omega
          have t4 : (0 : Int) ≤ (k : Int) := by omega
          obtain ⟨rfl, rfl⟩ := slice_inj (HVB.out (by omega))
          have hsl := HS1.out.lb k hlk
          have HKG := Lib.hid hkg
          have HLK := Lib.hid hlk
          have HS2 := HS1
          clear hkg
          go_wp2
          clear hsl
          go_loopg [66] (slB k) (fun gi i wx => ∃ q : Nat, q + gi = slB k ∧ i = .int .i64 q ∧ Aside (Sp w5 zA.heap.size 46 9 4 nB saB slB scB gB wx))
          case atStart => exact ⟨0, by omega, rfl, HS2.out⟩
          case round =>
            obtain ⟨q, hqg, rfl, HS⟩ := hrel
            obtain ⟨yB, rfl⟩ : ∃ q, q = wr := ⟨wr, rfl⟩
            have HS3 : Hid (Sp w5 zA.heap.size 46 9 4 nB saB slB scB gB yB) := HS.out
            clear HS
            cases gk with
            | zero =>
              obtain rfl : q = slB k := by omega
              clear hqg HS2 HS1
              go_wp2
              go_roundg go
              case measure => omega
              case rel => exact ⟨k + 1, by have := HKG.out; omega, by simp, HS3.out⟩
            | succ gi =>
              have hlq : q < slB k := by omega
              have v2 : (q : Int) < (slB k : Int) := by omega
              have v3 : IntKind.i64.wrap ((q : Int) + 1) = (q : Int) + 1 := by rw [IntKind.wrap_i64]; have := HSLB.out k HLK.out; omega
              have v4 : (0 : Int) ≤ (q : Int) := by omega
              obtain ⟨gp, hgp⟩ := HS3.out.ra k HLK.out (by omega)
              obtain ⟨q1, q2⟩ := HS3.out.rp k HLK.out gp hgp (by omega)
              obtain ⟨u1, hu1⟩ := q1.cell (q * 2) (by omega)
              have hf1 := q1.fz (q * 2)
              have hsl : yB.cell? ⟨gB, k * 9 + 4, none⟩ = some (.slice (some ⟨gp, 0, none⟩) (slB k) (scB k)) := by have := HS3.out.lb k HLK.out; rw [hgp] at this; exact this
              have HS4 := Lib.hid (HS3.out.key (by decide) k HLK.out gp hgp (by omega) (q * 2) (.string ⟨#[115, 112, 111, 105, 108, 116]⟩))
              have HQG := Lib.hid hqg
              clear q1 q2 hqg hgp HS1 HS2 HS3
              go_wp2
              go_roundg gi
              case measure => omega
              case rel => exact ⟨q + 1, by have := HQG.out; omega, by simp, HS4.out⟩
        | zero =>
          obtain rfl : k = nB := by omega
          have HBS : Hid (Below zA.heap.size w5 zB) := HS1.out.be
          clear HS1 hkg
          have HBF : Hid (Below w3.heap.size w3 zB) := HU5.out.trans (HBS.out.mono HU4.out.size)
          have HWF : Hid (Below w.heap.size w zB) := HB3.out.trans (HBF.out.mono HB3.out.size)
          have HXF := Lib.hid (HX3.out.below HBF.out)
          have HKF := Lib.hid (HKX.out.below HBF.out)
          have HSM : Hid (Calls Try.prog 12 #[.agg #[.slice a0 (b).ns.length c0, .slice b0 (b).ts.length d0, .slice e0 (b).bs.length f0, .int .u64 ((b).fe : Nat)], .agg #[.slice ka (b).ns.length kc, .slice ma (b).ts.length mc, .slice na (b).bs.length nc, .int .u64 ((b).fe : Nat)]] zB fun e w' => e = .returned (.bool true) ∧ Below zB.heap.size zB w') := same_true b _ _ _ _ _ _ zB (HBK.out zB HWF.out) (HKK.out.on HBF.out)
          have y0 : zB.cell? ⟨w.heap.size, 0, none⟩ = some (.slice a0 (b).ns.length c0) := HXF.out.cell 0
          have y1 : zB.cell? ⟨w.heap.size, 1, none⟩ = some (.slice b0 (b).ts.length d0) := HXF.out.cell 1
          have y2 : zB.cell? ⟨w.heap.size, 2, none⟩ = some (.slice e0 (b).bs.length f0) := HXF.out.cell 2
          have y3 : zB.cell? ⟨w.heap.size, 3, none⟩ = some (.int .u64 ((b).fe : Nat)) := HXF.out.cell 3
          have k0 : zB.cell? ⟨w2.heap.size, 0, none⟩ = some (.slice ka (b).ns.length kc) := HKF.out.cell 0
          have k1 : zB.cell? ⟨w2.heap.size, 1, none⟩ = some (.slice ma (b).ts.length mc) := HKF.out.cell 1
          have k2 : zB.cell? ⟨w2.heap.size, 2, none⟩ = some (.slice na (b).bs.length nc) := HKF.out.cell 2
          have k3 : zB.cell? ⟨w2.heap.size, 3, none⟩ = some (.int .u64 ((b).fe : Nat)) := HKF.out.cell 3
          go_wp2_with fail
          refine HSM.out.mono ?_
          rintro e w9 ⟨rfl, hb⟩
          have HE : Hid (Below w.heap.size w w9) := HWF.out.trans (hb.mono HWF.out.size)
          clear hb y0 y1 y2 y3 k0 k1 k2 k3
          go_wp2
          go_ret
          exact ⟨rfl, HE.out⟩
end Bo
end Go.Proofs.Ythbmnkeigmbbdaa
