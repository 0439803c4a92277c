/-
  Merged: BoAddN, BoAddT, BoDrpN, BoDrpT, BoFree.
-/
import Derived.Test.YthbmnkeigmbbdaaGreatBgB
import Derived.Deep.RegionWith
import Derived.Deep.RegionHeld3
/-
  NODES: book.addNode.
-/
namespace Go.Proofs.YthbmnkeigmbbdaaGreat
open Go.RowKit Go.Lib
namespace Bo
open Rw
set_option linter.unusedVariables false
set_option maxRecDepth 100000 in
set_option maxHeartbeats 4000000 in
theorem addn_n (b b' : Bk) (r P base : Nat) (vn vt vb : Value) (mn : List NdM) (mt : List TdM) (x : NdM) (w : World) (hs : St w P base b vn vt vb mn mt) (hf : Fine b) (hr : Ris (b.ns.map (·.n))) (hd : DeepN w w.heap.size x) (hfx : FitN x.nd) (hv : adN b x.nd = (b', r)) :
    Calls Tryz.prog 99 #[.pointer (some ⟨P, 0, none⟩), .agg #[.string x.nd.n, .int .i64 x.nd.z0, .int .i64 x.nd.z1, .int .i64 x.nd.z2, .slice x.a2 x.nd.ls.length x.c2, .slice x.a3 x.nd.ts.length x.c3]] w fun e w' => e = .returned (.int .i64 (r : Nat)) ∧ StE w' P base b' ∧ Chg P base w w' := by
  have hE : ∀ args z, (callFunc 62 args).run Tryz.prog z = .ok (.enter 62 args) z := enters_of Tryz.func62 (by kernel_rfl) rfl
  obtain ⟨W0, hW0⟩ : ∃ W0, W0 = w.alloc (.cells #[.string x.nd.n, .int .i64 x.nd.z0, .int .i64 x.nd.z1, .int .i64 x.nd.z2, .slice x.a2 x.nd.ls.length x.c2, .slice x.a3 x.nd.ts.length x.c3] 45) := ⟨_, rfl⟩
  have hb0 : Below w.heap.size w W0 := by rw [hW0]; exact al w _
  have hbx : Hd.Bxn W0 w.heap.size [.string x.nd.n, .int .i64 x.nd.z0, .int .i64 x.nd.z1, .int .i64 x.nd.z2, .slice x.a2 x.nd.ls.length x.c2, .slice x.a3 x.nd.ts.length x.c3] := by rw [hW0]; exact Hd.Bxn.made w [.string x.nd.n, .int .i64 x.nd.z0, .int .i64 x.nd.z1, .int .i64 x.nd.z2, .slice x.a2 x.nd.ls.length x.c2, .slice x.a3 x.nd.ts.length x.c3] 45
  have HCK : Hid (Calls Tryz.prog 61 #[.agg #[.string x.nd.n, .int .i64 x.nd.z0, .int .i64 x.nd.z1, .int .i64 x.nd.z2, .slice x.a2 x.nd.ls.length x.c2, .slice x.a3 x.nd.ts.length x.c3]] W0 fun e w' => e = .returned (.int .i64 (erN x.nd : Nat)) ∧ Below w.heap.size w w' ∧ Hd.Bxn w' w.heap.size [.string x.nd.n, .int .i64 x.nd.z0, .int .i64 x.nd.z1, .int .i64 x.nd.z2, .slice x.a2 x.nd.ls.length x.c2, .slice x.a3 x.nd.ts.length x.c3]) := (chk_n x W0 (hd.on hb0) hfx).mono fun e w' ⟨he, hb⟩ => ⟨he, hb0.trans (hb.mono hb0.size), hbx.below hb⟩
  have HS := Lib.hid hs
  have HW := Lib.hid hW0
  have HV := Lib.hid hv
  have c0 : W0.cell? ⟨w.heap.size, 0, none⟩ = some (.string x.nd.n) := hbx.cell 0
  have HCN : Hid (∀ z, Hid (Below w.heap.size w z) → Calls Tryz.prog 91 #[.agg #[.string x.nd.n, .int .i64 x.nd.z0, .int .i64 x.nd.z1, .int .i64 x.nd.z2, .slice x.a2 x.nd.ls.length x.c2, .slice x.a3 x.nd.ts.length x.c3]] z fun e w' => ∃ y : NdM, y.nd = x.nd ∧ OwnN w' base y ∧ e = .returned (.agg #[.string y.nd.n, .int .i64 y.nd.z0, .int .i64 y.nd.z1, .int .i64 y.nd.z2, .slice y.a2 y.nd.ls.length y.c2, .slice y.a3 y.nd.ts.length y.c3]) ∧ Hid (Below w.heap.size w w') ∧ (∀ g cs, Hd.Bxn z g cs → Hd.Bxn w' g cs)) := fun z hz => by
    refine (cln_n x z (hd.on hz.out) hfx).mono ?_
    rintro e w' ⟨y, hy, ho, he, hb⟩
    exact ⟨y, hy, ho.le (Nat.le_trans hs.bw hz.out.size), he, hz.out.trans (hb.mono hz.out.size), fun g cs h => h.below hb⟩
  clear hbx hd hfx hW0
  by_cases her : erN x.nd = 0
  · have hv2 := hv
    unfold adN at hv2
    rw [if_pos her] at hv2
    rw [her] at HCK
    have HAD : Hid (∀ (y : NdM) z, y.nd = x.nd → OwnN z base y → Hid (Below w.heap.size w z) → Calls Tryz.prog 163 #[vn, .func (.func 62) #[] #[], .int .i64 16, .agg #[.string y.nd.n, .int .i64 y.nd.z0, .int .i64 y.nd.z1, .int .i64 y.nd.z2, .slice y.a2 y.nd.ls.length y.c2, .slice y.a3 y.nd.ts.length y.c3]] z fun e w' => ∃ a c m', e = .returned (.tuple #[.slice a m'.length c, .int .i64 (r : Nat)]) ∧ z.grownBy w' (vn).ownBlock ∧ Own w' base 45 (.slice a m'.length c) m' ∧ (∀ q ∈ m', OwnN z base q) ∧ b' = ⟨m'.map (·.nd), b.ts, b.bs, b.fe⟩) := fun y z hy ho hz => by
      have hown := (hs.ow.hn.keep hz.out)
      have hdn : ∀ q ∈ mn, OwnN z base q := fun q hq => (hs.ow.dn q hq).keep hz.out
      have hlen : mn.length = b.ns.length := by rw [hs.en, List.length_map]
      have hkey : mn.map (·.nd.n) = b.ns.map (·.n) := hs.kn
      have hl4 := hf.ln
      refine (add_n vn mn base 16 y z (Nat.le_trans hs.bw hz.out.size) hown (by rw [hkey]; exact hr) (by omega) (by omega)).mono ?_
      have hyk : y.nd.n = x.nd.n := by rw [hy]
      rintro e w' (⟨h1, he, hb⟩ | ⟨h1, h2, he, hb⟩ | ⟨h1, h2, v', he, ho', hg⟩)
      · rw [hkey, hyk] at h1
        rw [if_pos (show hsN b.ns x.nd.n = true from h1)] at hv2
        obtain ⟨rfl, rfl⟩ := Prod.mk.inj hv2
        have hk := hown.keep hb
        obtain ⟨a, c, hvs⟩ := hk.slice
        rw [hvs] at he hk
        exact ⟨a, c, mn, he, grown_of_below hb, hk, hdn, by rw [← hs.en]⟩
      · rw [hkey, hyk] at h1
        rw [if_neg (by rw [show hsN b.ns x.nd.n = false from h1]; decide), if_pos (by omega)] at hv2
        obtain ⟨rfl, rfl⟩ := Prod.mk.inj hv2
        have hk := hown.keep hb
        obtain ⟨a, c, hvs⟩ := hk.slice
        rw [hvs] at he hk
        exact ⟨a, c, mn, he, grown_of_below hb, hk, hdn, by rw [← hs.en]⟩
      · rw [hkey, hyk] at h1
        rw [if_neg (by rw [show hsN b.ns x.nd.n = false from h1]; decide), if_neg (by omega)] at hv2
        obtain ⟨rfl, rfl⟩ := Prod.mk.inj hv2
        obtain ⟨a, c, rfl⟩ := ho'.slice
        refine ⟨a, c, _, he, hg, ho', ?_, ?_⟩
        · intro q hq
          unfold insR at hq
          rcases List.mem_append.1 hq with h | h
          · exact hdn q (List.mem_of_mem_take h)
          · rcases List.mem_cons.1 h with rfl | h
            · exact ho
            · exact hdn q (List.mem_of_mem_drop h)
        · rw [insR_map, hkey, ← hs.en, hy]
          rfl
    have HB0 := Lib.hid hb0
    obtain ⟨an, cn, hvn⟩ := hs.ow.hn.slice
    obtain ⟨at', ct, hvt⟩ := hs.ow.ht.slice
    obtain ⟨ab, cb, hvb⟩ := hs.ow.hb.slice
    subst hvn hvt hvb
    clear hv hv2 her hf hr hb0 hs
    go_enter Tryz.func99, Tryz.ntmps99
    go_upto_region 1 with fail
    rw [← HW.out]
    have HXB : Hid (Hd.Bxn W0 w.heap.size [.string x.nd.n, .int .i64 x.nd.z0, .int .i64 x.nd.z1, .int .i64 x.nd.z2, .slice x.a2 x.nd.ls.length x.c2, .slice x.a3 x.nd.ts.length x.c3]) := by rw [HW.out]; exact Hd.Bxn.made w [.string x.nd.n, .int .i64 x.nd.z0, .int .i64 x.nd.z1, .int .i64 x.nd.z2, .slice x.a2 x.nd.ls.length x.c2, .slice x.a3 x.nd.ts.length x.c3] 45
    have b0 : W0.cell? ⟨w.heap.size, 0, none⟩ = some (.string x.nd.n) := HXB.out.cell 0; have b1 : W0.cell? ⟨w.heap.size, 1, none⟩ = some (.int .i64 x.nd.z0) := HXB.out.cell 1; have b2 : W0.cell? ⟨w.heap.size, 2, none⟩ = some (.int .i64 x.nd.z1) := HXB.out.cell 2; have b3 : W0.cell? ⟨w.heap.size, 3, none⟩ = some (.int .i64 x.nd.z2) := HXB.out.cell 3; have b4 : W0.cell? ⟨w.heap.size, 4, none⟩ = some (.slice x.a2 x.nd.ls.length x.c2) := HXB.out.cell 4; have b5 : W0.cell? ⟨w.heap.size, 5, none⟩ = some (.slice x.a3 x.nd.ts.length x.c3) := HXB.out.cell 5
    go_wp2_with fail
    refine HCK.out.mono ?_
    rintro e w1 ⟨rfl, hb, hbx⟩
    have H1 : Hid (Below w.heap.size w w1) := hb
    have HX1 := Lib.hid hbx
    have HS1 := Lib.hid (HS.out.keep hb)
    clear hb hbx b0 b1 b2 b3 b4 b5 HXB
    go_upto_region 5 with fail
    have H1d : Hid (Below w.heap.size w w1.drew) := ⟨H1.out.os, H1.out.tape, H1.out.output, H1.out.size, H1.out.block⟩
    have p0 : w1.cell? ⟨P, 0, none⟩ = some (.slice an mn.length cn) := HS1.out.bx.cell 0
    have g0 : w1.cell? ⟨w.heap.size, 0, none⟩ = some (.string x.nd.n) := HX1.out.cell 0; have g1 : w1.cell? ⟨w.heap.size, 1, none⟩ = some (.int .i64 x.nd.z0) := HX1.out.cell 1; have g2 : w1.cell? ⟨w.heap.size, 2, none⟩ = some (.int .i64 x.nd.z1) := HX1.out.cell 2; have g3 : w1.cell? ⟨w.heap.size, 3, none⟩ = some (.int .i64 x.nd.z2) := HX1.out.cell 3; have g4 : w1.cell? ⟨w.heap.size, 4, none⟩ = some (.slice x.a2 x.nd.ls.length x.c2) := HX1.out.cell 4; have g5 : w1.cell? ⟨w.heap.size, 5, none⟩ = some (.slice x.a3 x.nd.ts.length x.c3) := HX1.out.cell 5
    have hx1 : Hid (Hd.Bxn w1.drew w.heap.size [.string x.nd.n, .int .i64 x.nd.z0, .int .i64 x.nd.z1, .int .i64 x.nd.z2, .slice x.a2 x.nd.ls.length x.c2, .slice x.a3 x.nd.ts.length x.c3]) := HX1.out
    have hp1 : Hid (Hd.Bxn w1.drew P (bkC (.slice an mn.length cn) (.slice at' mt.length ct) (.slice ab b.bs.length cb) b)) := HS1.out.bx
    go_region_with (first
      | ((with_reducible refine (HCN.out _ ?_).mono ?_); (first | assumption | exact H1d); rintro e w7 ⟨y, hy, hoy, rfl, H7, hk7⟩; have HP7 := Lib.hid (hk7 _ _ hp1.out); have p7 : w7.cell? ⟨P, 0, none⟩ = some (.slice an mn.length cn) := HP7.out.cell 0; have HY := Lib.hid (And.intro hy hoy); clear hy hoy hk7)
      | ((with_reducible refine (HAD.out y _ HY.out.1 HY.out.2 H7).mono ?_); rintro e w8 ⟨a8, c8, m8, rfl, hg8, ho8, hd8, hb8⟩; have HG8 := Lib.hid (And.intro hg8 (And.intro ho8 (And.intro hd8 hb8))); have HP8 : Hid (Hd.Bxn w8 P (bkC (.slice an mn.length cn) (.slice at' mt.length ct) (.slice ab b.bs.length cb) b)) := (Chg.of_grown (P := w8.heap.size + 1) hg8 (Nat.le_trans HS.out.bw H7.out.size) (fun g e => .inl (HS.out.ow.hn.lt g e).1)).bxn HP7.out HS.out.pb (by have := HP7.out.lt; have := hg8.size; omega); have k0 := HP8.out.cell 0; have k1 := HP8.out.fz 0; simp only [bkC, List.getElem?_cons_zero] at k0; clear hg8 ho8 hd8 hb8))
    all_goals
      have HS7 := Lib.hid (HS.out.keep H7.out)
      have HF := Lib.hid (HS7.out.setN HG8.out.1 HG8.out.2.1 HG8.out.2.2.1)
      go_wp2
      go_ret
      refine ⟨rfl, ?_, (Chg.of_below H7.out HS.out.bw).trans HF.out.2⟩
      rw [HG8.out.2.2.2]
      exact ⟨_, _, _, _, _, HF.out.1⟩
  · have hv2 := hv
    unfold adN at hv2
    rw [if_neg her] at hv2
    obtain ⟨rfl, rfl⟩ := Prod.mk.inj hv2
    generalize erN x.nd = q at *
    have t0 : ((q : Int) == 0) = false := by simpa using her
    have t1 : ((q : Int) != 0) = true := by simpa using her
    have t2 : ¬ (q : Int) = 0 := by omega
    clear hv hv2 her hf hr hb0 hs HCN HV
    go_enter Tryz.func99, Tryz.ntmps99
    go_upto_region 1 with fail
    rw [← HW.out]
    have HXB : Hid (Hd.Bxn W0 w.heap.size [.string x.nd.n, .int .i64 x.nd.z0, .int .i64 x.nd.z1, .int .i64 x.nd.z2, .slice x.a2 x.nd.ls.length x.c2, .slice x.a3 x.nd.ts.length x.c3]) := by rw [HW.out]; exact Hd.Bxn.made w [.string x.nd.n, .int .i64 x.nd.z0, .int .i64 x.nd.z1, .int .i64 x.nd.z2, .slice x.a2 x.nd.ls.length x.c2, .slice x.a3 x.nd.ts.length x.c3] 45
    have b0 : W0.cell? ⟨w.heap.size, 0, none⟩ = some (.string x.nd.n) := HXB.out.cell 0; have b1 : W0.cell? ⟨w.heap.size, 1, none⟩ = some (.int .i64 x.nd.z0) := HXB.out.cell 1; have b2 : W0.cell? ⟨w.heap.size, 2, none⟩ = some (.int .i64 x.nd.z1) := HXB.out.cell 2; have b3 : W0.cell? ⟨w.heap.size, 3, none⟩ = some (.int .i64 x.nd.z2) := HXB.out.cell 3; have b4 : W0.cell? ⟨w.heap.size, 4, none⟩ = some (.slice x.a2 x.nd.ls.length x.c2) := HXB.out.cell 4; have b5 : W0.cell? ⟨w.heap.size, 5, none⟩ = some (.slice x.a3 x.nd.ts.length x.c3) := HXB.out.cell 5
    go_wp2_with fail
    refine HCK.out.mono ?_
    rintro e w1 ⟨rfl, hb, -⟩
    have H1 : Hid (Below w.heap.size w w1) := hb
    clear hb
    go_wp2
    go_ret
    exact ⟨rfl, ⟨_, _, _, _, _, HS.out.keep H1.out⟩, Chg.of_below H1.out HS.out.bw⟩
end Bo
end Go.Proofs.YthbmnkeigmbbdaaGreat

/-
  TASKS: book.addTask.
-/
namespace Go.Proofs.YthbmnkeigmbbdaaGreat
open Go.RowKit Go.Lib
namespace Bo
open Rw
set_option linter.unusedVariables false
set_option maxRecDepth 100000 in
set_option maxHeartbeats 4000000 in
theorem addn_t (b b' : Bk) (r P base : Nat) (vn vt vb : Value) (mn : List NdM) (mt : List TdM) (x : TdM) (w : World) (hs : St w P base b vn vt vb mn mt) (hf : Fine b) (hr : Ris (b.ts.map (·.n))) (hd : DeepT w w.heap.size x) (hfx : FitT x.td) (hv : adT b x.td = (b', r)) :
    Calls Tryz.prog 101 #[.pointer (some ⟨P, 0, none⟩), .agg #[.string x.td.n, .int .i64 x.td.z0, .int .i64 x.td.z1, .int .i64 x.td.z2, .slice x.a4 x.td.ws.length x.c4, .slice x.a5 x.td.bs.length x.c5, .string x.td.g, .string x.td.a, .int .i64 x.td.r]] w fun e w' => e = .returned (.int .i64 (r : Nat)) ∧ StE w' P base b' ∧ Chg P base w w' := by
  have hE : ∀ args z, (callFunc 65 args).run Tryz.prog z = .ok (.enter 65 args) z := enters_of Tryz.func65 (by kernel_rfl) rfl
  obtain ⟨W0, hW0⟩ : ∃ W0, W0 = w.alloc (.cells #[.string x.td.n, .int .i64 x.td.z0, .int .i64 x.td.z1, .int .i64 x.td.z2, .slice x.a4 x.td.ws.length x.c4, .slice x.a5 x.td.bs.length x.c5, .string x.td.g, .string x.td.a, .int .i64 x.td.r] 42) := ⟨_, rfl⟩
  have hb0 : Below w.heap.size w W0 := by rw [hW0]; exact al w _
  have hbx : Hd.Bxn W0 w.heap.size [.string x.td.n, .int .i64 x.td.z0, .int .i64 x.td.z1, .int .i64 x.td.z2, .slice x.a4 x.td.ws.length x.c4, .slice x.a5 x.td.bs.length x.c5, .string x.td.g, .string x.td.a, .int .i64 x.td.r] := by rw [hW0]; exact Hd.Bxn.made w [.string x.td.n, .int .i64 x.td.z0, .int .i64 x.td.z1, .int .i64 x.td.z2, .slice x.a4 x.td.ws.length x.c4, .slice x.a5 x.td.bs.length x.c5, .string x.td.g, .string x.td.a, .int .i64 x.td.r] 42
  have HCK : Hid (Calls Tryz.prog 64 #[.agg #[.string x.td.n, .int .i64 x.td.z0, .int .i64 x.td.z1, .int .i64 x.td.z2, .slice x.a4 x.td.ws.length x.c4, .slice x.a5 x.td.bs.length x.c5, .string x.td.g, .string x.td.a, .int .i64 x.td.r]] W0 fun e w' => e = .returned (.int .i64 (erT x.td : Nat)) ∧ Below w.heap.size w w' ∧ Hd.Bxn w' w.heap.size [.string x.td.n, .int .i64 x.td.z0, .int .i64 x.td.z1, .int .i64 x.td.z2, .slice x.a4 x.td.ws.length x.c4, .slice x.a5 x.td.bs.length x.c5, .string x.td.g, .string x.td.a, .int .i64 x.td.r]) := (chk_t x W0 (hd.on hb0) hfx).mono fun e w' ⟨he, hb⟩ => ⟨he, hb0.trans (hb.mono hb0.size), hbx.below hb⟩
  have HS := Lib.hid hs
  have HW := Lib.hid hW0
  have HV := Lib.hid hv
  have c0 : W0.cell? ⟨w.heap.size, 0, none⟩ = some (.string x.td.n) := hbx.cell 0
  have HCN : Hid (∀ z, Hid (Below w.heap.size w z) → Calls Tryz.prog 93 #[.agg #[.string x.td.n, .int .i64 x.td.z0, .int .i64 x.td.z1, .int .i64 x.td.z2, .slice x.a4 x.td.ws.length x.c4, .slice x.a5 x.td.bs.length x.c5, .string x.td.g, .string x.td.a, .int .i64 x.td.r]] z fun e w' => ∃ y : TdM, y.td = x.td ∧ OwnT w' base y ∧ e = .returned (.agg #[.string y.td.n, .int .i64 y.td.z0, .int .i64 y.td.z1, .int .i64 y.td.z2, .slice y.a4 y.td.ws.length y.c4, .slice y.a5 y.td.bs.length y.c5, .string y.td.g, .string y.td.a, .int .i64 y.td.r]) ∧ Hid (Below w.heap.size w w') ∧ (∀ g cs, Hd.Bxn z g cs → Hd.Bxn w' g cs)) := fun z hz => by
    refine (cln_t x z (hd.on hz.out) hfx).mono ?_
    rintro e w' ⟨y, hy, ho, he, hb⟩
    exact ⟨y, hy, ho.le (Nat.le_trans hs.bw hz.out.size), he, hz.out.trans (hb.mono hz.out.size), fun g cs h => h.below hb⟩
  clear hbx hd hfx hW0
  by_cases her : erT x.td = 0
  · have hv2 := hv
    unfold adT at hv2
    rw [if_pos her] at hv2
    rw [her] at HCK
    have HAD : Hid (∀ (y : TdM) z, y.td = x.td → OwnT z base y → Hid (Below w.heap.size w z) → Calls Tryz.prog 166 #[vt, .func (.func 65) #[] #[], .int .i64 32, .agg #[.string y.td.n, .int .i64 y.td.z0, .int .i64 y.td.z1, .int .i64 y.td.z2, .slice y.a4 y.td.ws.length y.c4, .slice y.a5 y.td.bs.length y.c5, .string y.td.g, .string y.td.a, .int .i64 y.td.r]] z fun e w' => ∃ a c m', e = .returned (.tuple #[.slice a m'.length c, .int .i64 (r : Nat)]) ∧ z.grownBy w' (vt).ownBlock ∧ Own w' base 42 (.slice a m'.length c) m' ∧ (∀ q ∈ m', OwnT z base q) ∧ b' = ⟨b.ns, m'.map (·.td), b.bs, b.fe⟩) := fun y z hy ho hz => by
      have hown := (hs.ow.ht.keep hz.out)
      have hdn : ∀ q ∈ mt, OwnT z base q := fun q hq => (hs.ow.dt q hq).keep hz.out
      have hlen : mt.length = b.ts.length := by rw [hs.et, List.length_map]
      have hkey : mt.map (·.td.n) = b.ts.map (·.n) := hs.kt
      have hl4 := hf.lt
      refine (add_t vt mt base 32 y z (Nat.le_trans hs.bw hz.out.size) hown (by rw [hkey]; exact hr) (by omega) (by omega)).mono ?_
      have hyk : y.td.n = x.td.n := by rw [hy]
      rintro e w' (⟨h1, he, hb⟩ | ⟨h1, h2, he, hb⟩ | ⟨h1, h2, v', he, ho', hg⟩)
      · rw [hkey, hyk] at h1
        rw [if_pos (show hsT b.ts x.td.n = true from h1)] at hv2
        obtain ⟨rfl, rfl⟩ := Prod.mk.inj hv2
        have hk := hown.keep hb
        obtain ⟨a, c, hvs⟩ := hk.slice
        rw [hvs] at he hk
        exact ⟨a, c, mt, he, grown_of_below hb, hk, hdn, by rw [← hs.et]⟩
      · rw [hkey, hyk] at h1
        rw [if_neg (by rw [show hsT b.ts x.td.n = false from h1]; decide), if_pos (by omega)] at hv2
        obtain ⟨rfl, rfl⟩ := Prod.mk.inj hv2
        have hk := hown.keep hb
        obtain ⟨a, c, hvs⟩ := hk.slice
        rw [hvs] at he hk
        exact ⟨a, c, mt, he, grown_of_below hb, hk, hdn, by rw [← hs.et]⟩
      · rw [hkey, hyk] at h1
        rw [if_neg (by rw [show hsT b.ts x.td.n = false from h1]; decide), if_neg (by omega)] at hv2
        obtain ⟨rfl, rfl⟩ := Prod.mk.inj hv2
        obtain ⟨a, c, rfl⟩ := ho'.slice
        refine ⟨a, c, _, he, hg, ho', ?_, ?_⟩
        · intro q hq
          unfold insR at hq
          rcases List.mem_append.1 hq with h | h
          · exact hdn q (List.mem_of_mem_take h)
          · rcases List.mem_cons.1 h with rfl | h
            · exact ho
            · exact hdn q (List.mem_of_mem_drop h)
        · rw [insR_map, hkey, ← hs.et, hy]
          rfl
    have HB0 := Lib.hid hb0
    obtain ⟨an, cn, hvn⟩ := hs.ow.hn.slice
    obtain ⟨at', ct, hvt⟩ := hs.ow.ht.slice
    obtain ⟨ab, cb, hvb⟩ := hs.ow.hb.slice
    subst hvn hvt hvb
    clear hv hv2 her hf hr hb0 hs
    go_enter Tryz.func101, Tryz.ntmps101
    go_upto_region 1 with fail
    rw [← HW.out]
    have HXB : Hid (Hd.Bxn W0 w.heap.size [.string x.td.n, .int .i64 x.td.z0, .int .i64 x.td.z1, .int .i64 x.td.z2, .slice x.a4 x.td.ws.length x.c4, .slice x.a5 x.td.bs.length x.c5, .string x.td.g, .string x.td.a, .int .i64 x.td.r]) := by rw [HW.out]; exact Hd.Bxn.made w [.string x.td.n, .int .i64 x.td.z0, .int .i64 x.td.z1, .int .i64 x.td.z2, .slice x.a4 x.td.ws.length x.c4, .slice x.a5 x.td.bs.length x.c5, .string x.td.g, .string x.td.a, .int .i64 x.td.r] 42
    have b0 : W0.cell? ⟨w.heap.size, 0, none⟩ = some (.string x.td.n) := HXB.out.cell 0; have b1 : W0.cell? ⟨w.heap.size, 1, none⟩ = some (.int .i64 x.td.z0) := HXB.out.cell 1; have b2 : W0.cell? ⟨w.heap.size, 2, none⟩ = some (.int .i64 x.td.z1) := HXB.out.cell 2; have b3 : W0.cell? ⟨w.heap.size, 3, none⟩ = some (.int .i64 x.td.z2) := HXB.out.cell 3; have b4 : W0.cell? ⟨w.heap.size, 4, none⟩ = some (.slice x.a4 x.td.ws.length x.c4) := HXB.out.cell 4; have b5 : W0.cell? ⟨w.heap.size, 5, none⟩ = some (.slice x.a5 x.td.bs.length x.c5) := HXB.out.cell 5; have b6 : W0.cell? ⟨w.heap.size, 6, none⟩ = some (.string x.td.g) := HXB.out.cell 6; have b7 : W0.cell? ⟨w.heap.size, 7, none⟩ = some (.string x.td.a) := HXB.out.cell 7; have b8 : W0.cell? ⟨w.heap.size, 8, none⟩ = some (.int .i64 x.td.r) := HXB.out.cell 8
    go_wp2_with fail
    refine HCK.out.mono ?_
    rintro e w1 ⟨rfl, hb, hbx⟩
    have H1 : Hid (Below w.heap.size w w1) := hb
    have HX1 := Lib.hid hbx
    have HS1 := Lib.hid (HS.out.keep hb)
    clear hb hbx b0 b1 b2 b3 b4 b5 b6 b7 b8 HXB
    go_upto_region 5 with fail
    have H1d : Hid (Below w.heap.size w w1.drew) := ⟨H1.out.os, H1.out.tape, H1.out.output, H1.out.size, H1.out.block⟩
    have p0 : w1.cell? ⟨P, 1, none⟩ = some (.slice at' mt.length ct) := HS1.out.bx.cell 1
    have g0 : w1.cell? ⟨w.heap.size, 0, none⟩ = some (.string x.td.n) := HX1.out.cell 0; have g1 : w1.cell? ⟨w.heap.size, 1, none⟩ = some (.int .i64 x.td.z0) := HX1.out.cell 1; have g2 : w1.cell? ⟨w.heap.size, 2, none⟩ = some (.int .i64 x.td.z1) := HX1.out.cell 2; have g3 : w1.cell? ⟨w.heap.size, 3, none⟩ = some (.int .i64 x.td.z2) := HX1.out.cell 3; have g4 : w1.cell? ⟨w.heap.size, 4, none⟩ = some (.slice x.a4 x.td.ws.length x.c4) := HX1.out.cell 4; have g5 : w1.cell? ⟨w.heap.size, 5, none⟩ = some (.slice x.a5 x.td.bs.length x.c5) := HX1.out.cell 5; have g6 : w1.cell? ⟨w.heap.size, 6, none⟩ = some (.string x.td.g) := HX1.out.cell 6; have g7 : w1.cell? ⟨w.heap.size, 7, none⟩ = some (.string x.td.a) := HX1.out.cell 7; have g8 : w1.cell? ⟨w.heap.size, 8, none⟩ = some (.int .i64 x.td.r) := HX1.out.cell 8
    have hx1 : Hid (Hd.Bxn w1.drew w.heap.size [.string x.td.n, .int .i64 x.td.z0, .int .i64 x.td.z1, .int .i64 x.td.z2, .slice x.a4 x.td.ws.length x.c4, .slice x.a5 x.td.bs.length x.c5, .string x.td.g, .string x.td.a, .int .i64 x.td.r]) := HX1.out
    have hp1 : Hid (Hd.Bxn w1.drew P (bkC (.slice an mn.length cn) (.slice at' mt.length ct) (.slice ab b.bs.length cb) b)) := HS1.out.bx
    go_region_with (first
      | ((with_reducible refine (HCN.out _ ?_).mono ?_); (first | assumption | exact H1d); rintro e w7 ⟨y, hy, hoy, rfl, H7, hk7⟩; have HP7 := Lib.hid (hk7 _ _ hp1.out); have p7 : w7.cell? ⟨P, 1, none⟩ = some (.slice at' mt.length ct) := HP7.out.cell 1; have HY := Lib.hid (And.intro hy hoy); clear hy hoy hk7)
      | ((with_reducible refine (HAD.out y _ HY.out.1 HY.out.2 H7).mono ?_); rintro e w8 ⟨a8, c8, m8, rfl, hg8, ho8, hd8, hb8⟩; have HG8 := Lib.hid (And.intro hg8 (And.intro ho8 (And.intro hd8 hb8))); have HP8 : Hid (Hd.Bxn w8 P (bkC (.slice an mn.length cn) (.slice at' mt.length ct) (.slice ab b.bs.length cb) b)) := (Chg.of_grown (P := w8.heap.size + 1) hg8 (Nat.le_trans HS.out.bw H7.out.size) (fun g e => .inl (HS.out.ow.ht.lt g e).1)).bxn HP7.out HS.out.pb (by have := HP7.out.lt; have := hg8.size; omega); have k0 := HP8.out.cell 1; have k1 := HP8.out.fz 1; simp only [bkC, List.getElem?_cons_zero, List.getElem?_cons_succ] at k0; clear hg8 ho8 hd8 hb8))
    all_goals
      have HS7 := Lib.hid (HS.out.keep H7.out)
      have HF := Lib.hid (HS7.out.setT HG8.out.1 HG8.out.2.1 HG8.out.2.2.1)
      go_wp2
      go_ret
      refine ⟨rfl, ?_, (Chg.of_below H7.out HS.out.bw).trans HF.out.2⟩
      rw [HG8.out.2.2.2]
      exact ⟨_, _, _, _, _, HF.out.1⟩
  · have hv2 := hv
    unfold adT at hv2
    rw [if_neg her] at hv2
    obtain ⟨rfl, rfl⟩ := Prod.mk.inj hv2
    generalize erT x.td = q at *
    have t0 : ((q : Int) == 0) = false := by simpa using her
    have t1 : ((q : Int) != 0) = true := by simpa using her
    have t2 : ¬ (q : Int) = 0 := by omega
    clear hv hv2 her hf hr hb0 hs HCN HV
    go_enter Tryz.func101, Tryz.ntmps101
    go_upto_region 1 with fail
    rw [← HW.out]
    have HXB : Hid (Hd.Bxn W0 w.heap.size [.string x.td.n, .int .i64 x.td.z0, .int .i64 x.td.z1, .int .i64 x.td.z2, .slice x.a4 x.td.ws.length x.c4, .slice x.a5 x.td.bs.length x.c5, .string x.td.g, .string x.td.a, .int .i64 x.td.r]) := by rw [HW.out]; exact Hd.Bxn.made w [.string x.td.n, .int .i64 x.td.z0, .int .i64 x.td.z1, .int .i64 x.td.z2, .slice x.a4 x.td.ws.length x.c4, .slice x.a5 x.td.bs.length x.c5, .string x.td.g, .string x.td.a, .int .i64 x.td.r] 42
    have b0 : W0.cell? ⟨w.heap.size, 0, none⟩ = some (.string x.td.n) := HXB.out.cell 0; have b1 : W0.cell? ⟨w.heap.size, 1, none⟩ = some (.int .i64 x.td.z0) := HXB.out.cell 1; have b2 : W0.cell? ⟨w.heap.size, 2, none⟩ = some (.int .i64 x.td.z1) := HXB.out.cell 2; have b3 : W0.cell? ⟨w.heap.size, 3, none⟩ = some (.int .i64 x.td.z2) := HXB.out.cell 3; have b4 : W0.cell? ⟨w.heap.size, 4, none⟩ = some (.slice x.a4 x.td.ws.length x.c4) := HXB.out.cell 4; have b5 : W0.cell? ⟨w.heap.size, 5, none⟩ = some (.slice x.a5 x.td.bs.length x.c5) := HXB.out.cell 5; have b6 : W0.cell? ⟨w.heap.size, 6, none⟩ = some (.string x.td.g) := HXB.out.cell 6; have b7 : W0.cell? ⟨w.heap.size, 7, none⟩ = some (.string x.td.a) := HXB.out.cell 7; have b8 : W0.cell? ⟨w.heap.size, 8, none⟩ = some (.int .i64 x.td.r) := HXB.out.cell 8
    go_wp2_with fail
    refine HCK.out.mono ?_
    rintro e w1 ⟨rfl, hb, -⟩
    have H1 : Hid (Below w.heap.size w w1) := hb
    clear hb
    go_wp2
    go_ret
    exact ⟨rfl, ⟨_, _, _, _, _, HS.out.keep H1.out⟩, Chg.of_below H1.out HS.out.bw⟩
end Bo
end Go.Proofs.YthbmnkeigmbbdaaGreat

/-
  A NODE GONE: book.dropNode.
-/
namespace Go.Proofs.YthbmnkeigmbbdaaGreat
open Go.RowKit Go.Lib
namespace Bo
open Rw
set_option linter.unusedVariables false

set_option maxHeartbeats 1000000 in
theorem isOn (o : Rg.Pr) (k : ByteArray) (g : Nat) (w : World) (hg : w.cell? ⟨g, 0, none⟩ = some (.string k)) :
    Calls Tryz.prog 164 #[.agg #[.string o.k, .string o.v], .pointer (some ⟨g, 0, none⟩)] w fun e w' => e = .returned (.bool (decide (o.v = k))) ∧ Below w.heap.size w w' := by
  have hc := cell_old (.cells #[.string o.k, .string o.v] 106) hg
  by_cases h : o.v = k
  · rw [decide_eq_true h]
    subst h
    go_enter Tryz.func164, Tryz.ntmps164
    go_wp2
    go_ret
    exact ⟨by simp, al w _⟩
  · rw [decide_eq_false h]
    obtain ⟨n1, n2⟩ := Hd.ba_no h
    go_enter Tryz.func164, Tryz.ntmps164
    go_wp2
    go_ret
    exact ⟨rfl, al w _⟩
set_option maxRecDepth 100000 in
set_option maxHeartbeats 4000000 in
theorem drpn (b b' : Bk) (r P base : Nat) (vn vt vb : Value) (mn : List NdM) (mt : List TdM) (k : ByteArray) (w : World) (hs : St w P base b vn vt vb mn mt) (hf : Fine b) (hr : Ris (b.ns.map (·.n))) (hv : doN b k = (b', r)) :
    Calls Tryz.prog 100 #[.pointer (some ⟨P, 0, none⟩), .string k] w fun e w' => e = .returned (.int .i64 (r : Nat)) ∧ StE w' P base b' ∧ Chg P base w w' := by
  have hmf : ∀ (fn : Fn) (first cap : Array Value) (w : World), (Instr.makeFunc fn first cap).run Tryz.prog w = .ok (.func fn first cap) w := fun _ _ _ _ => rfl
  have hE : ∀ args z, (callFunc 164 args).run Tryz.prog z = .ok (.enter 164 args) z := enters_of Tryz.func164 (by kernel_rfl) rfl
  obtain ⟨W0, hW0⟩ : ∃ W0, W0 = w.alloc (.cells #[.string k] 9) := ⟨_, rfl⟩
  have hb0 : Below w.heap.size w W0 := by rw [hW0]; exact al w _
  have hnm : Hd.Bxn W0 w.heap.size [.string k] := by rw [hW0]; exact Hd.Bxn.made w [.string k] 9
  have HW := Lib.hid hW0
  have HB0 := Lib.hid hb0
  have HNM := Lib.hid hnm
  have HS := Lib.hid hs
  have HS0 := Lib.hid (hs.keep hb0)
  have HFI : Hid (∀ z, Hid (Below W0.heap.size W0 z) → Calls Tryz.prog 72 #[vn, .func (.func 62) #[] #[], .string k] z fun e w' => ∃ i : Nat, e = .returned (.tuple #[.int .i64 (i : Nat), .bool (hsN b.ns k)]) ∧ Hid (Below W0.heap.size W0 w')) := fun z hz => by
    have hl := hf.ln
    have h2 : mn.length = b.ns.length := by rw [hs.en, List.length_map]
    refine (find_n vn mn k z ((HS0.out.ow.hn.keep hz.out).sl (by omega)) (by rw [hs.kn]; exact hr)).mono ?_
    rintro e w' ⟨he, hb⟩
    unfold FoundN at he
    rw [hs.kn] at he
    exact ⟨_, he, hz.out.trans (hb.mono hz.out.size)⟩
  have HCO : Hid (∀ z, Below W0.heap.size W0 z → Calls Tryz.prog 87 #[vb, .func (.func 164) #[] #[.pointer (some ⟨w.heap.size, 0, none⟩)]] z fun e w' => e = .returned (.bool (b.bs.any (fun o => decide (o.v = k)))) ∧ Below z.heap.size z w') := fun z hz => by
    have hl := hf.lb
    exact contains_b 164 hE (.pointer (some ⟨w.heap.size, 0, none⟩)) (fun o => decide (o.v = k)) vb b.bs z ((HS0.out.ow.hb.keep hz).sl (by omega)) (fun o ho y hy => isOn o k w.heap.size y ((HNM.out.below (hz.trans (hy.mono hz.size))).cell 0))
  have HDN : Hid (hsN b.ns k = true → ∀ z, Hid (Below W0.heap.size W0 z) → Calls Tryz.prog 165 #[vn, .func (.func 62) #[] #[], .string k] z fun e w' => ∃ a c m', e = .returned (.slice a m'.length c) ∧ z.grownBy w' vn.ownBlock ∧ Own w' base 45 (.slice a m'.length c) m' ∧ (∀ q ∈ m', OwnN z base q) ∧ m'.map (·.nd) = b.ns.eraseIdx (lbN b.ns k)) := fun hh z hz => by
    have hl := hf.ln
    have h2 : mn.length = b.ns.length := by rw [hs.en, List.length_map]
    refine (drop_n _ mn base k z (HS0.out.ow.hn.keep hz.out) (by rw [hs.kn]; exact hr) (by omega)).mono ?_
    rintro e w' (⟨h1, -⟩ | ⟨h1, v', he, ho, hg⟩)
    · rw [hs.kn] at h1
      rw [show hsN b.ns k = false from h1] at hh; cases hh
    · obtain ⟨a, c, rfl⟩ := ho.slice
      refine ⟨a, c, _, he, hg, ho, fun q hq => (HS0.out.ow.dn q (List.mem_of_mem_eraseIdx hq)).keep hz.out, ?_⟩
      rw [er_map, ← hs.en, hs.kn]
      rfl
  unfold doN at hv
  obtain ⟨an, cn, hvn⟩ := hs.ow.hn.slice
  obtain ⟨at', ct, hvt⟩ := hs.ow.ht.slice
  obtain ⟨ab, cb, hvb⟩ := hs.ow.hb.slice
  subst hvn hvt hvb
  clear hs hnm hb0 hW0 hr hf
  have HP : Hid (∀ z, Hid (Below W0.heap.size W0 z) → (Hid (Below W0.heap.size W0 z) ∧ z.cell? ⟨P, 0, none⟩ = some (.slice an mn.length cn) ∧ z.cell? ⟨w.heap.size, 0, none⟩ = some (.string k))) := fun z hz => ⟨hz, (HS0.out.bx.below hz.out).cell 0, (HNM.out.below hz.out).cell 0⟩
  have H0d : Hid (Below W0.heap.size W0 W0.drew) := ⟨rfl, rfl, rfl, Nat.le_refl _, fun _ _ => rfl⟩
  have KD := Lib.hid (HP.out _ H0d)
  by_cases hh : hsN b.ns k = true
  · rw [if_pos hh] at hv
    have HDN2 := Lib.hid (HDN.out hh)
    rw [hh] at HFI
    clear hh HDN
    cases hany : b.bs.any (fun o => decide (o.v = k))
    · rw [hany] at hv HCO
      rw [if_neg (by decide)] at hv
      obtain ⟨rfl, rfl⟩ := Prod.mk.inj hv
      clear hv hany
      go_enter Tryz.func100, Tryz.ntmps100
      go_upto_region 1 with fail
      rw [← HW.out]
      go_region_held3 (fun z => Hid (Below W0.heap.size W0 z) ∧ z.cell? ⟨P, 0, none⟩ = some (.slice an mn.length cn) ∧ z.cell? ⟨w.heap.size, 0, none⟩ = some (.string k)) (first | assumption | exact KD.out | exact HP.out _ ‹_›)
        (first | ((with_reducible refine (HFI.out _ ?_).mono ?_); (first | assumption | exact H0d); rintro e w7 ⟨i, rfl, hb7⟩; have hs7 := HP.out _ hb7))
      all_goals
        have HS7 := Lib.hid (HS0.out.keep hb7.out)
        have p2 : w7.cell? ⟨P, 2, none⟩ = some (.slice ab b.bs.length cb) := HS7.out.bx.cell 2
        go_wp2_with fail
        refine (HCO.out _ hb7.out).mono ?_
        rintro e w8 ⟨rfl, hb8⟩
        have H8 : Hid (Below W0.heap.size W0 w8) := hb7.out.trans (hb8.mono hb7.out.size)
        have HS8 := Lib.hid (HS0.out.keep H8.out)
        clear hs7 p2 hb8
        go_upto_region 6 with fail
        have p0 : w8.cell? ⟨P, 0, none⟩ = some (.slice an mn.length cn) := HS8.out.bx.cell 0
        have n0 : w8.cell? ⟨w.heap.size, 0, none⟩ = some (.string k) := (HNM.out.below H8.out).cell 0
        have H8d : Hid (Below W0.heap.size W0 w8.drew) := ⟨H8.out.os, H8.out.tape, H8.out.output, H8.out.size, H8.out.block⟩
        have HS8d : Hid (St w8.drew P base b (.slice an mn.length cn) (.slice at' mt.length ct) (.slice ab b.bs.length cb) mn mt) := HS0.out.keep H8d.out
        go_region_with (first | ((with_reducible refine (HDN2.out _ H8d).mono ?_); rintro e w9 ⟨a9, c9, m9, rfl, hg, ho, hd, hm⟩; have hx9 : Hid (Hd.Bxn w9 P (bkC (.slice an mn.length cn) (.slice at' mt.length ct) (.slice ab b.bs.length cb) b)) := (Chg.of_grown (P := w9.heap.size + 1) hg HS8d.out.bw (fun g e => .inl (HS8d.out.ow.hn.lt g e).1)).bxn HS8d.out.bx HS.out.pb (by have := HS8d.out.bx.lt; have := hg.size; omega); have HG := Lib.hid (And.intro hg (And.intro ho (And.intro hd hm))); have q0 := hx9.out.cell 0; have f0 := hx9.out.fz 0; simp only [bkC, List.getElem?_cons_zero] at q0; clear hg ho hd hm))
        all_goals
          have HF := Lib.hid (HS8d.out.setN HG.out.1 HG.out.2.1 HG.out.2.2.1)
          go_wp2
          go_ret
          refine ⟨rfl, ?_, (Chg.of_below (HB0.out.trans (H8d.out.mono HB0.out.size)) HS.out.bw).trans HF.out.2⟩
          rw [← HG.out.2.2.2]
          exact ⟨_, _, _, _, _, HF.out.1⟩
    · rw [hany] at hv HCO
      rw [if_pos rfl] at hv
      obtain ⟨rfl, rfl⟩ := Prod.mk.inj hv
      clear hv hany
      go_enter Tryz.func100, Tryz.ntmps100
      go_upto_region 1 with fail
      rw [← HW.out]
      go_region_held3 (fun z => Hid (Below W0.heap.size W0 z) ∧ z.cell? ⟨P, 0, none⟩ = some (.slice an mn.length cn) ∧ z.cell? ⟨w.heap.size, 0, none⟩ = some (.string k)) (first | assumption | exact KD.out | exact HP.out _ ‹_›)
        (first | ((with_reducible refine (HFI.out _ ?_).mono ?_); (first | assumption | exact H0d); rintro e w7 ⟨i, rfl, hb7⟩; have hs7 := HP.out _ hb7))
      all_goals
        have HS7 := Lib.hid (HS0.out.keep hb7.out)
        have p2 : w7.cell? ⟨P, 2, none⟩ = some (.slice ab b.bs.length cb) := HS7.out.bx.cell 2
        go_wp2_with fail
        refine (HCO.out _ hb7.out).mono ?_
        rintro e w8 ⟨rfl, hb8⟩
        have H8 : Hid (Below W0.heap.size W0 w8) := hb7.out.trans (hb8.mono hb7.out.size)
        have HS8 := Lib.hid (HS0.out.keep H8.out)
        clear hs7 p2 hb8
        go_wp2
        go_ret
        exact ⟨rfl, ⟨_, _, _, _, _, HS8.out⟩, Chg.of_below (HB0.out.trans (H8.out.mono HB0.out.size)) HS.out.bw⟩
  · rw [if_neg hh] at hv
    have hf2 : hsN b.ns k = false := by simpa using hh
    rw [hf2] at HFI
    obtain ⟨rfl, rfl⟩ := Prod.mk.inj hv
    clear hv hh hf2 HDN HCO
    go_enter Tryz.func100, Tryz.ntmps100
    go_upto_region 1 with fail
    rw [← HW.out]
    go_region_held3 (fun z => Hid (Below W0.heap.size W0 z) ∧ z.cell? ⟨P, 0, none⟩ = some (.slice an mn.length cn) ∧ z.cell? ⟨w.heap.size, 0, none⟩ = some (.string k)) (first | assumption | exact KD.out | exact HP.out _ ‹_›)
      (first | ((with_reducible refine (HFI.out _ ?_).mono ?_); (first | assumption | exact H0d); rintro e w7 ⟨i, rfl, hb7⟩; have hs7 := HP.out _ hb7))
    all_goals
      have HS7 := Lib.hid (HS0.out.keep hb7.out)
      clear hs7
      go_wp2
      go_ret
      exact ⟨rfl, ⟨_, _, _, _, _, HS7.out⟩, Chg.of_below (HB0.out.trans (hb7.out.mono HB0.out.size)) HS.out.bw⟩
end Bo
end Go.Proofs.YthbmnkeigmbbdaaGreat

/-
  A TASK GONE: book.dropTask.
-/
namespace Go.Proofs.YthbmnkeigmbbdaaGreat
open Go.RowKit Go.Lib
namespace Bo
open Rw
set_option linter.unusedVariables false

set_option maxRecDepth 100000 in
set_option maxHeartbeats 4000000 in
theorem drpt (b b' : Bk) (r P base : Nat) (vn vt vb : Value) (mn : List NdM) (mt : List TdM) (k : ByteArray) (w : World) (hs : St w P base b vn vt vb mn mt) (hf : Fine b) (hr : Ris (b.ts.map (·.n))) (hrb : Ris (b.bs.map (·.k))) (hv : doT b k = (b', r)) :
    Calls Tryz.prog 102 #[.pointer (some ⟨P, 0, none⟩), .string k] w fun e w' => e = .returned (.int .i64 (r : Nat)) ∧ StE w' P base b' ∧ Chg P base w w' := by
  have HS := Lib.hid hs
  have HFI : Hid (∀ z, Below w.heap.size w z → Calls Tryz.prog 97 #[vt, .func (.func 65) #[] #[], .string k] z fun e w' => ∃ i : Nat, e = .returned (.tuple #[.int .i64 (i : Nat), .bool (hsT b.ts k)]) ∧ Below z.heap.size z w') := fun z hz => by
    have hl := hf.lt
    have h2 : mt.length = b.ts.length := by rw [hs.et, List.length_map]
    refine (find_t vt mt k z ((hs.ow.ht.keep hz).sl (by omega)) (by rw [hs.kt]; exact hr)).mono ?_
    rintro e w' ⟨he, hb⟩
    unfold FoundT at he
    rw [hs.kt] at he
    exact ⟨_, he, hb⟩
  unfold doT at hv
  obtain ⟨an, cn, hvn⟩ := hs.ow.hn.slice
  obtain ⟨at', ct, hvt⟩ := hs.ow.ht.slice
  obtain ⟨ab, cb, hvb⟩ := hs.ow.hb.slice
  subst hvn hvt hvb
  have p1 : w.cell? ⟨P, 1, none⟩ = some (.slice at' mt.length ct) := hs.bx.cell 1
  by_cases hh : hsT b.ts k = true
  · rw [if_pos hh] at hv
    rw [hh] at HFI
    obtain ⟨rfl, rfl⟩ := Prod.mk.inj hv
    have HDT : Hid (∀ z, Below w.heap.size w z → Calls Tryz.prog 167 #[.slice at' mt.length ct, .func (.func 65) #[] #[], .string k] z fun e w' => ∃ a c m', e = .returned (.slice a m'.length c) ∧ z.grownBy w' (.slice at' mt.length ct : Value).ownBlock ∧ Own w' base 42 (.slice a m'.length c) m' ∧ (∀ q ∈ m', OwnT z base q) ∧ m'.map (·.td) = b.ts.eraseIdx (lbT b.ts k)) := fun z hz => by
      have hl := hf.lt
      have h2 : mt.length = b.ts.length := by rw [HS.out.et, List.length_map]
      refine (drop_t _ mt base k z (HS.out.ow.ht.keep hz) (by rw [HS.out.kt]; exact hr) (by omega)).mono ?_
      rintro e w' (⟨h1, -⟩ | ⟨h1, v', he, ho, hg⟩)
      · rw [HS.out.kt] at h1
        rw [show hsT b.ts k = false from h1] at hh; cases hh
      · obtain ⟨a, c, rfl⟩ := ho.slice
        refine ⟨a, c, _, he, hg, ho, fun q hq => (HS.out.ow.dt q (List.mem_of_mem_eraseIdx hq)).keep hz, ?_⟩
        rw [er_map, ← HS.out.et, HS.out.kt]
        rfl
    have HDB : Hid (∀ z, Own z base 106 (.slice ab b.bs.length cb) b.bs → Calls Tryz.prog 168 #[.slice ab b.bs.length cb, .func (.func 67) #[] #[], .string k] z fun e w' => ∃ a c, e = .returned (.slice a (drB b.bs k).length c) ∧ z.grownBy w' (.slice ab b.bs.length cb : Value).ownBlock ∧ Own w' base 106 (.slice a (drB b.bs k).length c) (drB b.bs k)) := fun z hz => by
      refine (drop_b _ b.bs base k z hz hrb hf.lb).mono ?_
      rintro e w' (⟨h1, he, hb⟩ | ⟨h1, v', he, ho, hg⟩)
      · have e0 : drB b.bs k = b.bs := by unfold drB; rw [if_neg (by rw [show hsB b.bs k = false from h1]; decide)]
        rw [e0]
        exact ⟨_, _, he, grown_of_below hb, hz.keep hb⟩
      · have e0 : drB b.bs k = b.bs.eraseIdx (lbB b.bs k) := by unfold drB; rw [if_pos (show hsB b.bs k = true from h1)]
        rw [e0]
        obtain ⟨a, c, rfl⟩ := ho.slice
        exact ⟨a, c, he, hg, ho⟩
    clear hv hh hr hrb hf hs
    go_enter Tryz.func102, Tryz.ntmps102
    go_wp2_with fail
    refine (HFI.out _ (Below.refl _ _)).mono ?_
    rintro e w1 ⟨i, rfl, hb⟩
    have H1 := Lib.hid hb
    have HS1 := Lib.hid (HS.out.keep hb)
    have q1 : w1.cell? ⟨P, 1, none⟩ = some (.slice at' mt.length ct) := HS1.out.bx.cell 1
    clear hb p1
    go_wp2_with fail
    refine (HDT.out _ H1.out).mono ?_
    rintro e w2 ⟨a2, c2, m2, rfl, hg, ho, hd, hm⟩
    obtain ⟨hs2, hc2⟩ := HS1.out.setT hg ho hd
    have hx2 : Hd.Bxn w2 P (bkC (.slice an mn.length cn) (.slice at' mt.length ct) (.slice ab b.bs.length cb) b) := (Chg.of_grown (P := w2.heap.size + 1) hg (Nat.le_trans HS.out.bw H1.out.size) (fun g e => .inl (HS.out.ow.ht.lt g e).1)).bxn HS1.out.bx HS.out.pb (by have := HS1.out.bx.lt; have := hg.size; omega)
    have q2 : w2.cell? ⟨P, 1, none⟩ = some (.slice at' mt.length ct) := hx2.cell 1
    have f2 := hx2.fz 1
    have HS2 := Lib.hid hs2
    have HC2 := Lib.hid hc2
    have HM := Lib.hid hm
    clear hg ho hd hm hs2 hc2 q1 hx2
    go_upto_region 5 with fail
    generalize w2.setCell ⟨P, 1, none⟩ (.slice a2 m2.length c2) = w3 at *
    have q3 : w3.cell? ⟨P, 2, none⟩ = some (.slice ab b.bs.length cb) := HS2.out.bx.cell 2
    clear q2 f2
    go_wp2_with fail
    refine (HDB.out _ HS2.out.ow.hb).mono ?_
    rintro e w4 ⟨a4, c4, rfl, hg, ho⟩
    obtain ⟨hs4, hc4⟩ := HS2.out.setB hg ho
    have hx4 : Hd.Bxn w4 P (bkC (.slice an mn.length cn) (.slice a2 m2.length c2) (.slice ab b.bs.length cb) ⟨b.ns, m2.map (·.td), b.bs, b.fe⟩) := (Chg.of_grown (P := w4.heap.size + 1) hg HS2.out.bw (fun g e => .inl (HS2.out.ow.hb.lt g e).1)).bxn HS2.out.bx HS.out.pb (by have := HS2.out.bx.lt; have := hg.size; omega)
    have q4 : w4.cell? ⟨P, 2, none⟩ = some (.slice ab b.bs.length cb) := hx4.cell 2
    have f4 := hx4.fz 2
    have HS4 := Lib.hid hs4
    have HC4 := Lib.hid hc4
    clear hg ho hs4 hc4 q3 hx4
    go_wp2
    go_ret
    refine ⟨rfl, ?_, ((Chg.of_below H1.out HS.out.bw).trans HC2.out).trans HC4.out⟩
    rw [← HM.out]
    exact ⟨_, _, _, _, _, HS4.out⟩
  · rw [if_neg hh] at hv
    have hf2 : hsT b.ts k = false := by simpa using hh
    rw [hf2] at HFI
    obtain ⟨rfl, rfl⟩ := Prod.mk.inj hv
    clear hv hh hr hrb hf hs hf2
    go_enter Tryz.func102, Tryz.ntmps102
    go_wp2_with fail
    refine (HFI.out _ (Below.refl _ _)).mono ?_
    rintro e w1 ⟨i, rfl, hb⟩
    have H1 := Lib.hid hb
    clear hb
    go_wp2
    go_ret
    exact ⟨rfl, ⟨_, _, _, _, _, HS.out.keep H1.out⟩, Chg.of_below H1.out HS.out.bw⟩
end Bo
end Go.Proofs.YthbmnkeigmbbdaaGreat

/-
  A BIND GONE: book.free.
-/
namespace Go.Proofs.YthbmnkeigmbbdaaGreat
open Go.RowKit Go.Lib
namespace Bo
open Rw
set_option linter.unusedVariables false

set_option maxRecDepth 100000 in
set_option maxHeartbeats 4000000 in
theorem free_is (b b' : Bk) (r P base : Nat) (vn vt vb : Value) (mn : List NdM) (mt : List TdM) (k : ByteArray) (w : World) (hs : St w P base b vn vt vb mn mt) (hf : Fine b) (hr : Ris (b.ts.map (·.n))) (hrb : Ris (b.bs.map (·.k))) (hv : frB b k = (b', r)) :
    Calls Tryz.prog 104 #[.pointer (some ⟨P, 0, none⟩), .string k] w fun e w' => e = .returned (.int .i64 (r : Nat)) ∧ StE w' P base b' ∧ Chg P base w w' := by
  have HS := Lib.hid hs
  have HFI : Hid (∀ z, Below w.heap.size w z → Calls Tryz.prog 97 #[vt, .func (.func 65) #[] #[], .string k] z fun e w' => ∃ i : Nat, e = .returned (.tuple #[.int .i64 (i : Nat), .bool (hsT b.ts k)]) ∧ Below z.heap.size z w') := fun z hz => by
    have hl := hf.lt
    have h2 : mt.length = b.ts.length := by rw [hs.et, List.length_map]
    refine (find_t vt mt k z ((hs.ow.ht.keep hz).sl (by omega)) (by rw [hs.kt]; exact hr)).mono ?_
    rintro e w' ⟨he, hb⟩
    unfold FoundT at he
    rw [hs.kt] at he
    exact ⟨_, he, hb⟩
  have HFB : Hid (∀ z, Below w.heap.size w z → Calls Tryz.prog 125 #[vb, .func (.func 67) #[] #[], .string k] z fun e w' => ∃ i : Nat, e = .returned (.tuple #[.int .i64 (i : Nat), .bool (hsB b.bs k)]) ∧ Below z.heap.size z w') := fun z hz => by
    have hl := hf.lb
    refine (find_b vb b.bs k z ((hs.ow.hb.keep hz).sl (by omega)) hrb).mono ?_
    rintro e w' ⟨he, hb⟩
    exact ⟨_, he, hb⟩
  unfold frB at hv
  obtain ⟨an, cn, hvn⟩ := hs.ow.hn.slice
  obtain ⟨at', ct, hvt⟩ := hs.ow.ht.slice
  obtain ⟨ab, cb, hvb⟩ := hs.ow.hb.slice
  subst hvn hvt hvb
  have p1 : w.cell? ⟨P, 1, none⟩ = some (.slice at' mt.length ct) := hs.bx.cell 1
  by_cases hh : hsT b.ts k = true
  · rw [if_pos hh] at hv
    rw [hh] at HFI
    by_cases h3 : hsB b.bs k = true
    · rw [if_pos h3] at hv
      rw [h3] at HFB
      obtain ⟨rfl, rfl⟩ := Prod.mk.inj hv
      have HDB : Hid (∀ z, Own z base 106 (.slice ab b.bs.length cb) b.bs → Calls Tryz.prog 168 #[.slice ab b.bs.length cb, .func (.func 67) #[] #[], .string k] z fun e w' => ∃ a c, e = .returned (.slice a (b.bs.eraseIdx (lbB b.bs k)).length c) ∧ z.grownBy w' (.slice ab b.bs.length cb : Value).ownBlock ∧ Own w' base 106 (.slice a (b.bs.eraseIdx (lbB b.bs k)).length c) (b.bs.eraseIdx (lbB b.bs k))) := fun z hz => by
        refine (drop_b _ b.bs base k z hz hrb hf.lb).mono ?_
        rintro e w' (⟨h1, he, hb⟩ | ⟨h1, v', he, ho, hg⟩)
        · rw [show hsB b.bs k = false from h1] at h3; cases h3
        · obtain ⟨a, c, rfl⟩ := ho.slice
          exact ⟨a, c, he, hg, ho⟩
      clear hv hh hr hrb hf hs h3
      go_enter Tryz.func104, Tryz.ntmps104
      go_wp2_with fail
      refine (HFI.out _ (Below.refl _ _)).mono ?_
      rintro e w1 ⟨i, rfl, hb⟩
      have H1 := Lib.hid hb
      have HS1 := Lib.hid (HS.out.keep hb)
      have q1 : w1.cell? ⟨P, 2, none⟩ = some (.slice ab b.bs.length cb) := HS1.out.bx.cell 2
      clear hb p1
      go_wp2_with fail
      refine (HFB.out _ H1.out).mono ?_
      rintro e w2 ⟨j, rfl, hb⟩
      have H2 : Hid (Below w.heap.size w w2) := H1.out.trans (hb.mono H1.out.size)
      have HS2 := Lib.hid (HS1.out.keep hb)
      have q2 : w2.cell? ⟨P, 2, none⟩ = some (.slice ab b.bs.length cb) := HS2.out.bx.cell 2
      clear hb q1
      go_wp2_with fail
      refine (HDB.out _ HS2.out.ow.hb).mono ?_
      rintro e w4 ⟨a4, c4, rfl, hg, ho⟩
      obtain ⟨hs4, hc4⟩ := HS2.out.setB hg ho
      have hx4 : Hd.Bxn w4 P (bkC (.slice an mn.length cn) (.slice at' mt.length ct) (.slice ab b.bs.length cb) b) := (Chg.of_grown (P := w4.heap.size + 1) hg HS2.out.bw (fun g e => .inl (HS2.out.ow.hb.lt g e).1)).bxn HS2.out.bx HS.out.pb (by have := HS2.out.bx.lt; have := hg.size; omega)
      have q4 : w4.cell? ⟨P, 2, none⟩ = some (.slice ab b.bs.length cb) := hx4.cell 2
      have f4 := hx4.fz 2
      have HS4 := Lib.hid hs4
      have HC4 := Lib.hid hc4
      clear hg ho hs4 hc4 q2 hx4
      go_wp2
      go_ret
      exact ⟨rfl, ⟨_, _, _, _, _, HS4.out⟩, (Chg.of_below H2.out HS.out.bw).trans HC4.out⟩
    · rw [if_neg h3] at hv
      have hf3 : hsB b.bs k = false := by simpa using h3
      rw [hf3] at HFB
      obtain ⟨rfl, rfl⟩ := Prod.mk.inj hv
      clear hv hh hr hrb hf hs h3 hf3
      go_enter Tryz.func104, Tryz.ntmps104
      go_wp2_with fail
      refine (HFI.out _ (Below.refl _ _)).mono ?_
      rintro e w1 ⟨i, rfl, hb⟩
      have H1 := Lib.hid hb
      have HS1 := Lib.hid (HS.out.keep hb)
      have q1 : w1.cell? ⟨P, 2, none⟩ = some (.slice ab b.bs.length cb) := HS1.out.bx.cell 2
      clear hb p1
      go_wp2_with fail
      refine (HFB.out _ H1.out).mono ?_
      rintro e w2 ⟨j, rfl, hb⟩
      have H2 : Hid (Below w.heap.size w w2) := H1.out.trans (hb.mono H1.out.size)
      clear hb
      go_wp2
      go_ret
      exact ⟨rfl, ⟨_, _, _, _, _, HS.out.keep H2.out⟩, Chg.of_below H2.out HS.out.bw⟩
  · rw [if_neg hh] at hv
    have hf2 : hsT b.ts k = false := by simpa using hh
    rw [hf2] at HFI
    obtain ⟨rfl, rfl⟩ := Prod.mk.inj hv
    clear hv hh hr hrb hf hs hf2
    go_enter Tryz.func104, Tryz.ntmps104
    go_wp2_with fail
    refine (HFI.out _ (Below.refl _ _)).mono ?_
    rintro e w1 ⟨i, rfl, hb⟩
    have H1 := Lib.hid hb
    clear hb
    go_wp2
    go_ret
    exact ⟨rfl, ⟨_, _, _, _, _, HS.out.keep H1.out⟩, Chg.of_below H1.out HS.out.bw⟩
end Bo
end Go.Proofs.YthbmnkeigmbbdaaGreat
