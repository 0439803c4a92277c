/-
  A TASK BOUND: book.bind.
-/
import Derived.Test.YthbmnkeigmbbdaaGreatBgB
import Derived.Test.YthbmnkeigmbbdaaGreatBgU
import Derived.BigQuiet
import Derived.Deep.RegionWith
import Derived.Deep.RegionHeld3
namespace Go.Proofs.YthbmnkeigmbbdaaGreat
open Go.RowKit Go.Lib
namespace Bo
open Rw
set_option linter.unusedVariables false
theorem below_drew {B : Nat} {w z : World} (h : Below B w z) : Below B w z.drew := ⟨h.os, h.tape, h.output, h.size, h.block⟩
set_option maxRecDepth 100000 in
set_option maxHeartbeats 4000000 in
theorem bind_is (b b' : Bk) (r P base : Nat) (vn vt vb : Value) (mn : List NdM) (mt : List TdM) (C : Hd.Cd) (a2 a3 a4 a5 : Option Addr) (c2 c3 c4 c5 : Nat) (w : World) (hs : St w P base b vn vt vb mn mt) (hf : Fine b) (hL : Lists b) (hv : biB b C.na C.on C.fe = (b', r)) :
    Calls Tryz.prog 103 #[.pointer (some ⟨P, 0, none⟩), .agg #[.int .u8 (C.k : Nat), .string C.nd.n, .int .i64 C.nd.z0, .int .i64 C.nd.z1, .int .i64 C.nd.z2, .slice a2 C.nd.ls.length c2, .slice a3 C.nd.ts.length c3, .string C.td.n, .int .i64 C.td.z0, .int .i64 C.td.z1, .int .i64 C.td.z2, .slice a4 C.td.ws.length c4, .slice a5 C.td.bs.length c5, .string C.td.g, .string C.td.a, .int .i64 C.td.r, .string C.na, .string C.on, .int .u64 (C.fe : Nat)]] w fun e w' => e = .returned (.int .i64 (r : Nat)) ∧ StE w' P base b' ∧ Chg P base w w' := by
  obtain ⟨W0, hW0⟩ : ∃ W0, W0 = w.alloc (.cells #[.int .u8 (C.k : Nat), .string C.nd.n, .int .i64 C.nd.z0, .int .i64 C.nd.z1, .int .i64 C.nd.z2, .slice a2 C.nd.ls.length c2, .slice a3 C.nd.ts.length c3, .string C.td.n, .int .i64 C.td.z0, .int .i64 C.td.z1, .int .i64 C.td.z2, .slice a4 C.td.ws.length c4, .slice a5 C.td.bs.length c5, .string C.td.g, .string C.td.a, .int .i64 C.td.r, .string C.na, .string C.on, .int .u64 (C.fe : Nat)] 55) := ⟨_, rfl⟩
  have hb0 : Below w.heap.size w W0 := by rw [hW0]; exact al w _
  have hbx : Hd.Bxn W0 w.heap.size [.int .u8 (C.k : Nat), .string C.nd.n, .int .i64 C.nd.z0, .int .i64 C.nd.z1, .int .i64 C.nd.z2, .slice a2 C.nd.ls.length c2, .slice a3 C.nd.ts.length c3, .string C.td.n, .int .i64 C.td.z0, .int .i64 C.td.z1, .int .i64 C.td.z2, .slice a4 C.td.ws.length c4, .slice a5 C.td.bs.length c5, .string C.td.g, .string C.td.a, .int .i64 C.td.r, .string C.na, .string C.on, .int .u64 (C.fe : Nat)] := by rw [hW0]; exact Hd.Bxn.made w [.int .u8 (C.k : Nat), .string C.nd.n, .int .i64 C.nd.z0, .int .i64 C.nd.z1, .int .i64 C.nd.z2, .slice a2 C.nd.ls.length c2, .slice a3 C.nd.ts.length c3, .string C.td.n, .int .i64 C.td.z0, .int .i64 C.td.z1, .int .i64 C.td.z2, .slice a4 C.td.ws.length c4, .slice a5 C.td.bs.length c5, .string C.td.g, .string C.td.a, .int .i64 C.td.r, .string C.na, .string C.on, .int .u64 (C.fe : Nat)] 55
  have hpb := hs.pb
  have hbw := hs.bw
  have HS := Lib.hid hs
  have HS0 := Lib.hid (hs.keep hb0)
  have HW := Lib.hid hW0
  have HB0 := Lib.hid hb0
  have HBX : Hid (Hd.Bxn W0 w.heap.size [.int .u8 (C.k : Nat), .string C.nd.n, .int .i64 C.nd.z0, .int .i64 C.nd.z1, .int .i64 C.nd.z2, .slice a2 C.nd.ls.length c2, .slice a3 C.nd.ts.length c3, .string C.td.n, .int .i64 C.td.z0, .int .i64 C.td.z1, .int .i64 C.td.z2, .slice a4 C.td.ws.length c4, .slice a5 C.td.bs.length c5, .string C.td.g, .string C.td.a, .int .i64 C.td.r, .string C.na, .string C.on, .int .u64 (C.fe : Nat)]) := hbx
  have HBZ : Hid (∀ z, Hid (Below w.heap.size w z) → Books z z.heap.size vn vt vb b) := fun z hz => (hs.keep hz.out).books hf
  have HFB : Hid (∀ z, Hid (Below w.heap.size w z) → Hid (Below W0.heap.size W0 z) → Calls Tryz.prog 125 #[vb, .func (.func 67) #[] #[], .string C.na] z fun e w' => e = .returned (.tuple #[.int .i64 (lbB b.bs C.na : Nat), .bool (hsB b.bs C.na)]) ∧ Hid (Below w.heap.size w w') ∧ Hid (Below W0.heap.size W0 w')) := fun z hz hz0 => by
    have hl := hf.lb
    refine (find_b vb b.bs C.na z ((hs.ow.hb.keep hz.out).sl (by omega)) hL.rb).mono ?_
    rintro e w' ⟨he, hb⟩
    exact ⟨he, hz.out.trans (hb.mono hz.out.size), hz0.out.trans (hb.mono hz0.out.size)⟩
  have HCAN : Hid (∀ z, Hid (Below w.heap.size w z) → Hid (Below W0.heap.size W0 z) → Calls Tryz.prog 68 #[.agg #[vn, vt, vb, .int .u64 (b.fe : Nat)], .string C.na, .string C.on] z fun e w' => e = .returned (.int .i64 (canE b C.na C.on : Nat)) ∧ Hid (Below w.heap.size w w') ∧ Hid (Below W0.heap.size W0 w')) := fun z hz hz0 => by
    refine (can_any b vn vt vb C.na C.on z (HBZ.out z hz) hL).mono ?_
    rintro e w' ⟨he, hb⟩
    exact ⟨he, hz.out.trans (hb.mono hz.out.size), hz0.out.trans (hb.mono hz0.out.size)⟩
  have hle := lb_le (b.bs.map (·.k)) C.na
  rw [List.length_map] at hle
  have HIN : Hid (∀ (z : World), Hid (Below w.heap.size w z) → Calls Tryz.prog 169 #[vb, .int .i64 (lbB b.bs C.na : Nat), .slice (some ⟨z.heap.size, 0, none⟩) 1 1] (z.alloc (.cells #[.string C.na, .string C.on] 106)).drew fun e w' => ∃ a c, e = .returned (.slice a (insR b.bs (lbB b.bs C.na) ⟨C.na, C.on⟩).length c) ∧ z.grownBy w' vb.ownBlock ∧ Own w' base 106 (.slice a (insR b.bs (lbB b.bs C.na) ⟨C.na, C.on⟩).length c) (insR b.bs (lbB b.bs C.na) ⟨C.na, C.on⟩)) := fun z hz => by
    have hl := hf.lb
    have h1 : Below z.heap.size z (z.alloc (.cells #[.string C.na, .string C.on] 106)).drew := below_drew (al z _)
    have ho := hs.ow.hb.keep hz.out
    refine (insert_b vb b.bs ⟨C.na, C.on⟩ _ z.heap.size base _ (Nat.le_trans (Nat.le_trans hbw hz.out.size) h1.size) (ho.keep h1) hl hle (heap_alloc_new z _) (fun e => by have := (ho.lt _ e).2; omega)).mono ?_
    rintro e w' ⟨v', rfl, ho', hg⟩
    obtain ⟨a, c, rfl⟩ := ho'.slice
    exact ⟨a, c, rfl, after_b h1 hg, ho'⟩
  obtain ⟨an, cn, hvn⟩ := hs.ow.hn.slice
  obtain ⟨at', ct, hvt⟩ := hs.ow.ht.slice
  obtain ⟨ab, cb, hvb⟩ := hs.ow.hb.slice
  subst hvn hvt hvb
  have HP : Hid (∀ z, Hid (Below w.heap.size w z) → Hid (Below W0.heap.size W0 z) → (Hid (Below w.heap.size w z) ∧ Hid (Below W0.heap.size W0 z) ∧ z.cell? ⟨P, 0, none⟩ = some (.slice an mn.length cn) ∧ z.cell? ⟨P, 1, none⟩ = some (.slice at' mt.length ct) ∧ z.cell? ⟨P, 2, none⟩ = some (.slice ab b.bs.length cb) ∧ z.cell? ⟨P, 3, none⟩ = some (.int .u64 (b.fe : Nat)) ∧ z.cell? ⟨w.heap.size, 16, none⟩ = some (.string C.na) ∧ z.cell? ⟨w.heap.size, 17, none⟩ = some (.string C.on))) := fun z hz hz0 => ⟨hz, hz0, (hs.bx.below hz.out).cell 0, (hs.bx.below hz.out).cell 1, (hs.bx.below hz.out).cell 2, (hs.bx.below hz.out).cell 3, (HBX.out.below hz0.out).cell 16, (HBX.out.below hz0.out).cell 17⟩
  have H0d : Hid (∀ n, Hid (Below w.heap.size w (W0.drewN n))) := fun n => ⟨HB0.out.os, HB0.out.tape, HB0.out.output, HB0.out.size, HB0.out.block⟩
  have H0e : Hid (∀ n, Hid (Below W0.heap.size W0 (W0.drewN n))) := fun n => ⟨rfl, rfl, rfl, Nat.le_refl _, fun _ _ => rfl⟩
  have KD : Hid (∀ n, Hid (Below w.heap.size w (W0.drewN n).drew) ∧ Hid (Below W0.heap.size W0 (W0.drewN n).drew) ∧ (W0.drewN n).drew.cell? ⟨P, 0, none⟩ = some (.slice an mn.length cn) ∧ (W0.drewN n).drew.cell? ⟨P, 1, none⟩ = some (.slice at' mt.length ct) ∧ (W0.drewN n).drew.cell? ⟨P, 2, none⟩ = some (.slice ab b.bs.length cb) ∧ (W0.drewN n).drew.cell? ⟨P, 3, none⟩ = some (.int .u64 (b.fe : Nat)) ∧ (W0.drewN n).drew.cell? ⟨w.heap.size, 16, none⟩ = some (.string C.na) ∧ (W0.drewN n).drew.cell? ⟨w.heap.size, 17, none⟩ = some (.string C.on)) := fun n => HP.out _ (below_drew (H0d.out n).out) (below_drew (H0e.out n).out)
  unfold biB at hv
  clear hW0 hb0 hbx hs hf hL HBZ
  by_cases hfe : C.fe < b.fe
  · rw [if_pos hfe] at hv
    obtain ⟨rfl, rfl⟩ := Prod.mk.inj hv
    have t0 : (C.fe : Int) < (b.fe : Int) := by omega
    clear hv hle HP KD HIN HFB HCAN H0e
    go_enter Tryz.func103, Tryz.ntmps103
    go_upto_region 1 with fail
    rw [← HW.out]
    have o18 : W0.cell? ⟨w.heap.size, 18, none⟩ = some (.int .u64 (C.fe : Nat)) := HBX.out.cell 18
    have p3 : W0.cell? ⟨P, 3, none⟩ = some (.int .u64 (b.fe : Nat)) := HS0.out.bx.cell 3
    go_quiet (fail)
    go_wp2
    go_ret
    exact ⟨rfl, ⟨_, _, _, _, _, HS.out.keep (H0d.out _).out⟩, Chg.of_below (H0d.out _).out HS.out.bw⟩
  · rw [if_neg hfe] at hv
    have t0 : ¬ (C.fe : Int) < (b.fe : Int) := by omega
    by_cases hc : canE b C.na C.on = 0
    · rw [if_pos hc] at hv
      rw [hc] at HCAN
      obtain ⟨rfl, rfl⟩ := Prod.mk.inj hv
      clear hv hfe hc hle
      go_enter Tryz.func103, Tryz.ntmps103
      go_upto_region 1 with fail
      rw [← HW.out]
      have o18 : W0.cell? ⟨w.heap.size, 18, none⟩ = some (.int .u64 (C.fe : Nat)) := HBX.out.cell 18
      have p3 : W0.cell? ⟨P, 3, none⟩ = some (.int .u64 (b.fe : Nat)) := HS0.out.bx.cell 3
      go_quiet (fail)
      go_upto_region 3 with fail
      clear o18 p3
      go_region_held3 (fun z => Hid (Below w.heap.size w z) ∧ Hid (Below W0.heap.size W0 z) ∧ z.cell? ⟨P, 0, none⟩ = some (.slice an mn.length cn) ∧ z.cell? ⟨P, 1, none⟩ = some (.slice at' mt.length ct) ∧ z.cell? ⟨P, 2, none⟩ = some (.slice ab b.bs.length cb) ∧ z.cell? ⟨P, 3, none⟩ = some (.int .u64 (b.fe : Nat)) ∧ z.cell? ⟨w.heap.size, 16, none⟩ = some (.string C.na) ∧ z.cell? ⟨w.heap.size, 17, none⟩ = some (.string C.on)) (first | assumption | exact KD.out _ | exact HP.out _ ‹_› ‹_›)
        (first | ((with_reducible refine (HCAN.out _ ?_ ?_).mono ?_); (first | assumption | exact below_drew (H0d.out _).out); (first | assumption | exact below_drew (H0e.out _).out); rintro e w7 ⟨rfl, H7, H7'⟩; have hs7 := HP.out _ H7 H7'))
      all_goals
        go_upto_region 6 with fail
        have KD2 := Lib.hid (HP.out _ (below_drew H7.out) (below_drew H7'.out))
        clear hs7
        go_region_held3 (fun z => Hid (Below w.heap.size w z) ∧ Hid (Below W0.heap.size W0 z) ∧ z.cell? ⟨P, 0, none⟩ = some (.slice an mn.length cn) ∧ z.cell? ⟨P, 1, none⟩ = some (.slice at' mt.length ct) ∧ z.cell? ⟨P, 2, none⟩ = some (.slice ab b.bs.length cb) ∧ z.cell? ⟨P, 3, none⟩ = some (.int .u64 (b.fe : Nat)) ∧ z.cell? ⟨w.heap.size, 16, none⟩ = some (.string C.na) ∧ z.cell? ⟨w.heap.size, 17, none⟩ = some (.string C.on)) (first | assumption | exact KD2.out | exact HP.out _ ‹_› ‹_›)
          (first | ((with_reducible refine (HFB.out _ ?_ ?_).mono ?_); (first | assumption | exact below_drew H7.out); (first | assumption | exact below_drew H7'.out); rintro e w8 ⟨rfl, H8, H8'⟩; have hs8 := HP.out _ H8 H8'))
        all_goals
          go_upto_region 7 with fail
          have HX8 : Hid (Hd.Bxn w8 P (bkC (.slice an mn.length cn) (.slice at' mt.length ct) (.slice ab b.bs.length cb) b)) := HS.out.bx.below H8.out
          have p2 : w8.cell? ⟨P, 2, none⟩ = some (.slice ab b.bs.length cb) := hs8.2.2.2.2.1
          have o16 : w8.cell? ⟨w.heap.size, 16, none⟩ = some (.string C.na) := hs8.2.2.2.2.2.2.1
          have o17 : w8.cell? ⟨w.heap.size, 17, none⟩ = some (.string C.on) := hs8.2.2.2.2.2.2.2
          have p2a := cell_old (.cells #[.string C.na, .string C.on] 106) p2
          have o16a := cell_old (.cells #[.string C.na, .string C.on] 106) o16
          have o17a := cell_old (.cells #[.string C.na, .string C.on] 106) o17
          clear hs8
          go_region_with (first | ((with_reducible refine (HIN.out _ H8).mono ?_); rintro e w9 ⟨a9, c9, rfl, hg, ho⟩; have hx9 : Hid (Hd.Bxn w9 P (bkC (.slice an mn.length cn) (.slice at' mt.length ct) (.slice ab b.bs.length cb) b)) := (Chg.of_grown (P := w9.heap.size + 1) hg (Nat.le_trans HS.out.bw H8.out.size) (fun g e => .inl (HS.out.ow.hb.lt g e).1)).bxn HX8.out HS.out.pb (by have := HX8.out.lt; have := hg.size; omega); have HG := Lib.hid (And.intro hg ho); have q0 := hx9.out.cell 2; have f0 := hx9.out.fz 2; simp only [bkC, List.getElem?_cons_zero, List.getElem?_cons_succ] at q0; clear hg ho))
          all_goals
            have HF := Lib.hid ((HS.out.keep H8.out).setB HG.out.1 HG.out.2)
            go_wp2
            go_ret
            exact ⟨rfl, ⟨_, _, _, _, _, HF.out.1⟩, (Chg.of_below H8.out HS.out.bw).trans HF.out.2⟩
    · rw [if_neg hc] at hv
      obtain ⟨rfl, rfl⟩ := Prod.mk.inj hv
      generalize canE b C.na C.on = q at *
      have t3 : ((q : Int) == 0) = false := by simpa using hc
      have t4 : ((q : Int) != 0) = true := by simpa using hc
      have t5 : ¬ (q : Int) = 0 := by omega
      clear hv hfe hc hle HIN HFB
      go_enter Tryz.func103, Tryz.ntmps103
      go_upto_region 1 with fail
      rw [← HW.out]
      have o18 : W0.cell? ⟨w.heap.size, 18, none⟩ = some (.int .u64 (C.fe : Nat)) := HBX.out.cell 18
      have p3 : W0.cell? ⟨P, 3, none⟩ = some (.int .u64 (b.fe : Nat)) := HS0.out.bx.cell 3
      go_quiet (fail)
      go_upto_region 3 with fail
      clear o18 p3
      go_region_held3 (fun z => Hid (Below w.heap.size w z) ∧ Hid (Below W0.heap.size W0 z) ∧ z.cell? ⟨P, 0, none⟩ = some (.slice an mn.length cn) ∧ z.cell? ⟨P, 1, none⟩ = some (.slice at' mt.length ct) ∧ z.cell? ⟨P, 2, none⟩ = some (.slice ab b.bs.length cb) ∧ z.cell? ⟨P, 3, none⟩ = some (.int .u64 (b.fe : Nat)) ∧ z.cell? ⟨w.heap.size, 16, none⟩ = some (.string C.na) ∧ z.cell? ⟨w.heap.size, 17, none⟩ = some (.string C.on)) (first | assumption | exact KD.out _ | exact HP.out _ ‹_› ‹_›)
        (first | ((with_reducible refine (HCAN.out _ ?_ ?_).mono ?_); (first | assumption | exact below_drew (H0d.out _).out); (first | assumption | exact below_drew (H0e.out _).out); rintro e w7 ⟨rfl, H7, H7'⟩; have hs7 := HP.out _ H7 H7'))
      all_goals
        clear hs7
        go_wp2
        go_ret
        exact ⟨rfl, ⟨_, _, _, _, _, HS.out.keep H7.out⟩, Chg.of_below H7.out HS.out.bw⟩
end Bo
end Go.Proofs.YthbmnkeigmbbdaaGreat
