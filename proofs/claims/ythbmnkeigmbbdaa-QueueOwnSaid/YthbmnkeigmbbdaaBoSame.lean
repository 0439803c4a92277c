/-
  WHETHER TWO BOOKS ARE ONE, where they are: gafferref08.Same.
-/
import Derived.Test.YthbmnkeigmbbdaaBgB
import Derived.BigQuiet
import Derived.Deep.RegionHeld3
import Derived.Deep.LoopGhost
namespace Go.Proofs.Ythbmnkeigmbbdaa
open Go.RowKit Go.Lib
namespace Bo
open Rw
set_option linter.unusedVariables false
theorem Nds.row {w : World} {B : Nat} {v : Value} {l : List Hd.Nd} (h : Nds w B v l) : ∃ a c, v = .slice a l.length c ∧ (0 < l.length → ∃ b off, a = some ⟨b, off, none⟩ ∧ b < B ∧ ∀ i (hi : i < l.length), ∃ x : NdM, x.nd = l[i] ∧ At w b (off + i * 6) x ∧ DeepN w B x ∧ FitN x.nd) := by
  obtain ⟨m, rfl, ⟨a, c, rfl, -, -, -, hc⟩, h2, -⟩ := h
  refine ⟨a, c, by rw [List.length_map], fun hp => ?_⟩
  obtain ⟨b, off, ha, -, hlt, hcc⟩ := hc (by simpa using hp)
  refine ⟨b, off, ha, hlt, fun i hi => ?_⟩
  have hi2 : i < m.length := by simpa using hi
  exact ⟨m[i], by simp, hcc i hi2, (h2 _ (List.getElem_mem hi2)).1, (h2 _ (List.getElem_mem hi2)).2⟩
theorem Tds.row {w : World} {B : Nat} {v : Value} {l : List Hd.Td} (h : Tds w B v l) : ∃ a c, v = .slice a l.length c ∧ (0 < l.length → ∃ b off, a = some ⟨b, off, none⟩ ∧ b < B ∧ ∀ i (hi : i < l.length), ∃ x : TdM, x.td = l[i] ∧ At w b (off + i * 9) x ∧ DeepT w B x ∧ FitT x.td) := by
  obtain ⟨m, rfl, ⟨a, c, rfl, -, -, -, hc⟩, h2, -⟩ := h
  refine ⟨a, c, by rw [List.length_map], fun hp => ?_⟩
  obtain ⟨b, off, ha, -, hlt, hcc⟩ := hc (by simpa using hp)
  refine ⟨b, off, ha, hlt, fun i hi => ?_⟩
  have hi2 : i < m.length := by simpa using hi
  exact ⟨m[i], by simp, hcc i hi2, (h2 _ (List.getElem_mem hi2)).1, (h2 _ (List.getElem_mem hi2)).2⟩
theorem Bds.row {w : World} {B : Nat} {v : Value} {l : List Rg.Pr} (h : Bds w B v l) : ∃ a c, v = .slice a l.length c ∧ (0 < l.length → ∃ b off, a = some ⟨b, off, none⟩ ∧ b < B ∧ ∀ i (hi : i < l.length), At w b (off + i * 2) l[i]) := by
  obtain ⟨⟨a, c, rfl, -, -, -, hc⟩, -, -⟩ := h
  refine ⟨a, c, rfl, fun hp => ?_⟩
  obtain ⟨b, off, ha, -, hlt, hcc⟩ := hc hp
  exact ⟨b, off, ha, hlt, hcc⟩
set_option maxRecDepth 100000 in
theorem neq_bind (k1 v1 : ByteArray) (w : World) : (binOp .neq 38 (.agg #[.string k1, .string v1]) (.agg #[.string k1, .string v1])).run Try.prog w = .ok (.bool false) w := by
  have u9 := Try.underlying9
  have a9 := Try.isAgg9
  have z9 := Try.sizeOf9
  have hS : Try.prog.underlying 38 = some (.struct (Try.prog.fieldsOf 38)) := by kernel_rfl
  have hp : Try.prog.stoodInHeld 38 = false := by kernel_rfl
  rw [run_neq_struct, show (10000 : Nat) = 9999 + 1 from rfl, run_equalIn_agg w 9999 38 _ _ hS hp]
  simp only [Program.fieldsOf, Try.underlying38]
  go_simp
theorem guard_bind : Try.prog.eqGuardType Try.prog.depth 38 = false := by kernel_rfl
set_option maxRecDepth 100000 in
set_option maxHeartbeats 4000000 in
theorem same_true (b : Bk) (vn vt vb un ut ub : Value) (w : World) (hv : Books w w.heap.size vn vt vb b) (hu : Books w w.heap.size un ut ub b) :
    Calls Try.prog 12 #[.agg #[vn, vt, vb, .int .u64 (b.fe : Nat)], .agg #[un, ut, ub, .int .u64 (b.fe : Nat)]] w fun e w' => e = .returned (.bool true) ∧ Below w.heap.size w w' := by
  have hln : b.ns.length ≤ 4398046511104 := by obtain ⟨m, hm, -, -, hl⟩ := hv.hn; omega
  have hlt : b.ts.length ≤ 4398046511104 := by obtain ⟨m, hm, -, -, hl⟩ := hv.ht; omega
  have hlb : b.bs.length ≤ 4398046511104 := by have hl := hv.hb.2.2; omega
  obtain ⟨avn, cnv, rfl, hvN⟩ := hv.hn.row
  obtain ⟨avt, ctv, rfl, hvT⟩ := hv.ht.row
  obtain ⟨avb, cbv, rfl, hvB⟩ := hv.hb.row
  obtain ⟨aun, cnu, rfl, huN⟩ := hu.hn.row
  obtain ⟨aut, ctu, rfl, huT⟩ := hu.ht.row
  obtain ⟨aub, cbu, rfl, huB⟩ := hu.hb.row
  obtain ⟨W0, hW0⟩ : ∃ W0, W0 = (w.alloc (.cells #[.slice avn b.ns.length cnv, .slice avt b.ts.length ctv, .slice avb b.bs.length cbv, .int .u64 (b.fe : Nat)] 27)).alloc (.cells #[.slice aun b.ns.length cnu, .slice aut b.ts.length ctu, .slice aub b.bs.length cbu, .int .u64 (b.fe : Nat)] 27) := ⟨_, rfl⟩
  have hb0 : Below w.heap.size w W0 := by rw [hW0]; exact ((Below.refl _ w).alloc (Nat.le_refl _) _).alloc (by simp) _
  have hbx : Hd.Bxn W0 w.heap.size [.slice avn b.ns.length cnv, .slice avt b.ts.length ctv, .slice avb b.bs.length cbv, .int .u64 (b.fe : Nat)] := by
    rw [hW0]
    exact (Hd.Bxn.made w [.slice avn b.ns.length cnv, .slice avt b.ts.length ctv, .slice avb b.bs.length cbv, .int .u64 (b.fe : Nat)] 27).below (al _ _)
  have hby : Hd.Bxn W0 (w.heap.size + 1) [.slice aun b.ns.length cnu, .slice aut b.ts.length ctu, .slice aub b.bs.length cbu, .int .u64 (b.fe : Nat)] := by
    rw [hW0]
    have := Hd.Bxn.made (w.alloc (.cells #[.slice avn b.ns.length cnv, .slice avt b.ts.length ctv, .slice avb b.bs.length cbv, .int .u64 (b.fe : Nat)] 27)) [.slice aun b.ns.length cnu, .slice aut b.ts.length ctu, .slice aub b.bs.length cbu, .int .u64 (b.fe : Nat)] 27
    rwa [World.size_alloc] at this
  have HVN := Lib.hid hvN
  have HVT := Lib.hid hvT
  have HVB := Lib.hid hvB
  have HUN := Lib.hid huN
  have HUT := Lib.hid huT
  have HUB := Lib.hid huB
  have HW := Lib.hid hW0
  have HB0 := Lib.hid hb0
  have HBX := Lib.hid hbx
  have HBY := Lib.hid hby
  have hfe : ((b.fe : Int) != (b.fe : Int)) = false := by simp
  clear hvN hvT hvB huN huT huB hW0 hb0 hbx hby hv hu
  go_enter Try.func12, Try.ntmps12
  go_upto_region 1 with fail
  rw [← HW.out]
  have p0 : W0.cell? ⟨w.heap.size, 0, none⟩ = some (.slice avn b.ns.length cnv) := HBX.out.cell 0
  have p1 : W0.cell? ⟨w.heap.size, 1, none⟩ = some (.slice avt b.ts.length ctv) := HBX.out.cell 1
  have p2 : W0.cell? ⟨w.heap.size, 2, none⟩ = some (.slice avb b.bs.length cbv) := HBX.out.cell 2
  have p3 : W0.cell? ⟨w.heap.size, 3, none⟩ = some (.int .u64 (b.fe : Nat)) := HBX.out.cell 3
  have r0 : W0.cell? ⟨w.heap.size + 1, 0, none⟩ = some (.slice aun b.ns.length cnu) := HBY.out.cell 0
  have r1 : W0.cell? ⟨w.heap.size + 1, 1, none⟩ = some (.slice aut b.ts.length ctu) := HBY.out.cell 1
  have r2 : W0.cell? ⟨w.heap.size + 1, 2, none⟩ = some (.slice aub b.bs.length cbu) := HBY.out.cell 2
  have r3 : W0.cell? ⟨w.heap.size + 1, 3, none⟩ = some (.int .u64 (b.fe : Nat)) := HBY.out.cell 3
  go_wp2
  clear p0 p1 p2 p3 r0 r1 r2 r3
  go_loopg [43] b.ns.length (fun gg i wx => ∃ k : Nat, k + gg = b.ns.length ∧ i = .int .i64 k ∧ Aside (Below W0.heap.size W0 wx))
  case atStart => exact ⟨0, by omega, rfl, Below.refl _ _⟩
  case round =>
    obtain ⟨k, hkg, rfl, HA⟩ := hrel
    have HWN : Hid (Below w.heap.size w wr) := HB0.out.trans (HA.out.mono HB0.out.size)
    have HXN : Hid (Below W0.heap.size W0 wr) := HA.out
    clear HA
    cases gk with
    | zero =>
      obtain rfl : k = b.ns.length := by omega
      clear hkg
      have p1 : wr.cell? ⟨w.heap.size, 1, none⟩ = some (.slice avt b.ts.length ctv) := (HBX.out.below HXN.out).cell 1
      go_wp2
      clear p1
      go_loopg [62] b.ts.length (fun gg i wx => ∃ k : Nat, k + gg = b.ts.length ∧ i = .int .i64 k ∧ Aside (Below W0.heap.size W0 wx))
      case atStart => exact ⟨0, by omega, rfl, HXN.out⟩
      case round =>
        obtain ⟨k, hkg, rfl, HA⟩ := hrel
        have HWT : Hid (Below w.heap.size w wr) := HB0.out.trans (HA.out.mono HB0.out.size)
        have HXT : Hid (Below W0.heap.size W0 wr) := HA.out
        clear HA
        cases gk with
        | zero =>
          obtain rfl : k = b.ts.length := by omega
          clear hkg
          have p2 : wr.cell? ⟨w.heap.size, 2, none⟩ = some (.slice avb b.bs.length cbv) := (HBX.out.below HXT.out).cell 2
          go_wp2
          clear p2
          go_loopg [81] b.bs.length (fun gg i wx => ∃ k : Nat, k + gg = b.bs.length ∧ i = .int .i64 k ∧ Aside (Below W0.heap.size W0 wx))
          case atStart => exact ⟨0, by omega, rfl, HXT.out⟩
          case round =>
            obtain ⟨k, hkg, rfl, HA⟩ := hrel
            have HWB : Hid (Below w.heap.size w wr) := HB0.out.trans (HA.out.mono HB0.out.size)
            have HXB : Hid (Below W0.heap.size W0 wr) := HA.out
            clear HA
            cases gk with
            | zero =>
              obtain rfl : k = b.bs.length := by omega
              clear hkg
              go_wp2
              go_ret
              exact ⟨rfl, HWB.out⟩
            | succ gg =>
              have hlk : k < b.bs.length := by omega
              have t2 : (k : Int) < (b.bs.length : Int) := by omega
              have t3 : IntKind.i64.wrap ((k : Int) + 1) = (k : Int) + 1 := by rw [IntKind.wrap_i64]; omega
              have t4 : (0 : Int) ≤ (k : Int) := by omega
              obtain ⟨g1, o1, rfl, hl1, hr1⟩ := HVB.out (by omega)
              obtain ⟨g2, o2, rfl, hl2, hr2⟩ := HUB.out (by omega)
              have hax := hr1 k hlk
              have hay := hr2 k hlk
              obtain ⟨d0, d1⟩ := at_bd hax
              have e0 := (HWB.out.cell (by exact hl1)).trans d0; have e1 := (HWB.out.cell (by exact hl1)).trans d1; clear d0 d1
              obtain ⟨d0, d1⟩ := at_bd hay
              have f0 := (HWB.out.cell (by exact hl2)).trans d0; have f1 := (HWB.out.cell (by exact hl2)).trans d1; clear d0 d1
              have q1 : wr.cell? ⟨w.heap.size, 2, none⟩ = some (.slice (some ⟨g1, o1, none⟩) b.bs.length cbv) := (HBX.out.below HXB.out).cell 2
              have q2 : wr.cell? ⟨w.heap.size + 1, 2, none⟩ = some (.slice (some ⟨g2, o2, none⟩) b.bs.length cbu) := (HBY.out.below HXB.out).cell 2
              clear hax hay hr1 hr2
              generalize b.bs[k] = x at *
              rcases x with ⟨n1, y1⟩
              have gf := guard_bind
              have hq := neq_bind n1 y1
              go_upto_region 18 with fail
              go_quiet (fail)
              go_wp2
              go_roundg gg
              case measure => omega
              case rel => exact ⟨k + 1, by omega, by simp, Rg.bdN HXB.out _⟩
        | succ gg =>
          have hlk : k < b.ts.length := by omega
          have t2 : (k : Int) < (b.ts.length : Int) := by omega
          have t3 : IntKind.i64.wrap ((k : Int) + 1) = (k : Int) + 1 := by rw [IntKind.wrap_i64]; omega
          have t4 : (0 : Int) ≤ (k : Int) := by omega
          obtain ⟨g1, o1, rfl, hl1, hr1⟩ := HVT.out (by omega)
          obtain ⟨g2, o2, rfl, hl2, hr2⟩ := HUT.out (by omega)
          obtain ⟨x, hx, hax, hdx, hfx⟩ := hr1 k hlk
          obtain ⟨y, hy, hay, hdy, hfy⟩ := hr2 k hlk
          have HSM : Hid (∀ z, Hid (Below wr.heap.size wr z) → Calls Try.prog 33 #[.agg #[.string x.td.n, .int .i64 x.td.z0, .int .i64 x.td.z1, .int .i64 x.td.z2, .slice x.a4 x.td.ws.length x.c4, .slice x.a5 x.td.bs.length x.c5, .string x.td.g, .string x.td.a, .int .i64 x.td.r], .agg #[.string y.td.n, .int .i64 y.td.z0, .int .i64 y.td.z1, .int .i64 y.td.z2, .slice y.a4 y.td.ws.length y.c4, .slice y.a5 y.td.bs.length y.c5, .string y.td.g, .string y.td.a, .int .i64 y.td.r]] z fun e w' => e = .returned (.bool true) ∧ Hid (Below wr.heap.size wr w')) := fun z hz => by
            have hwz : Below w.heap.size w z := HWT.out.trans (hz.out.mono HWT.out.size)
            refine (Hd.same_task x.td y.td x.v4 x.v5 y.v4 y.v5 z ((hdx.on hwz).pr hfx).1 ((hdx.on hwz).pr hfx).2 ((hdy.on hwz).pr hfy).1 ((hdy.on hwz).pr hfy).2).mono ?_
            rintro e w' ⟨he, hb⟩
            rw [Hd.smTd_iff.2 (hx.trans hy.symm)] at he
            exact ⟨he, hz.out.trans (hb.mono hz.out.size)⟩
          obtain ⟨d0, d1, d2, d3, d4, d5, d6, d7, d8⟩ := at_td hax
          have e0 := (HWT.out.cell (by exact hl1)).trans d0; have e1 := (HWT.out.cell (by exact hl1)).trans d1; have e2 := (HWT.out.cell (by exact hl1)).trans d2; have e3 := (HWT.out.cell (by exact hl1)).trans d3; have e4 := (HWT.out.cell (by exact hl1)).trans d4; have e5 := (HWT.out.cell (by exact hl1)).trans d5; have e6 := (HWT.out.cell (by exact hl1)).trans d6; have e7 := (HWT.out.cell (by exact hl1)).trans d7; have e8 := (HWT.out.cell (by exact hl1)).trans d8; clear d0 d1 d2 d3 d4 d5 d6 d7 d8
          obtain ⟨d0, d1, d2, d3, d4, d5, d6, d7, d8⟩ := at_td hay
          have f0 := (HWT.out.cell (by exact hl2)).trans d0; have f1 := (HWT.out.cell (by exact hl2)).trans d1; have f2 := (HWT.out.cell (by exact hl2)).trans d2; have f3 := (HWT.out.cell (by exact hl2)).trans d3; have f4 := (HWT.out.cell (by exact hl2)).trans d4; have f5 := (HWT.out.cell (by exact hl2)).trans d5; have f6 := (HWT.out.cell (by exact hl2)).trans d6; have f7 := (HWT.out.cell (by exact hl2)).trans d7; have f8 := (HWT.out.cell (by exact hl2)).trans d8; clear d0 d1 d2 d3 d4 d5 d6 d7 d8
          have q1 : wr.cell? ⟨w.heap.size, 1, none⟩ = some (.slice (some ⟨g1, o1, none⟩) b.ts.length ctv) := (HBX.out.below HXT.out).cell 1
          have q2 : wr.cell? ⟨w.heap.size + 1, 1, none⟩ = some (.slice (some ⟨g2, o2, none⟩) b.ts.length ctu) := (HBY.out.below HXT.out).cell 1
          have HSZ1 := Lib.hid (show g1 < wr.heap.size from Nat.lt_of_lt_of_le hl1 HWT.out.size)
          have HSZ2 := Lib.hid (show g2 < wr.heap.size from Nat.lt_of_lt_of_le hl2 HWT.out.size)
          have HSP1 : Hid (w.heap.size < wr.heap.size) := World.block_lt_of_cell? wr _ q1
          have HSP2 : Hid (w.heap.size + 1 < wr.heap.size) := World.block_lt_of_cell? wr _ q2
          have HP : Hid (∀ z, Hid (Below wr.heap.size wr z) → (Hid (Below wr.heap.size wr z) ∧ z.cell? ⟨w.heap.size, 1, none⟩ = some (.slice (some ⟨g1, o1, none⟩) b.ts.length ctv) ∧ z.cell? ⟨w.heap.size + 1, 1, none⟩ = some (.slice (some ⟨g2, o2, none⟩) b.ts.length ctu) ∧ z.cell? ⟨g1, o1 + k * 9, none⟩ = some (.string x.td.n) ∧ z.cell? ⟨g1, o1 + k * 9 + 1, none⟩ = some (.int .i64 x.td.z0) ∧ z.cell? ⟨g1, o1 + k * 9 + 2, none⟩ = some (.int .i64 x.td.z1) ∧ z.cell? ⟨g1, o1 + k * 9 + 3, none⟩ = some (.int .i64 x.td.z2) ∧ z.cell? ⟨g1, o1 + k * 9 + 4, none⟩ = some (.slice x.a4 x.td.ws.length x.c4) ∧ z.cell? ⟨g1, o1 + k * 9 + 5, none⟩ = some (.slice x.a5 x.td.bs.length x.c5) ∧ z.cell? ⟨g1, o1 + k * 9 + 6, none⟩ = some (.string x.td.g) ∧ z.cell? ⟨g1, o1 + k * 9 + 7, none⟩ = some (.string x.td.a) ∧ z.cell? ⟨g1, o1 + k * 9 + 8, none⟩ = some (.int .i64 x.td.r) ∧ z.cell? ⟨g2, o2 + k * 9, none⟩ = some (.string y.td.n) ∧ z.cell? ⟨g2, o2 + k * 9 + 1, none⟩ = some (.int .i64 y.td.z0) ∧ z.cell? ⟨g2, o2 + k * 9 + 2, none⟩ = some (.int .i64 y.td.z1) ∧ z.cell? ⟨g2, o2 + k * 9 + 3, none⟩ = some (.int .i64 y.td.z2) ∧ z.cell? ⟨g2, o2 + k * 9 + 4, none⟩ = some (.slice y.a4 y.td.ws.length y.c4) ∧ z.cell? ⟨g2, o2 + k * 9 + 5, none⟩ = some (.slice y.a5 y.td.bs.length y.c5) ∧ z.cell? ⟨g2, o2 + k * 9 + 6, none⟩ = some (.string y.td.g) ∧ z.cell? ⟨g2, o2 + k * 9 + 7, none⟩ = some (.string y.td.a) ∧ z.cell? ⟨g2, o2 + k * 9 + 8, none⟩ = some (.int .i64 y.td.r))) := fun z hz => ⟨hz, (hz.out.cell (by exact HSP1.out)).trans q1, (hz.out.cell (by exact HSP2.out)).trans q2, (hz.out.cell (by exact HSZ1.out)).trans e0, (hz.out.cell (by exact HSZ1.out)).trans e1, (hz.out.cell (by exact HSZ1.out)).trans e2, (hz.out.cell (by exact HSZ1.out)).trans e3, (hz.out.cell (by exact HSZ1.out)).trans e4, (hz.out.cell (by exact HSZ1.out)).trans e5, (hz.out.cell (by exact HSZ1.out)).trans e6, (hz.out.cell (by exact HSZ1.out)).trans e7, (hz.out.cell (by exact HSZ1.out)).trans e8, (hz.out.cell (by exact HSZ2.out)).trans f0, (hz.out.cell (by exact HSZ2.out)).trans f1, (hz.out.cell (by exact HSZ2.out)).trans f2, (hz.out.cell (by exact HSZ2.out)).trans f3, (hz.out.cell (by exact HSZ2.out)).trans f4, (hz.out.cell (by exact HSZ2.out)).trans f5, (hz.out.cell (by exact HSZ2.out)).trans f6, (hz.out.cell (by exact HSZ2.out)).trans f7, (hz.out.cell (by exact HSZ2.out)).trans f8⟩
          clear q1 q2 e0 e1 e2 e3 e4 e5 e6 e7 e8 f0 f1 f2 f3 f4 f5 f6 f7 f8 hax hay hdx hdy hfx hfy hr1 hr2 hx hy
          have H0d : Hid (Below wr.heap.size wr wr.drew) := ⟨rfl, rfl, rfl, Nat.le_refl _, fun _ _ => rfl⟩
          have KD := Lib.hid (HP.out wr.drew H0d)
          go_upto_region 12 with fail
          go_region_held3 (fun z => Hid (Below wr.heap.size wr z) ∧ z.cell? ⟨w.heap.size, 1, none⟩ = some (.slice (some ⟨g1, o1, none⟩) b.ts.length ctv) ∧ z.cell? ⟨w.heap.size + 1, 1, none⟩ = some (.slice (some ⟨g2, o2, none⟩) b.ts.length ctu) ∧ z.cell? ⟨g1, o1 + k * 9, none⟩ = some (.string x.td.n) ∧ z.cell? ⟨g1, o1 + k * 9 + 1, none⟩ = some (.int .i64 x.td.z0) ∧ z.cell? ⟨g1, o1 + k * 9 + 2, none⟩ = some (.int .i64 x.td.z1) ∧ z.cell? ⟨g1, o1 + k * 9 + 3, none⟩ = some (.int .i64 x.td.z2) ∧ z.cell? ⟨g1, o1 + k * 9 + 4, none⟩ = some (.slice x.a4 x.td.ws.length x.c4) ∧ z.cell? ⟨g1, o1 + k * 9 + 5, none⟩ = some (.slice x.a5 x.td.bs.length x.c5) ∧ z.cell? ⟨g1, o1 + k * 9 + 6, none⟩ = some (.string x.td.g) ∧ z.cell? ⟨g1, o1 + k * 9 + 7, none⟩ = some (.string x.td.a) ∧ z.cell? ⟨g1, o1 + k * 9 + 8, none⟩ = some (.int .i64 x.td.r) ∧ z.cell? ⟨g2, o2 + k * 9, none⟩ = some (.string y.td.n) ∧ z.cell? ⟨g2, o2 + k * 9 + 1, none⟩ = some (.int .i64 y.td.z0) ∧ z.cell? ⟨g2, o2 + k * 9 + 2, none⟩ = some (.int .i64 y.td.z1) ∧ z.cell? ⟨g2, o2 + k * 9 + 3, none⟩ = some (.int .i64 y.td.z2) ∧ z.cell? ⟨g2, o2 + k * 9 + 4, none⟩ = some (.slice y.a4 y.td.ws.length y.c4) ∧ z.cell? ⟨g2, o2 + k * 9 + 5, none⟩ = some (.slice y.a5 y.td.bs.length y.c5) ∧ z.cell? ⟨g2, o2 + k * 9 + 6, none⟩ = some (.string y.td.g) ∧ z.cell? ⟨g2, o2 + k * 9 + 7, none⟩ = some (.string y.td.a) ∧ z.cell? ⟨g2, o2 + k * 9 + 8, none⟩ = some (.int .i64 y.td.r)) (first | assumption | exact KD.out | exact HP.out _ ‹_›)
            (first | ((with_reducible refine (HSM.out _ ?_).mono ?_); (first | assumption | exact H0d); rintro e w7 ⟨rfl, hb7⟩; have hs7 := HP.out _ hb7))
          all_goals clear hs7
          all_goals go_wp2
          all_goals go_roundg gg
          case measure => omega
          case rel => exact ⟨k + 1, by omega, by simp, HXT.out.trans (hb7.out.mono HXT.out.size)⟩
    | succ gg =>
      have hlk : k < b.ns.length := by omega
      have t2 : (k : Int) < (b.ns.length : Int) := by omega
      have t3 : IntKind.i64.wrap ((k : Int) + 1) = (k : Int) + 1 := by rw [IntKind.wrap_i64]; omega
      have t4 : (0 : Int) ≤ (k : Int) := by omega
      obtain ⟨g1, o1, rfl, hl1, hr1⟩ := HVN.out (by omega)
      obtain ⟨g2, o2, rfl, hl2, hr2⟩ := HUN.out (by omega)
      obtain ⟨x, hx, hax, hdx, hfx⟩ := hr1 k hlk
      obtain ⟨y, hy, hay, hdy, hfy⟩ := hr2 k hlk
      have HSM : Hid (∀ z, Hid (Below wr.heap.size wr z) → Calls Try.prog 32 #[.agg #[.string x.nd.n, .int .i64 x.nd.z0, .int .i64 x.nd.z1, .int .i64 x.nd.z2, .slice x.a2 x.nd.ls.length x.c2, .slice x.a3 x.nd.ts.length x.c3], .agg #[.string y.nd.n, .int .i64 y.nd.z0, .int .i64 y.nd.z1, .int .i64 y.nd.z2, .slice y.a2 y.nd.ls.length y.c2, .slice y.a3 y.nd.ts.length y.c3]] z fun e w' => e = .returned (.bool true) ∧ Hid (Below wr.heap.size wr w')) := fun z hz => by
        have hwz : Below w.heap.size w z := HWN.out.trans (hz.out.mono HWN.out.size)
        refine (Hd.same_node x.nd y.nd x.v2 x.v3 y.v2 y.v3 z ((hdx.on hwz).pr hfx).1 ((hdx.on hwz).pr hfx).2 ((hdy.on hwz).pr hfy).1 ((hdy.on hwz).pr hfy).2).mono ?_
        rintro e w' ⟨he, hb⟩
        rw [Hd.smNd_iff.2 (hx.trans hy.symm)] at he
        exact ⟨he, hz.out.trans (hb.mono hz.out.size)⟩
      obtain ⟨d0, d1, d2, d3, d4, d5⟩ := at_nd hax
      have e0 := (HWN.out.cell (by exact hl1)).trans d0; have e1 := (HWN.out.cell (by exact hl1)).trans d1; have e2 := (HWN.out.cell (by exact hl1)).trans d2; have e3 := (HWN.out.cell (by exact hl1)).trans d3; have e4 := (HWN.out.cell (by exact hl1)).trans d4; have e5 := (HWN.out.cell (by exact hl1)).trans d5; clear d0 d1 d2 d3 d4 d5
      obtain ⟨d0, d1, d2, d3, d4, d5⟩ := at_nd hay
      have f0 := (HWN.out.cell (by exact hl2)).trans d0; have f1 := (HWN.out.cell (by exact hl2)).trans d1; have f2 := (HWN.out.cell (by exact hl2)).trans d2; have f3 := (HWN.out.cell (by exact hl2)).trans d3; have f4 := (HWN.out.cell (by exact hl2)).trans d4; have f5 := (HWN.out.cell (by exact hl2)).trans d5; clear d0 d1 d2 d3 d4 d5
      have q1 : wr.cell? ⟨w.heap.size, 0, none⟩ = some (.slice (some ⟨g1, o1, none⟩) b.ns.length cnv) := (HBX.out.below HXN.out).cell 0
      have q2 : wr.cell? ⟨w.heap.size + 1, 0, none⟩ = some (.slice (some ⟨g2, o2, none⟩) b.ns.length cnu) := (HBY.out.below HXN.out).cell 0
      have HSZ1 := Lib.hid (show g1 < wr.heap.size from Nat.lt_of_lt_of_le hl1 HWN.out.size)
      have HSZ2 := Lib.hid (show g2 < wr.heap.size from Nat.lt_of_lt_of_le hl2 HWN.out.size)
      have HSP1 : Hid (w.heap.size < wr.heap.size) := World.block_lt_of_cell? wr _ q1
      have HSP2 : Hid (w.heap.size + 1 < wr.heap.size) := World.block_lt_of_cell? wr _ q2
      have HP : Hid (∀ z, Hid (Below wr.heap.size wr z) → (Hid (Below wr.heap.size wr z) ∧ z.cell? ⟨w.heap.size, 0, none⟩ = some (.slice (some ⟨g1, o1, none⟩) b.ns.length cnv) ∧ z.cell? ⟨w.heap.size + 1, 0, none⟩ = some (.slice (some ⟨g2, o2, none⟩) b.ns.length cnu) ∧ z.cell? ⟨g1, o1 + k * 6, none⟩ = some (.string x.nd.n) ∧ z.cell? ⟨g1, o1 + k * 6 + 1, none⟩ = some (.int .i64 x.nd.z0) ∧ z.cell? ⟨g1, o1 + k * 6 + 2, none⟩ = some (.int .i64 x.nd.z1) ∧ z.cell? ⟨g1, o1 + k * 6 + 3, none⟩ = some (.int .i64 x.nd.z2) ∧ z.cell? ⟨g1, o1 + k * 6 + 4, none⟩ = some (.slice x.a2 x.nd.ls.length x.c2) ∧ z.cell? ⟨g1, o1 + k * 6 + 5, none⟩ = some (.slice x.a3 x.nd.ts.length x.c3) ∧ z.cell? ⟨g2, o2 + k * 6, none⟩ = some (.string y.nd.n) ∧ z.cell? ⟨g2, o2 + k * 6 + 1, none⟩ = some (.int .i64 y.nd.z0) ∧ z.cell? ⟨g2, o2 + k * 6 + 2, none⟩ = some (.int .i64 y.nd.z1) ∧ z.cell? ⟨g2, o2 + k * 6 + 3, none⟩ = some (.int .i64 y.nd.z2) ∧ z.cell? ⟨g2, o2 + k * 6 + 4, none⟩ = some (.slice y.a2 y.nd.ls.length y.c2) ∧ z.cell? ⟨g2, o2 + k * 6 + 5, none⟩ = some (.slice y.a3 y.nd.ts.length y.c3))) := fun z hz => ⟨hz, (hz.out.cell (by exact HSP1.out)).trans q1, (hz.out.cell (by exact HSP2.out)).trans q2, (hz.out.cell (by exact HSZ1.out)).trans e0, (hz.out.cell (by exact HSZ1.out)).trans e1, (hz.out.cell (by exact HSZ1.out)).trans e2, (hz.out.cell (by exact HSZ1.out)).trans e3, (hz.out.cell (by exact HSZ1.out)).trans e4, (hz.out.cell (by exact HSZ1.out)).trans e5, (hz.out.cell (by exact HSZ2.out)).trans f0, (hz.out.cell (by exact HSZ2.out)).trans f1, (hz.out.cell (by exact HSZ2.out)).trans f2, (hz.out.cell (by exact HSZ2.out)).trans f3, (hz.out.cell (by exact HSZ2.out)).trans f4, (hz.out.cell (by exact HSZ2.out)).trans f5⟩
      clear q1 q2 e0 e1 e2 e3 e4 e5 f0 f1 f2 f3 f4 f5 hax hay hdx hdy hfx hfy hr1 hr2 hx hy
      have H0d : Hid (Below wr.heap.size wr wr.drew) := ⟨rfl, rfl, rfl, Nat.le_refl _, fun _ _ => rfl⟩
      have KD := Lib.hid (HP.out wr.drew H0d)
      go_upto_region 6 with fail
      go_region_held3 (fun z => Hid (Below wr.heap.size wr z) ∧ z.cell? ⟨w.heap.size, 0, none⟩ = some (.slice (some ⟨g1, o1, none⟩) b.ns.length cnv) ∧ z.cell? ⟨w.heap.size + 1, 0, none⟩ = some (.slice (some ⟨g2, o2, none⟩) b.ns.length cnu) ∧ z.cell? ⟨g1, o1 + k * 6, none⟩ = some (.string x.nd.n) ∧ z.cell? ⟨g1, o1 + k * 6 + 1, none⟩ = some (.int .i64 x.nd.z0) ∧ z.cell? ⟨g1, o1 + k * 6 + 2, none⟩ = some (.int .i64 x.nd.z1) ∧ z.cell? ⟨g1, o1 + k * 6 + 3, none⟩ = some (.int .i64 x.nd.z2) ∧ z.cell? ⟨g1, o1 + k * 6 + 4, none⟩ = some (.slice x.a2 x.nd.ls.length x.c2) ∧ z.cell? ⟨g1, o1 + k * 6 + 5, none⟩ = some (.slice x.a3 x.nd.ts.length x.c3) ∧ z.cell? ⟨g2, o2 + k * 6, none⟩ = some (.string y.nd.n) ∧ z.cell? ⟨g2, o2 + k * 6 + 1, none⟩ = some (.int .i64 y.nd.z0) ∧ z.cell? ⟨g2, o2 + k * 6 + 2, none⟩ = some (.int .i64 y.nd.z1) ∧ z.cell? ⟨g2, o2 + k * 6 + 3, none⟩ = some (.int .i64 y.nd.z2) ∧ z.cell? ⟨g2, o2 + k * 6 + 4, none⟩ = some (.slice y.a2 y.nd.ls.length y.c2) ∧ z.cell? ⟨g2, o2 + k * 6 + 5, none⟩ = some (.slice y.a3 y.nd.ts.length y.c3)) (first | assumption | exact KD.out | exact HP.out _ ‹_›)
        (first | ((with_reducible refine (HSM.out _ ?_).mono ?_); (first | assumption | exact H0d); rintro e w7 ⟨rfl, hb7⟩; have hs7 := HP.out _ hb7))
      all_goals clear hs7
      all_goals go_wp2
      all_goals go_roundg gg
      case measure => omega
      case rel => exact ⟨k + 1, by omega, by simp, HXN.out.trans (hb7.out.mono HXN.out.size)⟩
end Bo
end Go.Proofs.Ythbmnkeigmbbdaa
