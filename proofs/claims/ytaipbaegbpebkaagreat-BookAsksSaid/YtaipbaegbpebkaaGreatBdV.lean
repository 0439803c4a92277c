/-
  Merged: RigSumR, RigCheckR, BoApp, BoCpyN, BoCpy, BoUsedQ, BdFind, BdThere, BdNode.
-/
import Derived.Test.YtaipbaegbpebkaaGreatRigSum
import Derived.Test.YtaipbaegbpebkaaGreatRigCheck
import Derived.Test.YtaipbaegbpebkaaGreatBgZ
import Derived.Laws.AppendOwnNone
import Derived.Maps.AppendAt
import Derived.Test.YtaipbaegbpebkaaGreatBoSame
import Derived.Deep.RegionWith
import Derived.Deep.RegionHeld3
import Derived.Deep.LoopGhost
import Derived.Test.YtaipbaegbpebkaaGreatBgU
/- SUMS, second part: the document's Sum. -/
namespace Go.Proofs.YtaipbaegbpebkaaGreat
open Go.RowKit
namespace Rg
set_option maxRecDepth 100000 in
set_option maxHeartbeats 4000000 in
theorem sum_ref (v : Value) (l : List Tk) (w : World) (hv : Tasks w w.heap.size v l) :
    Calls Tryz.prog 86 #[v] w fun e w' => SumIs l e ∧ Below w.heap.size w w' := by
  obtain ⟨a, c, rfl, hl, -, hc⟩ := hv
  have HC := Lib.hid hc
  clear hc
  by_cases hbig : (32 : Int) < (l.length : Int)
  · have HN := Lib.hid (sumE_big l (by omega))
    go_enter Tryz.func86, Tryz.ntmps86
    go_wp2
    refine bodyPost_arr rfl w.heap.size 0 0 0 rfl rfl ?_ ?_ ?_ ?_
    case refine_1 => go_simp
    case refine_2 => go_simp
    case refine_3 => go_simp
    case refine_4 => exact ⟨.bad HN.out, two _ _ _⟩
  · have HL := Lib.hid (show ¬ 32 < l.length by omega)
    go_enter Tryz.func86, Tryz.ntmps86
    go_wp2
    go_loopg [15] l.length (fun g i wx => ∃ k : Nat, k + g = l.length ∧ i = .int .i64 k ∧ Aside (okT (l.take k) = true) ∧ Aside (Three wx w.heap.size 0 0 0) ∧ Aside (Three wx (w.heap.size + 1) (sm (·.z0) (l.take k)) (sm (·.z1) (l.take k)) (sm (·.z2) (l.take k))) ∧ Below w.heap.size w wx)
    case atStart => exact ⟨0, by omega, rfl, by show _ = _; simp [okT], (Three.made _ _ _ _).alloc _, Three.made1 _ _ _ _ _, two _ _ _⟩
    case round =>
      obtain ⟨k, hkg, rfl, HA, HB, HD, hbx⟩ := hrel
      have HX := Lib.hid hbx
      obtain ⟨p0, p1, p2, q0, q1, q2⟩ := HB.out.cells
      obtain ⟨r0, r1, r2, s0, s1, s2⟩ := HD.out.cells
      have hszr := HD.out.lt
      cases gk with
      | zero =>
        obtain rfl : k = l.length := by omega
        have HN := Lib.hid (sumE_ok l HL.out (by have := HA.out; rwa [List.take_length] at this))
        rw [List.take_length] at r0 r1 r2
        have HS := Lib.hid (SumIs.ok HN.out)
        generalize sm (·.z0) l = t0 at *
        generalize sm (·.z1) l = t1 at *
        generalize sm (·.z2) l = t2 at *
        clear hkg hbx
        go_wp2
        refine bodyPost_arr rfl w.heap.size t0 t1 t2 rfl rfl ?_ ?_ ?_ ?_
        case refine_1 => go_simp
        case refine_2 => go_simp
        case refine_3 => go_simp
        case refine_4 => exact ⟨HS.out, ((HX.out.setCell (Nat.le_refl _) _).setCell (Nat.le_refl _) _).setCell (Nat.le_refl _) _⟩
      | succ g =>
        have hlk : k < l.length := by omega
        have HG := Lib.hid hkg
        have HOK := Lib.hid (ok_snoc l k hlk)
        have HBAD := Lib.hid (ok_bad l k hlk)
        have HS0 := Lib.hid (sm_snoc (·.z0) l k hlk)
        have HS1 := Lib.hid (sm_snoc (·.z1) l k hlk)
        have HS2 := Lib.hid (sm_snoc (·.z2) l k hlk)
        have HLE := Lib.hid (sm_all (l.take k) HA.out)
        have hk32 : (l.take k).length ≤ 32 := by have := HL.out; rw [List.length_take]; omega
        obtain ⟨b, off, rfl, hblt, hcc⟩ := HC.out (by omega)
        obtain ⟨c0, c1, c2, c3, c4, c5, c6, c7, c8⟩ := hcc k hlk
        have kp : ∀ o, wr.cell? ⟨b, o, none⟩ = w.cell? ⟨b, o, none⟩ := fun o => hbx.cell (by exact hblt)
        rw [← kp] at c0 c1 c2 c3 c4 c5 c6 c7 c8
        clear hkg hbx kp hcc
        generalize l[k] = t at *
        generalize sm (·.z0) (l.take k) = y0 at *
        generalize sm (·.z1) (l.take k) = y1 at *
        generalize sm (·.z2) (l.take k) = y2 at *
        rcases t with ⟨tn, tg, ta, z0, z1, z2, tr, twa, twn, twc, tba, tbn, tbc⟩
        simp only at c0 c1 c2 c3 c4 c5 c6 c7 c8
        have hne : w.heap.size ≠ wr.heap.size := by omega
        have hne2 : w.heap.size + 1 ≠ wr.heap.size := by omega
        have U1 : Hid (∀ w, Calls Tryz.prog 117 #[.agg #[.int .i64 z0, .int .i64 z1, .int .i64 z2], .int .i64 1] w fun e w' => e = .returned (.bool (uptoB z0 z1 z2 1099511627776)) ∧ Below w.heap.size w w') := fun w => amounts_1 z0 z1 z2 w
        obtain ⟨wo, rfl⟩ : ∃ wo : World, wo = wr := ⟨_, rfl⟩
        cases hup : uptoB z0 z1 z2 1099511627776
        · rw [hup] at U1
          have HN := Lib.hid (sumE_bad l HL.out (HBAD.out hup))
          clear hup
          go_wp2_with fail
          refine (U1.out _).mono ?_
          rintro e w1 ⟨rfl, hb⟩
          have T0 := HB.out.kept (w' := w1) ((hb.block _ (by simp; omega)).trans (Below.heap_alloc _ _ _ (by omega)))
          have HW := Lib.hid ((HX.out.alloc (by omega) _).trans (hb.mono (by simp; omega)))
          obtain ⟨p0', p1', p2', q0', q1', q2'⟩ := T0.cells
          clear hb T0
          go_wp2
          refine bodyPost_arr rfl w.heap.size 0 0 0 rfl rfl ?_ ?_ ?_ ?_
          case refine_1 => go_simp
          case refine_2 => go_simp
          case refine_3 => go_simp
          case refine_4 => exact ⟨.bad HN.out, ((HW.out.setCell (Nat.le_refl _) _).setCell (Nat.le_refl _) _).setCell (Nat.le_refl _) _⟩
        · rw [hup] at U1
          have HK : Hid (okT (l.take (k + 1)) = true) := by
            show _ = _
            rw [HOK.out, HA.out, show okK ⟨tn, tg, ta, z0, z1, z2, tr, twa, twn, twc, tba, tbn, tbc⟩ = true from hup]; rfl
          obtain ⟨⟨e0, e0'⟩, ⟨e1, e1'⟩, e2, e2'⟩ := upto_in _ _ _ _ hup
          obtain ⟨⟨l0, l0'⟩, ⟨l1, l1'⟩, l2, l2'⟩ := HLE.out
          have x0 : IntKind.i64.wrap (y0 + z0) = y0 + z0 := by rw [IntKind.wrap_i64]; omega
          have x1 : IntKind.i64.wrap (y1 + z1) = y1 + z1 := by rw [IntKind.wrap_i64]; omega
          have x2 : IntKind.i64.wrap (y2 + z2) = y2 + z2 := by rw [IntKind.wrap_i64]; omega
          have I0 := arr0 z0 z1 z2
          have I1 := arr1 z0 z1 z2
          have I2 := arr2 z0 z1 z2
          clear hup
          go_wp2_with fail
          refine (U1.out _).mono ?_
          rintro e w1 ⟨rfl, hb⟩
          have T0 := Lib.hid (HB.out.kept (w' := w1) ((hb.block _ (by simp; omega)).trans (Below.heap_alloc _ _ _ (by omega))))
          have T1 := Lib.hid (HD.out.kept (w' := w1) ((hb.block _ (by simp; omega)).trans (Below.heap_alloc _ _ _ (by omega))))
          have HW := Lib.hid ((HX.out.alloc (by omega) _).trans (hb.mono (by simp; omega)))
          have g1 : w1.cell? ⟨wo.heap.size, 1, none⟩ = some (.int .i64 z0) := by rw [hb.cell (by simp)]; simp [go_sem]
          have g2 : w1.cell? ⟨wo.heap.size, 2, none⟩ = some (.int .i64 z1) := by rw [hb.cell (by simp)]; simp [go_sem]
          have g3 : w1.cell? ⟨wo.heap.size, 3, none⟩ = some (.int .i64 z2) := by rw [hb.cell (by simp)]; simp [go_sem]
          clear hb
          go_wp2
          go_loopg [26] 3 (fun g2 i wx => ∃ m : Nat, m + g2 = 3 ∧ i = .int .i64 m ∧ Aside (Three wx w.heap.size 0 0 0) ∧ Aside (Three wx (w.heap.size + 1) (pick m 0 y0 (y0 + z0)) (pick m 1 y1 (y1 + z1)) (pick m 2 y2 (y2 + z2))) ∧ Below w.heap.size w wx)
          case atStart => exact ⟨0, by omega, rfl, T0.out, T1.out, HW.out⟩
          case round =>
            obtain ⟨m, hmg, rfl, HE, HF, hby⟩ := hrel
            have HY := Lib.hid hby
            clear hby
            cases gk with
            | zero =>
              obtain rfl : m = 3 := by omega
              clear hmg
              go_wp2
              go_roundg g
              case measure => omega
              case rel =>
                refine ⟨k + 1, by have := HG.out; omega, by go_num, HK.out, HE.out, ?_, HY.out⟩
                show Three _ _ _ _ _
                rw [HS0.out, HS1.out, HS2.out]
                exact HF.out
            | succ g2 =>
              have HG2 := Lib.hid hmg
              have h3 : m = 0 ∨ m = 1 ∨ m = 2 := by omega
              clear hmg
              rcases h3 with rfl | rfl | rfl
              · obtain ⟨n0, n1, n2, m0, m1, m2⟩ := HF.out.cells
                have N0 : wr.cell? ⟨w.heap.size + 1, 0, none⟩ = some (.int .i64 y0) := n0
                clear n0 n1 n2
                go_wp2
                go_roundg g2
                case measure => omega
                case rel => exact ⟨1, by have := HG2.out; omega, rfl, HE.out.far (by simp) _, HF.out.set0 _, HY.out.setCell (by show w.heap.size ≤ w.heap.size + 1; omega) _⟩
              · obtain ⟨n0, n1, n2, m0, m1, m2⟩ := HF.out.cells
                have N1 : wr.cell? ⟨w.heap.size + 1, 1, none⟩ = some (.int .i64 y1) := n1
                clear n0 n1 n2
                go_wp2
                go_roundg g2
                case measure => omega
                case rel => exact ⟨2, by have := HG2.out; omega, rfl, HE.out.far (by simp) _, HF.out.set1 _, HY.out.setCell (by show w.heap.size ≤ w.heap.size + 1; omega) _⟩
              · obtain ⟨n0, n1, n2, m0, m1, m2⟩ := HF.out.cells
                have N2 : wr.cell? ⟨w.heap.size + 1, 2, none⟩ = some (.int .i64 y2) := n2
                clear n0 n1 n2
                go_wp2
                go_roundg g2
                case measure => omega
                case rel => exact ⟨3, by have := HG2.out; omega, rfl, HE.out.far (by simp) _, HF.out.set2 _, HY.out.setCell (by show w.heap.size ≤ w.heap.size + 1; omega) _⟩
end Rg
end Go.Proofs.YtaipbaegbpebkaaGreat

/- CHECKS, second part: the document's CheckTask. -/
namespace Go.Proofs.YtaipbaegbpebkaaGreat
open Go.RowKit
namespace Rg
set_option maxRecDepth 100000 in
set_option maxHeartbeats 4000000 in
theorem task_ref (xn xg xa : ByteArray) (x0 x1 x2 xr : Int) (xwa xba : Option Addr) (xwn xwc xbn xbc : Nat) (ws bs : List Pr) (w : World) (hs : xn.size ≤ maxLen ∧ xg.size ≤ maxLen ∧ xa.size ≤ maxLen) (h1 : Pairs w w.heap.size (.slice xwa xwn xwc) ws) (h2 : Pairs w w.heap.size (.slice xba xbn xbc) bs) :
    Calls Tryz.prog 73 #[.agg #[.string xn, .int .i64 x0, .int .i64 x1, .int .i64 x2, .slice xwa xwn xwc, .slice xba xbn xbc, .string xg, .string xa, .int .i64 xr]] w fun e w' => e = .returned (.int .i64 (taskE xn xg xa x0 x1 x2 xr ws bs : Nat)) ∧ Below w.heap.size w w' := by
  have H1 := Lib.hid (fun w => name_ref xn w hs.1)
  have HG := Lib.hid (fun w => name_ref xg w hs.2.1)
  have HA := Lib.hid (fun w => name_ref xa w hs.2.2)
  have HU : Hid (∀ w, Calls Tryz.prog 117 #[.agg #[.int .i64 x0, .int .i64 x1, .int .i64 x2], .int .i64 1] w fun e w' => e = .returned (.bool (uptoB x0 x1 x2 1099511627776)) ∧ Below w.heap.size w w') := fun w => amounts_1 x0 x1 x2 w
  have HP1 : Hid (∀ x, Below w.heap.size w x → Calls Tryz.prog 118 #[.slice xwa xwn xwc] x fun e w' => e = .returned (.bool (prB ws)) ∧ Below x.heap.size x w') := fun x hb => pairs_ref _ _ x (h1.ovr hb)
  have HP2 : Hid (∀ x, Below w.heap.size w x → Calls Tryz.prog 118 #[.slice xba xbn xbc] x fun e w' => e = .returned (.bool (prB bs)) ∧ Below x.heap.size x w') := fun x hb => pairs_ref _ _ x (h2.ovr hb)
  have HE : Hid (taskE xn xg xa x0 x1 x2 xr ws bs = if nameB xn = true then (if uptoB x0 x1 x2 1099511627776 = true then (if xr < -1000 then 1 else if 1000 < xr then 1 else if prB ws = true then (if prB bs = true then (if noeB xg = true then (if noeB xa = true then 0 else 4) else 4) else 4) else 4) else 1) else 5) := rfl
  have HG0 : Hid (xg.toList = [] → noeB xg = true) := fun h => by unfold noeB; simp [h]
  have HG1 : Hid (¬ xg.toList = [] → noeB xg = nameB xg) := fun h => by unfold noeB; simp [h]
  have HA0 : Hid (xa.toList = [] → noeB xa = true) := fun h => by unfold noeB; simp [h]
  have HA1 : Hid (¬ xa.toList = [] → noeB xa = nameB xa) := fun h => by unfold noeB; simp [h]
  have HB0 := Lib.hid (Below.refl (w.alloc (.cells #[.string xn, .int .i64 x0, .int .i64 x1, .int .i64 x2, .slice xwa xwn xwc, .slice xba xbn xbc, .string xg, .string xa, .int .i64 xr] 34)).heap.size (w.alloc (.cells #[.string xn, .int .i64 x0, .int .i64 x1, .int .i64 x2, .slice xwa xwn xwc, .slice xba xbn xbc, .string xg, .string xa, .int .i64 xr] 34)))
  clear h1 h2 hs
  generalize nameB xn = r1 at *
  generalize uptoB x0 x1 x2 1099511627776 = r2 at *
  generalize prB ws = r3 at *
  generalize prB bs = r4 at *
  generalize noeB xg = r5 at *
  generalize noeB xa = r6 at *
  generalize nameB xg = q5 at *
  generalize nameB xa = q6 at *
  go_enter Tryz.func73, Tryz.ntmps73
  go_wp2_with fail
  refine (H1.out _).mono ?_
  rintro e w' ⟨rfl, rfl⟩
  cases r1
  · have HN : Hid (taskE xn xg xa x0 x1 x2 xr ws bs = 5) := HE.out
    go_wp2
    go_ret
    exact ⟨by rw [HN.out]; rfl, (boxed1 HB0.out).2⟩
  · go_wp2_with fail
    refine (HU.out _).mono ?_
    rintro e w1 ⟨rfl, hb⟩
    have HB1 := Lib.hid (HB0.out.trans (hb.mono HB0.out.size))
    clear hb
    have c1 := (boxed1 HB1.out).1
    cases r2
    · have HN : Hid (taskE xn xg xa x0 x1 x2 xr ws bs = 1) := HE.out
      go_wp2
      go_ret
      exact ⟨by rw [HN.out]; rfl, (boxed1 HB1.out).2⟩
    · by_cases hr : xr < -1000
      · have HN : Hid (taskE xn xg xa x0 x1 x2 xr ws bs = 1) := HE.out.trans (if_pos hr)
        go_wp2
        go_ret
        exact ⟨by rw [HN.out]; rfl, (boxed1 HB1.out).2⟩
      · have hr2 : decide (xr < -1000) = false := by simpa using hr
        have HE2 := Lib.hid (HE.out.trans (if_neg hr))
        by_cases hq : 1000 < xr
        · have HN : Hid (taskE xn xg xa x0 x1 x2 xr ws bs = 1) := HE2.out.trans (if_pos hq)
          go_wp2
          go_ret
          exact ⟨by rw [HN.out]; rfl, (boxed1 HB1.out).2⟩
        · have hq2 : decide (1000 < xr) = false := by simpa using hq
          have HE3 := Lib.hid (HE2.out.trans (if_neg hq))
          clear HE2 HE hr hq
          go_wp2_with fail
          refine (HP1.out _ (boxed1 HB1.out).2).mono ?_
          rintro e w2 ⟨rfl, hb⟩
          have HB2 := Lib.hid (HB1.out.trans (hb.mono HB1.out.size))
          clear hb c1
          have c2 := (boxed1 HB2.out).1
          cases r3
          · have HN : Hid (taskE xn xg xa x0 x1 x2 xr ws bs = 4) := HE3.out
            go_wp2
            go_ret
            exact ⟨by rw [HN.out]; rfl, (boxed1 HB2.out).2⟩
          · go_wp2_with fail
            refine (HP2.out _ (boxed1 HB2.out).2).mono ?_
            rintro e w3 ⟨rfl, hb⟩
            have HB3 := Lib.hid (HB2.out.trans (hb.mono HB2.out.size))
            clear hb c2
            have c3 := (boxed1 HB3.out).1
            cases r4
            · have HN : Hid (taskE xn xg xa x0 x1 x2 xr ws bs = 4) := HE3.out
              go_wp2
              go_ret
              exact ⟨by rw [HN.out]; rfl, (boxed1 HB3.out).2⟩
            · by_cases hg : xg.toList = []
              · obtain rfl : r5 = true := HG0.out hg
                by_cases ha : xa.toList = []
                · obtain rfl : r6 = true := HA0.out ha
                  have HN : Hid (taskE xn xg xa x0 x1 x2 xr ws bs = 0) := HE3.out
                  go_wp2
                  go_ret
                  exact ⟨by rw [HN.out]; rfl, (boxed1 HB3.out).2⟩
                · obtain rfl : r6 = q6 := HA1.out ha
                  have ha2 : xa.toList.isEmpty = false := by simpa using ha
                  go_wp2_with fail
                  refine (HA.out _).mono ?_
                  rintro e w' ⟨rfl, rfl⟩
                  cases r6
                  · have HN : Hid (taskE xn xg xa x0 x1 x2 xr ws bs = 4) := HE3.out
                    go_wp2
                    go_ret
                    exact ⟨by rw [HN.out]; rfl, (boxed1 HB3.out).2⟩
                  · have HN : Hid (taskE xn xg xa x0 x1 x2 xr ws bs = 0) := HE3.out
                    go_wp2
                    go_ret
                    exact ⟨by rw [HN.out]; rfl, (boxed1 HB3.out).2⟩
              · obtain rfl : r5 = q5 := HG1.out hg
                have hg2 : xg.toList.isEmpty = false := by simpa using hg
                go_wp2_with fail
                refine (HG.out _).mono ?_
                rintro e w' ⟨rfl, rfl⟩
                cases r5
                · have HN : Hid (taskE xn xg xa x0 x1 x2 xr ws bs = 4) := HE3.out
                  go_wp2
                  go_ret
                  exact ⟨by rw [HN.out]; rfl, (boxed1 HB3.out).2⟩
                · by_cases ha : xa.toList = []
                  · obtain rfl : r6 = true := HA0.out ha
                    have HN : Hid (taskE xn xg xa x0 x1 x2 xr ws bs = 0) := HE3.out
                    go_wp2
                    go_ret
                    exact ⟨by rw [HN.out]; rfl, (boxed1 HB3.out).2⟩
                  · obtain rfl : r6 = q6 := HA1.out ha
                    have ha2 : xa.toList.isEmpty = false := by simpa using ha
                    go_wp2_with fail
                    refine (HA.out _).mono ?_
                    rintro e w' ⟨rfl, rfl⟩
                    cases r6
                    · have HN : Hid (taskE xn xg xa x0 x1 x2 xr ws bs = 4) := HE3.out
                      go_wp2
                      go_ret
                      exact ⟨by rw [HN.out]; rfl, (boxed1 HB3.out).2⟩
                    · have HN : Hid (taskE xn xg xa x0 x1 x2 xr ws bs = 0) := HE3.out
                      go_wp2
                      go_ret
                      exact ⟨by rw [HN.out]; rfl, (boxed1 HB3.out).2⟩
end Rg
end Go.Proofs.YtaipbaegbpebkaaGreat

/- APPENDS onto a row of one's own of whatever slice, nil or not. -/
namespace Go.Proofs.YtaipbaegbpebkaaGreat
open Go.RowKit Go.Lib
namespace Rw
set_option linter.unusedVariables false
section
variable {P : Program} {α : Type} [F : Flat α]
theorem run_app {w : World} {base : Nat} {t ty e : TypeId} {i : TypeInfo} {z : Value} {bytes : Nat} (ht : P.underlying t = some (.slice e)) (hi : P.info? e = some i) (hz : i.zero = some z) (hsize : i.size = F.k) (hby : i.bytes = bytes) (hzs : z.cells.size = F.k)
    {v u : Value} {l m : List α} (h : Own w base e v l) {A B : Nat} (hu : Sl w A B u m) (hl : (l.length + m.length) * bytes ≤ 140737488355328) (h63 : l.length + m.length ≤ 4611686018427387904) (hbase : base ≤ w.heap.size) :
    ∃ v' w', (Builtin.append_ #[t, t] ty #[v, u]).run P w = .ok v' w' ∧ Own w' base e v' (l ++ m) ∧ w.grownBy w' v.ownBlock ∧ (v'.ownBlock = v.ownBlock ∨ v'.ownBlock = some w.heap.size) := by
  have hu2 := hu
  obtain ⟨a, c, rfl, hc0, hnil, hml, hc⟩ := hu
  cases a with
  | none =>
    have h0 : c = 0 := hnil rfl
    subst h0
    have hm : m = [] := List.eq_nil_of_length_eq_zero (by omega)
    subst hm
    exact ⟨v, w, run_append_owned_none (P := P) (w := w) base t ty e i F.k ht hi v l.length (flat l) h, by rw [List.append_nil]; exact h, ⟨rfl, rfl, rfl, Nat.le_refl _, fun _ _ _ => rfl⟩, .inl rfl⟩
  | some ad =>
    obtain ⟨v', w', hr, h2, h3, -, h5⟩ := run_append_own_at (P := P) w base t ty e i z F.k bytes ht hi hz hsize hby hzs F.kp v l.length (flat l) h ad m.length c (flat m) (flat_len m) hu2.news (flat_one m) (by unfold maxLen; omega) hl hbase
    exact ⟨v', w', hr, Own.join h2, h3, h5⟩
theorem wpl_app {w w' : World} {ops : Array Oper} {rest : List Oper} {o : Oper} {a : Act} {Q : Exit → Act → World → Prop} (hgd : o.guard = none) (s x : Operand) (t : TypeId)
    (ho : o.op = .call { callee := .builtin .append, args := #[s, x], argTypes := #[t, t] }) (v u v' : Value) (hs : a.eval s = v) (hx : a.eval x = u) (hr : (Builtin.append_ #[t, t] o.type #[v, u]).run P w = .ok v' w') (h : wpList P ops Q rest (a.put o.dst v') w') : wpList P ops Q (o :: rest) a w := by
  refine wpList_plain hgd fun K hK => ?_
  unfold Oper.wp
  simp [execOp, ho, resolve, invoke, builtin, hs, hx, hr, Result.andThen]
  exact hK _ _ h
theorem step_app {w w' : World} {ops : Array Oper} {o : Oper} {a : Act} {K : Act → World → Prop} {Q : Exit → Act → World → Prop} {E : Prop} (hgd : o.guard = none) (s x : Operand) (t : TypeId)
    (ho : o.op = .call { callee := .builtin .append, args := #[s, x], argTypes := #[t, t] }) (v u v' : Value) (hs : a.eval s = v) (hx : a.eval x = u) (hr : (Builtin.append_ #[t, t] o.type #[v, u]).run P w = .ok v' w') (h : K (a.put o.dst v') w') :
    if Region.wanted o (yielded ops a.tmps) = true then Oper.wp P o a w K Q else E := by
  have hw : Region.wanted o (yielded ops a.tmps) = true := by simp [Region.wanted, hgd]
  rw [if_pos hw]
  unfold Oper.wp
  simp [execOp, ho, resolve, invoke, builtin, hs, hx, hr, Result.andThen]
  exact h
theorem sl_one (w : World) (x : α) (T : TypeId) : Sl (w.alloc (.cells (F.enc x).toArray T)) w.heap.size (w.alloc (.cells (F.enc x).toArray T)).heap.size (.slice (some ⟨w.heap.size, 0, none⟩) 1 1) [x] := by
  have h := sl_new w [x] T (by simp)
  rw [flat_single] at h
  exact h
end
end Rw
end Go.Proofs.YtaipbaegbpebkaaGreat

/- A NODE, A TASK ANEW, by the document: gafferref08.CopyNode, CopyTask. -/
namespace Go.Proofs.YtaipbaegbpebkaaGreat
open Go.RowKit Go.Lib
namespace Bo
open List renaming setIfInBounds_toArray → zq1, set_cons_zero → zq2, set_cons_succ → zq3, getElem_toArray → zq4, getElem_cons_succ → zq5, getElem_cons_zero → zq6
open Rw
set_option linter.unusedVariables false
set_option maxRecDepth 100000 in
set_option maxHeartbeats 4000000 in
theorem copy_n (x : NdM) (w : World) (hd : DeepN w w.heap.size x) (hf : FitN x.nd) : Calls Tryz.prog 25 #[.agg #[.string x.nd.n, .int .i64 x.nd.z0, .int .i64 x.nd.z1, .int .i64 x.nd.z2, .slice x.a2 x.nd.ls.length x.c2, .slice x.a3 x.nd.ts.length x.c3]] w fun e w' => ∃ y : NdM, y.nd = x.nd ∧ e = .returned (.agg #[.string y.nd.n, .int .i64 y.nd.z0, .int .i64 y.nd.z1, .int .i64 y.nd.z2, .slice y.a2 y.nd.ls.length y.c2, .slice y.a3 y.nd.ts.length y.c3]) ∧ OwnN w' w.heap.size y ∧ Below w.heap.size w w' := by
  obtain ⟨i0, hi0, hz0, hz1, hz2⟩ := info_parts info_p
  have hl1 := hf.2.2.1.1
  have hl2 := hf.2.2.2.1
  obtain ⟨W0, hW0⟩ : ∃ W0, W0 = (w.alloc (.cells #[.string x.nd.n, .int .i64 x.nd.z0, .int .i64 x.nd.z1, .int .i64 x.nd.z2, .slice x.a2 x.nd.ls.length x.c2, .slice x.a3 x.nd.ts.length x.c3] 32)).alloc (.cells #[.string ⟨#[]⟩, .int .i64 0, .int .i64 0, .int .i64 0, .slice none 0 0, .slice none 0 0] 32) := ⟨_, rfl⟩
  have HW0 : Hid (Fr2 w W0 [.string x.nd.n, .int .i64 x.nd.z0, .int .i64 x.nd.z1, .int .i64 x.nd.z2, .slice x.a2 x.nd.ls.length x.c2, .slice x.a3 x.nd.ts.length x.c3] [.string ⟨#[]⟩, .int .i64 0, .int .i64 0, .int .i64 0, .slice none 0 0, .slice none 0 0]) := by rw [hW0]; exact Fr2.made w _ _ _ _
  have HW := Lib.hid hW0
  clear hW0
  go_enter Tryz.func25, Tryz.ntmps25
  go_upto_region 1 with fail
  rw [← HW.out]
  clear HW
  refine wp_region_list ?_
  refine wpList_plain rfl fun K hK => ?_
  go_simp
  refine hK _ _ ?_
  clear hK K
  generalize hWW1 : W0.alloc (.cells #[] 59) = W1 at *
  have hbl : Below W0.heap.size W0 W1 := by rw [← hWW1]; exact al _ _
  have hown : Own (α := Rg.Pr) W1 W0.heap.size 59 (.slice (some ⟨W0.heap.size, 0, none⟩) 0 0) [] := by rw [← hWW1]; exact Own.made _ _
  have HW1 := Lib.hid (HW0.out.below hbl)
  refine wpList_plain rfl fun K hK => ?_
  go_simp
  refine hK _ _ ?_
  clear hK K
  have k0 : W1.cell? ⟨w.heap.size, 4, none⟩ = some (.slice x.a2 x.nd.ls.length x.c2) := HW1.out.p.cell 4
  refine wpList_plain rfl fun K hK => ?_
  go_simp
  refine hK _ _ ?_
  clear hK K
  clear k0
  obtain ⟨q', W2, hr, ho2, hg2, -⟩ := run_app (P := Tryz.prog) (ty := 30) Tryz.underlying30 hi0 hz0 hz1 hz2 rfl hown (hd.1.on (HW1.out.b)) (by rw [List.length_nil]; have h := hl1; omega) (by rw [List.length_nil]; have h := hl1; omega) hbl.size
  have hb3 : Below W0.heap.size W0 W2 := hbl.grown hg2 hbl.size (fun g e => (hown.lt g e).1)
  rw [List.nil_append] at ho2
  obtain ⟨g1, n1, rfl⟩ := ho2.slice
  refine wpl_app rfl (.tmp 3) (.tmp 5) 30 rfl _ _ _ rfl rfl hr ?_
  clear hr hown hbl
  have HW2 := Lib.hid (HW0.out.below hb3)
  have HOW2 := Lib.hid ho2
  have HZW2 : Hid (W0.heap.size ≤ W2.heap.size) := hb3.size
  clear hb3 ho2 hg2 hWW1
  refine wpList_plain rfl fun K hK => ?_
  go_simp
  refine hK _ _ ?_
  clear hK K
  have k1 : W2.cell? ⟨w.heap.size, 4, none⟩ = some (.slice x.a2 x.nd.ls.length x.c2) := HW2.out.p.cell 4
  have k2 : W2.frozen? ⟨w.heap.size, 4, none⟩ = false := HW2.out.p.fz 4
  refine wpList_plain rfl fun K hK => ?_
  go_simp
  refine hK _ _ ?_
  clear hK K
  clear k1 k2
  have HW3 : Hid (Fr2 w (W2.setCell ⟨w.heap.size, 4, none⟩ (.slice g1 x.nd.ls.length n1)) [.string x.nd.n, .int .i64 x.nd.z0, .int .i64 x.nd.z1, .int .i64 x.nd.z2, .slice g1 x.nd.ls.length n1, .slice x.a3 x.nd.ts.length x.c3] [.string ⟨#[]⟩, .int .i64 0, .int .i64 0, .int .i64 0, .slice none 0 0, .slice none 0 0]) := HW2.out.one 4 _
  have HOW3 : Hid (Own (W2.setCell ⟨w.heap.size, 4, none⟩ (.slice g1 x.nd.ls.length n1)) W0.heap.size 59 (.slice g1 x.nd.ls.length n1) x.nd.ls) := own_far HOW2.out (grown_setCell _ _ _ _) (by have := HW0.out.s; omega)
  generalize W2.setCell ⟨w.heap.size, 4, none⟩ (.slice g1 x.nd.ls.length n1) = W3 at *
  clear HW2 HOW2 HW1
  refine wpList_nil ?_
  go_upto_region 2 with fail
  refine wp_region_list ?_
  refine wpList_plain rfl fun K hK => ?_
  go_simp
  refine hK _ _ ?_
  clear hK K
  generalize hWW4 : W3.alloc (.cells #[] 59) = W4 at *
  have hbl : Below W3.heap.size W3 W4 := by rw [← hWW4]; exact al _ _
  have hown : Own (α := Rg.Pr) W4 W3.heap.size 59 (.slice (some ⟨W3.heap.size, 0, none⟩) 0 0) [] := by rw [← hWW4]; exact Own.made _ _
  have HW4 := Lib.hid (HW3.out.below hbl)
  refine wpList_plain rfl fun K hK => ?_
  go_simp
  refine hK _ _ ?_
  clear hK K
  have k0 : W4.cell? ⟨w.heap.size, 5, none⟩ = some (.slice x.a3 x.nd.ts.length x.c3) := HW4.out.p.cell 5
  refine wpList_plain rfl fun K hK => ?_
  go_simp
  refine hK _ _ ?_
  clear hK K
  clear k0
  obtain ⟨q', W5, hr, ho2, hg2, -⟩ := run_app (P := Tryz.prog) (ty := 30) Tryz.underlying30 hi0 hz0 hz1 hz2 rfl hown (hd.2.on (HW4.out.b)) (by rw [List.length_nil]; have h := hl2; omega) (by rw [List.length_nil]; have h := hl2; omega) hbl.size
  have hb3 : Below W3.heap.size W3 W5 := hbl.grown hg2 hbl.size (fun g e => (hown.lt g e).1)
  rw [List.nil_append] at ho2
  obtain ⟨g2, n2, rfl⟩ := ho2.slice
  refine wpl_app rfl (.tmp 8) (.tmp 10) 30 rfl _ _ _ rfl rfl hr ?_
  clear hr hown hbl
  have HW5 := Lib.hid (HW3.out.below hb3)
  have HOb := Lib.hid (HOW3.out.keep hb3)
  have HOW5 := Lib.hid ho2
  have HZW5 : Hid (W3.heap.size ≤ W5.heap.size) := hb3.size
  clear hb3 ho2 hg2 hWW4
  refine wpList_plain rfl fun K hK => ?_
  go_simp
  refine hK _ _ ?_
  clear hK K
  have k1 : W5.cell? ⟨w.heap.size, 5, none⟩ = some (.slice x.a3 x.nd.ts.length x.c3) := HW5.out.p.cell 5
  have k2 : W5.frozen? ⟨w.heap.size, 5, none⟩ = false := HW5.out.p.fz 5
  refine wpList_plain rfl fun K hK => ?_
  go_simp
  refine hK _ _ ?_
  clear hK K
  clear k1 k2
  have HW6 : Hid (Fr2 w (W5.setCell ⟨w.heap.size, 5, none⟩ (.slice g2 x.nd.ts.length n2)) [.string x.nd.n, .int .i64 x.nd.z0, .int .i64 x.nd.z1, .int .i64 x.nd.z2, .slice g1 x.nd.ls.length n1, .slice g2 x.nd.ts.length n2] [.string ⟨#[]⟩, .int .i64 0, .int .i64 0, .int .i64 0, .slice none 0 0, .slice none 0 0]) := HW5.out.one 5 _
  have HOW6 : Hid (Own (W5.setCell ⟨w.heap.size, 5, none⟩ (.slice g2 x.nd.ts.length n2)) W3.heap.size 59 (.slice g2 x.nd.ts.length n2) x.nd.ts) := own_far HOW5.out (grown_setCell _ _ _ _) (by have := HW3.out.s; omega)
  have HOc : Hid (Own (W5.setCell ⟨w.heap.size, 5, none⟩ (.slice g2 x.nd.ts.length n2)) W0.heap.size 59 (.slice g1 x.nd.ls.length n1) x.nd.ls) := own_far HOb.out (grown_setCell _ _ _ _) (by have := HW0.out.s; omega)
  generalize W5.setCell ⟨w.heap.size, 5, none⟩ (.slice g2 x.nd.ts.length n2) = W6 at *
  clear HW5 HOW5 HW4
  refine wpList_nil ?_
  go_upto_region 3 with fail
  refine wp_region_list ?_
  refine wpList_load_mid rfl 32 (.tmp 1) rfl (w.heap.size) (0) rfl [.string x.nd.n, .int .i64 x.nd.z0, .int .i64 x.nd.z1, .int .i64 x.nd.z2, .slice g1 x.nd.ls.length n1, .slice g2 x.nd.ts.length n2] _ (HW6.out.p.range 0) Tryz.underlying32 rfl rfl ?_
  have hth := HW6.out.r.there 6 rfl
  refine store_l rfl 32 (.tmp 2) (.tmp 13) rfl (w.heap.size + 1) [.string x.nd.n, .int .i64 x.nd.z0, .int .i64 x.nd.z1, .int .i64 x.nd.z2, .slice g1 x.nd.ls.length n1, .slice g2 x.nd.ts.length n2] rfl rfl hth rfl rfl ?_
  have HW7 : Hid (Fr2 w (W6.setCells (w.heap.size + 1) 0 [.string x.nd.n, .int .i64 x.nd.z0, .int .i64 x.nd.z1, .int .i64 x.nd.z2, .slice g1 x.nd.ls.length n1, .slice g2 x.nd.ts.length n2]) [.string x.nd.n, .int .i64 x.nd.z0, .int .i64 x.nd.z1, .int .i64 x.nd.z2, .slice g1 x.nd.ls.length n1, .slice g2 x.nd.ts.length n2] [.string x.nd.n, .int .i64 x.nd.z0, .int .i64 x.nd.z1, .int .i64 x.nd.z2, .slice g1 x.nd.ls.length n1, .slice g2 x.nd.ts.length n2]) := HW6.out.setR [.string x.nd.n, .int .i64 x.nd.z0, .int .i64 x.nd.z1, .int .i64 x.nd.z2, .slice g1 x.nd.ls.length n1, .slice g2 x.nd.ts.length n2] rfl
  have HOd : Hid (Own (W6.setCells (w.heap.size + 1) 0 [.string x.nd.n, .int .i64 x.nd.z0, .int .i64 x.nd.z1, .int .i64 x.nd.z2, .slice g1 x.nd.ls.length n1, .slice g2 x.nd.ts.length n2]) W0.heap.size 59 (.slice g1 x.nd.ls.length n1) x.nd.ls) := own_far HOc.out (grown_setCells _ _ _ _) (by have := HW0.out.s; omega)
  have HOe : Hid (Own (W6.setCells (w.heap.size + 1) 0 [.string x.nd.n, .int .i64 x.nd.z0, .int .i64 x.nd.z1, .int .i64 x.nd.z2, .slice g1 x.nd.ls.length n1, .slice g2 x.nd.ts.length n2]) W3.heap.size 59 (.slice g2 x.nd.ts.length n2) x.nd.ts) := own_far HOW6.out (grown_setCells _ _ _ _) (by have := HW3.out.s; omega)
  have HS0 := Lib.hid (show w.heap.size ≤ W0.heap.size from by have := HW0.out.s; omega)
  have HS3 := Lib.hid (show w.heap.size ≤ W3.heap.size from by have := HW3.out.s; omega)
  clear hth
  generalize W6.setCells (w.heap.size + 1) 0 [.string x.nd.n, .int .i64 x.nd.z0, .int .i64 x.nd.z1, .int .i64 x.nd.z2, .slice g1 x.nd.ls.length n1, .slice g2 x.nd.ts.length n2] = W7 at *
  refine wpList_nil ?_
  go_wp2
  exact Hd.bodyPost_bx rfl (w.heap.size + 1) [.string x.nd.n, .int .i64 x.nd.z0, .int .i64 x.nd.z1, .int .i64 x.nd.z2, .slice g1 x.nd.ls.length n1, .slice g2 x.nd.ts.length n2] _ rfl rfl HW7.out.r Tryz.underlying32 rfl rfl ⟨⟨x.nd, g1, n1, g2, n2⟩, rfl, rfl, ⟨HOd.out.le HS0.out, HOe.out.le HS3.out⟩, HW7.out.b⟩
set_option maxRecDepth 100000 in
set_option maxHeartbeats 4000000 in
theorem copy_t (x : TdM) (w : World) (hd : DeepT w w.heap.size x) (hf : FitT x.td) : Calls Tryz.prog 26 #[.agg #[.string x.td.n, .int .i64 x.td.z0, .int .i64 x.td.z1, .int .i64 x.td.z2, .slice x.a4 x.td.ws.length x.c4, .slice x.a5 x.td.bs.length x.c5, .string x.td.g, .string x.td.a, .int .i64 x.td.r]] w fun e w' => ∃ y : TdM, y.td = x.td ∧ e = .returned (.agg #[.string y.td.n, .int .i64 y.td.z0, .int .i64 y.td.z1, .int .i64 y.td.z2, .slice y.a4 y.td.ws.length y.c4, .slice y.a5 y.td.bs.length y.c5, .string y.td.g, .string y.td.a, .int .i64 y.td.r]) ∧ OwnT w' w.heap.size y ∧ Below w.heap.size w w' := by
  obtain ⟨i0, hi0, hz0, hz1, hz2⟩ := info_parts info_p
  have hl1 := hf.2.2.1.1
  have hl2 := hf.2.2.2.1
  obtain ⟨W0, hW0⟩ : ∃ W0, W0 = (w.alloc (.cells #[.string x.td.n, .int .i64 x.td.z0, .int .i64 x.td.z1, .int .i64 x.td.z2, .slice x.a4 x.td.ws.length x.c4, .slice x.a5 x.td.bs.length x.c5, .string x.td.g, .string x.td.a, .int .i64 x.td.r] 34)).alloc (.cells #[.string ⟨#[]⟩, .int .i64 0, .int .i64 0, .int .i64 0, .slice none 0 0, .slice none 0 0, .string ⟨#[]⟩, .string ⟨#[]⟩, .int .i64 0] 34) := ⟨_, rfl⟩
  have HW0 : Hid (Fr2 w W0 [.string x.td.n, .int .i64 x.td.z0, .int .i64 x.td.z1, .int .i64 x.td.z2, .slice x.a4 x.td.ws.length x.c4, .slice x.a5 x.td.bs.length x.c5, .string x.td.g, .string x.td.a, .int .i64 x.td.r] [.string ⟨#[]⟩, .int .i64 0, .int .i64 0, .int .i64 0, .slice none 0 0, .slice none 0 0, .string ⟨#[]⟩, .string ⟨#[]⟩, .int .i64 0]) := by rw [hW0]; exact Fr2.made w _ _ _ _
  have HW := Lib.hid hW0
  clear hW0
  go_enter Tryz.func26, Tryz.ntmps26
  go_upto_region 1 with fail
  rw [← HW.out]
  clear HW
  refine wp_region_list ?_
  refine wpList_plain rfl fun K hK => ?_
  go_simp
  refine hK _ _ ?_
  clear hK K
  generalize hWW1 : W0.alloc (.cells #[] 59) = W1 at *
  have hbl : Below W0.heap.size W0 W1 := by rw [← hWW1]; exact al _ _
  have hown : Own (α := Rg.Pr) W1 W0.heap.size 59 (.slice (some ⟨W0.heap.size, 0, none⟩) 0 0) [] := by rw [← hWW1]; exact Own.made _ _
  have HW1 := Lib.hid (HW0.out.below hbl)
  refine wpList_plain rfl fun K hK => ?_
  go_simp
  refine hK _ _ ?_
  clear hK K
  have k0 : W1.cell? ⟨w.heap.size, 4, none⟩ = some (.slice x.a4 x.td.ws.length x.c4) := HW1.out.p.cell 4
  refine wpList_plain rfl fun K hK => ?_
  go_simp
  refine hK _ _ ?_
  clear hK K
  clear k0
  obtain ⟨q', W2, hr, ho2, hg2, -⟩ := run_app (P := Tryz.prog) (ty := 30) Tryz.underlying30 hi0 hz0 hz1 hz2 rfl hown (hd.1.on (HW1.out.b)) (by rw [List.length_nil]; have h := hl1; omega) (by rw [List.length_nil]; have h := hl1; omega) hbl.size
  have hb3 : Below W0.heap.size W0 W2 := hbl.grown hg2 hbl.size (fun g e => (hown.lt g e).1)
  rw [List.nil_append] at ho2
  obtain ⟨g1, n1, rfl⟩ := ho2.slice
  refine wpl_app rfl (.tmp 3) (.tmp 5) 30 rfl _ _ _ rfl rfl hr ?_
  clear hr hown hbl
  have HW2 := Lib.hid (HW0.out.below hb3)
  have HOW2 := Lib.hid ho2
  have HZW2 : Hid (W0.heap.size ≤ W2.heap.size) := hb3.size
  clear hb3 ho2 hg2 hWW1
  refine wpList_plain rfl fun K hK => ?_
  go_simp
  refine hK _ _ ?_
  clear hK K
  have k1 : W2.cell? ⟨w.heap.size, 4, none⟩ = some (.slice x.a4 x.td.ws.length x.c4) := HW2.out.p.cell 4
  have k2 : W2.frozen? ⟨w.heap.size, 4, none⟩ = false := HW2.out.p.fz 4
  refine wpList_plain rfl fun K hK => ?_
  go_simp
  refine hK _ _ ?_
  clear hK K
  clear k1 k2
  have HW3 : Hid (Fr2 w (W2.setCell ⟨w.heap.size, 4, none⟩ (.slice g1 x.td.ws.length n1)) [.string x.td.n, .int .i64 x.td.z0, .int .i64 x.td.z1, .int .i64 x.td.z2, .slice g1 x.td.ws.length n1, .slice x.a5 x.td.bs.length x.c5, .string x.td.g, .string x.td.a, .int .i64 x.td.r] [.string ⟨#[]⟩, .int .i64 0, .int .i64 0, .int .i64 0, .slice none 0 0, .slice none 0 0, .string ⟨#[]⟩, .string ⟨#[]⟩, .int .i64 0]) := HW2.out.one 4 _
  have HOW3 : Hid (Own (W2.setCell ⟨w.heap.size, 4, none⟩ (.slice g1 x.td.ws.length n1)) W0.heap.size 59 (.slice g1 x.td.ws.length n1) x.td.ws) := own_far HOW2.out (grown_setCell _ _ _ _) (by have := HW0.out.s; omega)
  generalize W2.setCell ⟨w.heap.size, 4, none⟩ (.slice g1 x.td.ws.length n1) = W3 at *
  clear HW2 HOW2 HW1
  refine wpList_nil ?_
  go_upto_region 2 with fail
  refine wp_region_list ?_
  refine wpList_plain rfl fun K hK => ?_
  go_simp
  refine hK _ _ ?_
  clear hK K
  generalize hWW4 : W3.alloc (.cells #[] 59) = W4 at *
  have hbl : Below W3.heap.size W3 W4 := by rw [← hWW4]; exact al _ _
  have hown : Own (α := Rg.Pr) W4 W3.heap.size 59 (.slice (some ⟨W3.heap.size, 0, none⟩) 0 0) [] := by rw [← hWW4]; exact Own.made _ _
  have HW4 := Lib.hid (HW3.out.below hbl)
  refine wpList_plain rfl fun K hK => ?_
  go_simp
  refine hK _ _ ?_
  clear hK K
  have k0 : W4.cell? ⟨w.heap.size, 5, none⟩ = some (.slice x.a5 x.td.bs.length x.c5) := HW4.out.p.cell 5
  refine wpList_plain rfl fun K hK => ?_
  go_simp
  refine hK _ _ ?_
  clear hK K
  clear k0
  obtain ⟨q', W5, hr, ho2, hg2, -⟩ := run_app (P := Tryz.prog) (ty := 30) Tryz.underlying30 hi0 hz0 hz1 hz2 rfl hown (hd.2.on (HW4.out.b)) (by rw [List.length_nil]; have h := hl2; omega) (by rw [List.length_nil]; have h := hl2; omega) hbl.size
  have hb3 : Below W3.heap.size W3 W5 := hbl.grown hg2 hbl.size (fun g e => (hown.lt g e).1)
  rw [List.nil_append] at ho2
  obtain ⟨g2, n2, rfl⟩ := ho2.slice
  refine wpl_app rfl (.tmp 8) (.tmp 10) 30 rfl _ _ _ rfl rfl hr ?_
  clear hr hown hbl
  have HW5 := Lib.hid (HW3.out.below hb3)
  have HOb := Lib.hid (HOW3.out.keep hb3)
  have HOW5 := Lib.hid ho2
  have HZW5 : Hid (W3.heap.size ≤ W5.heap.size) := hb3.size
  clear hb3 ho2 hg2 hWW4
  refine wpList_plain rfl fun K hK => ?_
  go_simp
  refine hK _ _ ?_
  clear hK K
  have k1 : W5.cell? ⟨w.heap.size, 5, none⟩ = some (.slice x.a5 x.td.bs.length x.c5) := HW5.out.p.cell 5
  have k2 : W5.frozen? ⟨w.heap.size, 5, none⟩ = false := HW5.out.p.fz 5
  refine wpList_plain rfl fun K hK => ?_
  go_simp
  refine hK _ _ ?_
  clear hK K
  clear k1 k2
  have HW6 : Hid (Fr2 w (W5.setCell ⟨w.heap.size, 5, none⟩ (.slice g2 x.td.bs.length n2)) [.string x.td.n, .int .i64 x.td.z0, .int .i64 x.td.z1, .int .i64 x.td.z2, .slice g1 x.td.ws.length n1, .slice g2 x.td.bs.length n2, .string x.td.g, .string x.td.a, .int .i64 x.td.r] [.string ⟨#[]⟩, .int .i64 0, .int .i64 0, .int .i64 0, .slice none 0 0, .slice none 0 0, .string ⟨#[]⟩, .string ⟨#[]⟩, .int .i64 0]) := HW5.out.one 5 _
  have HOW6 : Hid (Own (W5.setCell ⟨w.heap.size, 5, none⟩ (.slice g2 x.td.bs.length n2)) W3.heap.size 59 (.slice g2 x.td.bs.length n2) x.td.bs) := own_far HOW5.out (grown_setCell _ _ _ _) (by have := HW3.out.s; omega)
  have HOc : Hid (Own (W5.setCell ⟨w.heap.size, 5, none⟩ (.slice g2 x.td.bs.length n2)) W0.heap.size 59 (.slice g1 x.td.ws.length n1) x.td.ws) := own_far HOb.out (grown_setCell _ _ _ _) (by have := HW0.out.s; omega)
  generalize W5.setCell ⟨w.heap.size, 5, none⟩ (.slice g2 x.td.bs.length n2) = W6 at *
  clear HW5 HOW5 HW4
  refine wpList_nil ?_
  go_upto_region 3 with fail
  refine wp_region_list ?_
  refine wpList_load_mid rfl 34 (.tmp 1) rfl (w.heap.size) (0) rfl [.string x.td.n, .int .i64 x.td.z0, .int .i64 x.td.z1, .int .i64 x.td.z2, .slice g1 x.td.ws.length n1, .slice g2 x.td.bs.length n2, .string x.td.g, .string x.td.a, .int .i64 x.td.r] _ (HW6.out.p.range 0) Tryz.underlying34 rfl rfl ?_
  have hth := HW6.out.r.there 9 rfl
  refine store_l rfl 34 (.tmp 2) (.tmp 13) rfl (w.heap.size + 1) [.string x.td.n, .int .i64 x.td.z0, .int .i64 x.td.z1, .int .i64 x.td.z2, .slice g1 x.td.ws.length n1, .slice g2 x.td.bs.length n2, .string x.td.g, .string x.td.a, .int .i64 x.td.r] rfl rfl hth rfl rfl ?_
  have HW7 : Hid (Fr2 w (W6.setCells (w.heap.size + 1) 0 [.string x.td.n, .int .i64 x.td.z0, .int .i64 x.td.z1, .int .i64 x.td.z2, .slice g1 x.td.ws.length n1, .slice g2 x.td.bs.length n2, .string x.td.g, .string x.td.a, .int .i64 x.td.r]) [.string x.td.n, .int .i64 x.td.z0, .int .i64 x.td.z1, .int .i64 x.td.z2, .slice g1 x.td.ws.length n1, .slice g2 x.td.bs.length n2, .string x.td.g, .string x.td.a, .int .i64 x.td.r] [.string x.td.n, .int .i64 x.td.z0, .int .i64 x.td.z1, .int .i64 x.td.z2, .slice g1 x.td.ws.length n1, .slice g2 x.td.bs.length n2, .string x.td.g, .string x.td.a, .int .i64 x.td.r]) := HW6.out.setR [.string x.td.n, .int .i64 x.td.z0, .int .i64 x.td.z1, .int .i64 x.td.z2, .slice g1 x.td.ws.length n1, .slice g2 x.td.bs.length n2, .string x.td.g, .string x.td.a, .int .i64 x.td.r] rfl
  have HOd : Hid (Own (W6.setCells (w.heap.size + 1) 0 [.string x.td.n, .int .i64 x.td.z0, .int .i64 x.td.z1, .int .i64 x.td.z2, .slice g1 x.td.ws.length n1, .slice g2 x.td.bs.length n2, .string x.td.g, .string x.td.a, .int .i64 x.td.r]) W0.heap.size 59 (.slice g1 x.td.ws.length n1) x.td.ws) := own_far HOc.out (grown_setCells _ _ _ _) (by have := HW0.out.s; omega)
  have HOe : Hid (Own (W6.setCells (w.heap.size + 1) 0 [.string x.td.n, .int .i64 x.td.z0, .int .i64 x.td.z1, .int .i64 x.td.z2, .slice g1 x.td.ws.length n1, .slice g2 x.td.bs.length n2, .string x.td.g, .string x.td.a, .int .i64 x.td.r]) W3.heap.size 59 (.slice g2 x.td.bs.length n2) x.td.bs) := own_far HOW6.out (grown_setCells _ _ _ _) (by have := HW3.out.s; omega)
  have HS0 := Lib.hid (show w.heap.size ≤ W0.heap.size from by have := HW0.out.s; omega)
  have HS3 := Lib.hid (show w.heap.size ≤ W3.heap.size from by have := HW3.out.s; omega)
  clear hth
  generalize W6.setCells (w.heap.size + 1) 0 [.string x.td.n, .int .i64 x.td.z0, .int .i64 x.td.z1, .int .i64 x.td.z2, .slice g1 x.td.ws.length n1, .slice g2 x.td.bs.length n2, .string x.td.g, .string x.td.a, .int .i64 x.td.r] = W7 at *
  refine wpList_nil ?_
  go_wp2
  exact Hd.bodyPost_bx rfl (w.heap.size + 1) [.string x.td.n, .int .i64 x.td.z0, .int .i64 x.td.z1, .int .i64 x.td.z2, .slice g1 x.td.ws.length n1, .slice g2 x.td.bs.length n2, .string x.td.g, .string x.td.a, .int .i64 x.td.r] _ rfl rfl HW7.out.r Tryz.underlying34 rfl rfl ⟨⟨x.td, g1, n1, g2, n2⟩, rfl, rfl, ⟨HOd.out.le HS0.out, HOe.out.le HS3.out⟩, HW7.out.b⟩
end Bo
end Go.Proofs.YtaipbaegbpebkaaGreat

/- A BOOK ANEW, by the document: gafferref08.Copy. -/
namespace Go.Proofs.YtaipbaegbpebkaaGreat
open Go.RowKit Go.Lib
namespace Bo
open List renaming setIfInBounds_toArray → zq1, set_cons_zero → zq2, set_cons_succ → zq3, getElem_toArray → zq4, getElem_cons_succ → zq5, getElem_cons_zero → zq6
open Rw
set_option linter.unusedVariables false
/-- The three boxes of gafferref08.Copy. -/
structure Cp (w z : World) (cs rs os : List Value) : Prop where
  p : Hd.Bxn z w.heap.size cs
  r : Hd.Bxn z (w.heap.size + 1) rs
  o : Hd.Bxn z (w.heap.size + 1 + 1) os
  b : Below w.heap.size w z
  s : w.heap.size + 1 + 1 + 1 ≤ z.heap.size
theorem Cp.made (w : World) (cs rs os : List Value) (T U V : TypeId) : Cp w (((w.alloc (.cells cs.toArray T)).alloc (.cells rs.toArray U)).alloc (.cells os.toArray V)) cs rs os := by
  have h1 := Hd.Bxn.made w cs T
  have h2 := Hd.Bxn.made (w.alloc (.cells cs.toArray T)) rs U
  have h3 := Hd.Bxn.made ((w.alloc (.cells cs.toArray T)).alloc (.cells rs.toArray U)) os V
  simp only [World.size_alloc] at h2 h3
  exact ⟨(h1.below (al _ _)).below (al _ _), h2.below (al _ _), h3, (((Below.refl _ w).alloc (Nat.le_refl _) _).alloc (by simp) _).alloc (by simp; omega) _, by simp⟩
theorem bxn_in {z z' : World} {B C : Nat} {cs : List Value} (h : Hd.Bxn z B cs) (hb : Below C z z') (hB : B < C) : Hd.Bxn z' B cs := by
  obtain ⟨T, h⟩ := h
  exact ⟨T, (hb.block B hB).trans h⟩
theorem Cp.go {w z z' : World} {cs rs os : List Value} (h : Cp w z cs rs os) (hb : Below (w.heap.size + 1 + 1 + 1) z z') : Cp w z' cs rs os :=
  ⟨bxn_in h.p hb (by omega), bxn_in h.r hb (by omega), bxn_in h.o hb (by omega), h.b.trans (hb.mono (by omega)), Nat.le_trans h.s hb.size⟩
theorem Cp.below {w z z' : World} {cs rs os : List Value} (h : Cp w z cs rs os) (hb : Below z.heap.size z z') : Cp w z' cs rs os := h.go (hb.mono h.s)
theorem Cp.setO {w z : World} {cs rs os : List Value} (h : Cp w z cs rs os) (i : Nat) (v : Value) : Cp w (z.setCell ⟨w.heap.size + 1 + 1, i, none⟩ v) cs rs (os.set i v) :=
  ⟨h.p.apart (by omega) _ _, h.r.apart (by omega) _ _, h.o.set i v, h.b.setCell (by show w.heap.size ≤ w.heap.size + 1 + 1; omega) _, Nat.le_trans h.s (grown_setCell z (w.heap.size + 1 + 1) i v).size⟩
theorem Cp.setR {w z : World} {cs rs os : List Value} (h : Cp w z cs rs os) (vs : List Value) (hl : vs.length = rs.length) : Cp w (z.setCells (w.heap.size + 1) 0 vs) cs vs os :=
  ⟨bxn_far h.p (by omega), h.r.all vs hl, bxn_far h.o (by omega), below_setCells h.b (by omega) _ _, Nat.le_trans h.s (grown_setCells z (w.heap.size + 1) 0 vs).size⟩
/-- How far the copying of the nodes, of the tasks is. -/
structure CsN (w z : World) (va : Value) (m : List NdM) : Prop where
  ow : Own z (w.heap.size + 1 + 1 + 1) 32 va m
  dn : ∀ y ∈ m, OwnN z (w.heap.size + 1 + 1 + 1) y
structure CsT (w z : World) (va : Value) (m : List TdM) : Prop where
  ow : Own z (w.heap.size + 1 + 1 + 1) 34 va m
  dn : ∀ y ∈ m, OwnT z (w.heap.size + 1 + 1 + 1) y
theorem CsN.keep {w z z' : World} {va : Value} {m : List NdM} (h : CsN w z va m) (hb : Below z.heap.size z z') : CsN w z' va m := ⟨h.ow.keep hb, fun y hy => (h.dn y hy).keep hb⟩
theorem CsN.far {w z z' : World} {va : Value} {m : List NdM} {P : Nat} (h : CsN w z va m) (hg : z.grownBy z' (some P)) (hp : P < w.heap.size + 1 + 1 + 1) : CsN w z' va m := ⟨own_far h.ow hg hp, fun y hy => ⟨own_far (h.dn y hy).1 hg hp, own_far (h.dn y hy).2 hg hp⟩⟩
theorem CsN.more {w z z' : World} {va v' : Value} {m : List NdM} {x : NdM} (h : CsN w z va m) (hx : OwnN z (w.heap.size + 1 + 1 + 1) x) (ho : Own z' (w.heap.size + 1 + 1 + 1) 32 v' (m ++ [x])) (hg : z.grownBy z' va.ownBlock) : CsN w z' v' (m ++ [x]) := by
  refine ⟨ho, fun y hy => ?_⟩
  rcases List.mem_append.1 hy with hy | hy
  · exact (h.dn y hy).off h.ow (by decide) hg
  · rw [List.mem_singleton] at hy
    subst hy
    exact hx.off h.ow (by decide) hg
theorem CsT.keep {w z z' : World} {va : Value} {m : List TdM} (h : CsT w z va m) (hb : Below z.heap.size z z') : CsT w z' va m := ⟨h.ow.keep hb, fun y hy => (h.dn y hy).keep hb⟩
theorem CsT.far {w z z' : World} {va : Value} {m : List TdM} {P : Nat} (h : CsT w z va m) (hg : z.grownBy z' (some P)) (hp : P < w.heap.size + 1 + 1 + 1) : CsT w z' va m := ⟨own_far h.ow hg hp, fun y hy => ⟨own_far (h.dn y hy).1 hg hp, own_far (h.dn y hy).2 hg hp⟩⟩
theorem CsT.more {w z z' : World} {va v' : Value} {m : List TdM} {x : TdM} (h : CsT w z va m) (hx : OwnT z (w.heap.size + 1 + 1 + 1) x) (ho : Own z' (w.heap.size + 1 + 1 + 1) 34 v' (m ++ [x])) (hg : z.grownBy z' va.ownBlock) : CsT w z' v' (m ++ [x]) := by
  refine ⟨ho, fun y hy => ?_⟩
  rcases List.mem_append.1 hy with hy | hy
  · exact (h.dn y hy).off h.ow (by decide) hg
  · rw [List.mem_singleton] at hy
    subst hy
    exact hx.off h.ow (by decide) hg
theorem CsN.off {α : Type} [F : Flat α] {w z z' : World} {va vt : Value} {m : List NdM} {l : List α} {b2 : Nat} {e : TypeId} (h : CsN w z va m) (ht : Own z b2 e vt l) (h1 : 32 ≠ e) (h2 : 59 ≠ e) (hg : z.grownBy z' vt.ownBlock) : CsN w z' va m :=
  ⟨h.ow.other hg (h.ow.apart ht h1), fun y hy => (h.dn y hy).off ht h2 hg⟩
theorem CsT.off {α : Type} [F : Flat α] {w z z' : World} {va vt : Value} {m : List TdM} {l : List α} {b2 : Nat} {e : TypeId} (h : CsT w z va m) (ht : Own z b2 e vt l) (h1 : 34 ≠ e) (h2 : 59 ≠ e) (hg : z.grownBy z' vt.ownBlock) : CsT w z' va m :=
  ⟨h.ow.other hg (h.ow.apart ht h1), fun y hy => (h.dn y hy).off ht h2 hg⟩
theorem own_grown {w z z' : World} {α : Type} [F : Flat α] {base : Nat} {e : TypeId} {va : Value} {m : List α} (h : Own z base e va m) (hg : z.grownBy z' va.ownBlock) (hb : base ≤ z.heap.size) : Below base z z' :=
  (Below.refl _ _).grown hg hb (fun k hk => (h.lt k hk).1)
/-- A book's copy, by the document. -/
def CpyB (b : Bk) (w : World) (e : Ending) (w' : World) : Prop := ∃ vn vt vb mn mt, e = .returned (.agg #[vn, vt, vb, .int .u64 (b.fe : Nat)]) ∧ b.ns = mn.map (·.nd) ∧ b.ts = mt.map (·.td) ∧ OwnL w' w.heap.size vn vt vb mn mt b.bs ∧ Below w.heap.size w w'
set_option maxRecDepth 100000 in
set_option maxHeartbeats 4000000 in
theorem copy_bk (b : Bk) (vn vt vb : Value) (w : World) (hB : Books w w.heap.size vn vt vb b) :
    Calls Tryz.prog 10 #[.agg #[vn, vt, vb, .int .u64 (b.fe : Nat)]] w (CpyB b w) := by
  have hln : b.ns.length * 88 ≤ 140737488355328 := by obtain ⟨m, hm, -, -, hl⟩ := hB.hn; exact hl
  have hlt : b.ts.length * 128 ≤ 140737488355328 := by obtain ⟨m, hm, -, -, hl⟩ := hB.ht; exact hl
  have hlb := hB.hb.2.2
  have hvb := hB.hb.1
  obtain ⟨an, cn, rfl, hN⟩ := hB.hn.row
  obtain ⟨at', ct, rfl, hT⟩ := hB.ht.row
  obtain ⟨ab, cb, rfl⟩ := hB.hb.slice
  have HVN := Lib.hid hN
  have HVT := Lib.hid hT
  have HVB := Lib.hid hvb
  have HLN := Lib.hid hln
  have HLT := Lib.hid hlt
  have HLX := Lib.hid hlb
  have HC0 := Lib.hid (Cp.made w [.slice an b.ns.length cn, .slice at' b.ts.length ct, .slice ab b.bs.length cb, .int .u64 (b.fe : Nat)] [.slice none 0 0, .slice none 0 0, .slice none 0 0, .int .u64 0] [.slice none 0 0, .slice none 0 0, .slice none 0 0, .int .u64 (b.fe : Nat)] 27 27 27)
  clear hN hT hvb hB
  go_enter Tryz.func10, Tryz.ntmps10
  have k0 : ((w.alloc (.cells #[.slice an b.ns.length cn, .slice at' b.ts.length ct, .slice ab b.bs.length cb, .int .u64 (b.fe : Nat)] 27)).alloc (.cells #[.slice none 0 0, .slice none 0 0, .slice none 0 0, .int .u64 0] 27)).cell? ⟨w.heap.size, 3, none⟩ = some (.int .u64 (b.fe : Nat)) := ((Hd.Bxn.made w [.slice an b.ns.length cn, .slice at' b.ts.length ct, .slice ab b.bs.length cb, .int .u64 (b.fe : Nat)] 27).below (al _ _)).cell 3
  go_upto_region 2 with fail
  clear k0
  obtain ⟨W1, hW1⟩ : ∃ W1, W1 = ((w.alloc (.cells #[.slice an b.ns.length cn, .slice at' b.ts.length ct, .slice ab b.bs.length cb, .int .u64 (b.fe : Nat)] 27)).alloc (.cells #[.slice none 0 0, .slice none 0 0, .slice none 0 0, .int .u64 0] 27)).alloc (.cells #[.slice none 0 0, .slice none 0 0, .slice none 0 0, .int .u64 (b.fe : Nat)] 27) := ⟨_, rfl⟩
  have HC : Hid (Cp w W1 [.slice an b.ns.length cn, .slice at' b.ts.length ct, .slice ab b.bs.length cb, .int .u64 (b.fe : Nat)] [.slice none 0 0, .slice none 0 0, .slice none 0 0, .int .u64 0] [.slice none 0 0, .slice none 0 0, .slice none 0 0, .int .u64 (b.fe : Nat)]) := by rw [hW1]; exact HC0.out
  rw [← hW1]
  clear hW1 HC0
  have k1 : W1.cell? ⟨w.heap.size, 0, none⟩ = some (.slice an b.ns.length cn) := HC.out.p.cell 0
  go_wp2
  clear k1
  go_loopg [14] b.ns.length (fun gg i wx => ∃ (k : Nat) (va : Value) (m : List NdM), k + gg = b.ns.length ∧ i = .int .i64 k ∧ Aside (Cp w wx [.slice an b.ns.length cn, .slice at' b.ts.length ct, .slice ab b.bs.length cb, .int .u64 (b.fe : Nat)] [.slice none 0 0, .slice none 0 0, .slice none 0 0, .int .u64 0] [va, .slice none 0 0, .slice none 0 0, .int .u64 (b.fe : Nat)] ∧ CsN w wx va m ∧ m.map (·.nd) = b.ns.take k))
  case atStart => exact ⟨0, .slice none 0 0, [], by omega, rfl, ⟨HC.out, ⟨Own.nil _ _ _, by simp⟩, rfl⟩⟩
  case round =>
    obtain ⟨k, va, m, hkg, rfl, HA⟩ := hrel
    have HCr : Hid (Cp w wr [.slice an b.ns.length cn, .slice at' b.ts.length ct, .slice ab b.bs.length cb, .int .u64 (b.fe : Nat)] [.slice none 0 0, .slice none 0 0, .slice none 0 0, .int .u64 0] [va, .slice none 0 0, .slice none 0 0, .int .u64 (b.fe : Nat)]) := HA.out.1
    have HSr : Hid (CsN w wr va m) := HA.out.2.1
    have HEr : Hid (m.map (·.nd) = b.ns.take k) := HA.out.2.2
    clear HA HC
    cases gk with
    | zero =>
      obtain rfl : k = b.ns.length := by omega
      clear hkg
      have HEN : Hid (m.map (·.nd) = b.ns) := by have h := HEr.out; rw [List.take_length] at h; exact h
      obtain ⟨ga, na, rfl⟩ := HSr.out.ow.slice
      have HC := HCr
      have HN := HSr
      clear HCr HSr HEr
      obtain ⟨mn, rfl⟩ : ∃ mn, mn = m := ⟨_, rfl⟩
      have k1 : wr.cell? ⟨w.heap.size, 1, none⟩ = some (.slice at' b.ts.length ct) := HC.out.p.cell 1
      go_wp2
      clear k1
      go_loopg [29] b.ts.length (fun gg i wx => ∃ (k : Nat) (va : Value) (m : List TdM), k + gg = b.ts.length ∧ i = .int .i64 k ∧ Aside (Cp w wx [.slice an b.ns.length cn, .slice at' b.ts.length ct, .slice ab b.bs.length cb, .int .u64 (b.fe : Nat)] [.slice none 0 0, .slice none 0 0, .slice none 0 0, .int .u64 0] [.slice ga mn.length na, va, .slice none 0 0, .int .u64 (b.fe : Nat)] ∧ CsT w wx va m ∧ m.map (·.td) = b.ts.take k ∧ CsN w wx (.slice ga mn.length na) mn))
      case atStart => exact ⟨0, .slice none 0 0, [], by omega, rfl, ⟨HC.out, ⟨Own.nil _ _ _, by simp⟩, rfl, HN.out⟩⟩
      case round =>
        obtain ⟨k, va, m, hkg, rfl, HA⟩ := hrel
        have HCr : Hid (Cp w wr [.slice an b.ns.length cn, .slice at' b.ts.length ct, .slice ab b.bs.length cb, .int .u64 (b.fe : Nat)] [.slice none 0 0, .slice none 0 0, .slice none 0 0, .int .u64 0] [.slice ga mn.length na, va, .slice none 0 0, .int .u64 (b.fe : Nat)]) := HA.out.1
        have HSr : Hid (CsT w wr va m) := HA.out.2.1
        have HEr : Hid (m.map (·.td) = b.ts.take k) := HA.out.2.2.1
        have HNr : Hid (CsN w wr (.slice ga mn.length na) mn) := HA.out.2.2.2
        clear HA HC HN
        cases gk with
        | zero =>
          obtain rfl : k = b.ts.length := by omega
          clear hkg
          have HET : Hid (m.map (·.td) = b.ts) := by have h := HEr.out; rw [List.take_length] at h; exact h
          obtain ⟨gt, nt, rfl⟩ := HSr.out.ow.slice
          clear HEr
          go_upto_region 12 with fail
          refine wp_region_list ?_
          refine wpList_plain rfl fun K hK => ?_
          go_simp
          refine hK _ _ ?_
          clear hK K
          have k1 : wr.cell? ⟨w.heap.size + 1 + 1, 2, none⟩ = some (.slice none 0 0) := HCr.out.o.cell 2
          refine wpList_plain rfl fun K hK => ?_
          go_simp
          refine hK _ _ ?_
          clear hK K
          clear k1
          refine wpList_plain rfl fun K hK => ?_
          go_simp
          refine hK _ _ ?_
          clear hK K
          have k1 : wr.cell? ⟨w.heap.size, 2, none⟩ = some (.slice ab b.bs.length cb) := HCr.out.p.cell 2
          refine wpList_plain rfl fun K hK => ?_
          go_simp
          refine hK _ _ ?_
          clear hK K
          clear k1
          obtain ⟨i0, hi0, hz0, hz1, hz2⟩ := info_parts info_b
          obtain ⟨v7, w7, hr, ho7, hg7, -⟩ := run_app (P := Tryz.prog) (ty := 24) Tryz.underlying24 hi0 hz0 hz1 hz2 rfl (Own.nil (α := Rg.Pr) wr (w.heap.size + 1 + 1 + 1) 61) (HVB.out.on HCr.out.b) (by have h := HLX.out; rw [List.length_nil]; omega) (by have h := HLX.out; rw [List.length_nil]; omega) HCr.out.s
          refine wpl_app rfl (.tmp 42) (.tmp 44) 24 rfl _ _ _ rfl rfl hr ?_
          clear hr
          rw [List.nil_append] at ho7
          obtain ⟨gb, nb, hv7⟩ := ho7.slice
          subst hv7
          have hbg : Below wr.heap.size wr w7 := (Below.refl _ _).grown hg7 (Nat.le_refl _) (fun g e => by cases e)
          have HC7 := Lib.hid (HCr.out.below hbg)
          have HS7 := Lib.hid (HSr.out.keep hbg)
          have HN7 := Lib.hid (HNr.out.keep hbg)
          have HO7 := Lib.hid ho7
          clear hbg ho7 hg7 HCr HSr HNr
          refine wpList_plain rfl fun K hK => ?_
          go_simp
          refine hK _ _ ?_
          clear hK K
          have k1 : w7.cell? ⟨w.heap.size + 1 + 1, 2, none⟩ = some (.slice none 0 0) := HC7.out.o.cell 2
          have k2 : w7.frozen? ⟨w.heap.size + 1 + 1, 2, none⟩ = false := HC7.out.o.fz 2
          refine wpList_plain rfl fun K hK => ?_
          go_simp
          refine hK _ _ ?_
          clear hK K
          clear k1 k2
          have HC8 : Hid (Cp w (w7.setCell ⟨w.heap.size + 1 + 1, 2, none⟩ (.slice gb b.bs.length nb)) [.slice an b.ns.length cn, .slice at' b.ts.length ct, .slice ab b.bs.length cb, .int .u64 (b.fe : Nat)] [.slice none 0 0, .slice none 0 0, .slice none 0 0, .int .u64 0] [.slice ga mn.length na, .slice gt m.length nt, .slice gb b.bs.length nb, .int .u64 (b.fe : Nat)]) := HC7.out.setO 2 _
          have HS8 := Lib.hid (HS7.out.far (grown_setCell w7 (w.heap.size + 1 + 1) 2 (.slice gb b.bs.length nb)) (by omega))
          have HN8 := Lib.hid (HN7.out.far (grown_setCell w7 (w.heap.size + 1 + 1) 2 (.slice gb b.bs.length nb)) (by omega))
          have HO8 := Lib.hid (own_far HO7.out (grown_setCell w7 (w.heap.size + 1 + 1) 2 (.slice gb b.bs.length nb)) (by omega))
          clear HC7 HS7 HN7 HO7
          generalize w7.setCell ⟨w.heap.size + 1 + 1, 2, none⟩ (.slice gb b.bs.length nb) = w8 at *
          refine wpList_nil ?_
          go_upto_region 13 with fail
          refine wp_region_list ?_
          refine wpList_load_mid rfl 27 (.tmp 3) rfl (w.heap.size + 1 + 1) (0) rfl [.slice ga mn.length na, .slice gt m.length nt, .slice gb b.bs.length nb, .int .u64 (b.fe : Nat)] _ (HC8.out.o.range 0) Tryz.underlying27 rfl rfl ?_
          have hth := HC8.out.r.there 4 rfl
          refine store_l rfl 27 (.tmp 2) (.tmp 47) rfl (w.heap.size + 1) [.slice ga mn.length na, .slice gt m.length nt, .slice gb b.bs.length nb, .int .u64 (b.fe : Nat)] rfl rfl hth rfl rfl ?_
          have HC9 : Hid (Cp w (w8.setCells (w.heap.size + 1) 0 [.slice ga mn.length na, .slice gt m.length nt, .slice gb b.bs.length nb, .int .u64 (b.fe : Nat)]) [.slice an b.ns.length cn, .slice at' b.ts.length ct, .slice ab b.bs.length cb, .int .u64 (b.fe : Nat)] [.slice ga mn.length na, .slice gt m.length nt, .slice gb b.bs.length nb, .int .u64 (b.fe : Nat)] [.slice ga mn.length na, .slice gt m.length nt, .slice gb b.bs.length nb, .int .u64 (b.fe : Nat)]) := HC8.out.setR _ rfl
          have HS9 := Lib.hid (HS8.out.far (grown_setCells w8 (w.heap.size + 1) 0 [.slice ga mn.length na, .slice gt m.length nt, .slice gb b.bs.length nb, .int .u64 (b.fe : Nat)]) (by omega))
          have HN9 := Lib.hid (HN8.out.far (grown_setCells w8 (w.heap.size + 1) 0 [.slice ga mn.length na, .slice gt m.length nt, .slice gb b.bs.length nb, .int .u64 (b.fe : Nat)]) (by omega))
          have HO9 := Lib.hid (own_far HO8.out (grown_setCells w8 (w.heap.size + 1) 0 [.slice ga mn.length na, .slice gt m.length nt, .slice gb b.bs.length nb, .int .u64 (b.fe : Nat)]) (by omega))
          clear hth HC8 HS8 HN8 HO8
          generalize w8.setCells (w.heap.size + 1) 0 [.slice ga mn.length na, .slice gt m.length nt, .slice gb b.bs.length nb, .int .u64 (b.fe : Nat)] = w9 at *
          refine wpList_nil ?_
          go_wp2
          exact Hd.bodyPost_bx rfl (w.heap.size + 1) [.slice ga mn.length na, .slice gt m.length nt, .slice gb b.bs.length nb, .int .u64 (b.fe : Nat)] _ rfl rfl HC9.out.r Tryz.underlying27 rfl rfl ⟨_, _, _, mn, m, rfl, HEN.out.symm, HET.out.symm, ⟨HN9.out.ow.le (by omega), HS9.out.ow.le (by omega), HO9.out.le (by omega), fun y hy => (HN9.out.dn y hy).le (by omega), fun y hy => (HS9.out.dn y hy).le (by omega)⟩, HC9.out.b⟩
        | succ gg =>
          have hlk : k < b.ts.length := by omega
          have t2 : (k : Int) < (b.ts.length : Int) := by omega
          have t3 : IntKind.i64.wrap ((k : Int) + 1) = (k : Int) + 1 := by rw [IntKind.wrap_i64]; omega
          have t4 : (0 : Int) ≤ (k : Int) := by omega
          have HML : Hid (m.length = k) := by have h := congrArg List.length HEr.out; rw [List.length_map, List.length_take] at h; show _ = _; omega
          obtain ⟨g, o, rfl, hgl, hrr⟩ := HVT.out (by omega)
          obtain ⟨x, hx, hax, hdx, hfx⟩ := hrr k hlk
          have HX : Hid (x.td = b.ts[k]) := hx
          have hrow : wr.rangeAt g (o + k * 9) [.string x.td.n, .int .i64 x.td.z0, .int .i64 x.td.z1, .int .i64 x.td.z2, .slice x.a4 x.td.ws.length x.c4, .slice x.a5 x.td.bs.length x.c5, .string x.td.g, .string x.td.a, .int .i64 x.td.r] := fun j u hj => (hax.keep HCr.out.b hgl) j u hj
          have HCN : Hid (∀ z, Hid (Below w.heap.size w z) → Calls Tryz.prog 26 #[.agg #[.string x.td.n, .int .i64 x.td.z0, .int .i64 x.td.z1, .int .i64 x.td.z2, .slice x.a4 x.td.ws.length x.c4, .slice x.a5 x.td.bs.length x.c5, .string x.td.g, .string x.td.a, .int .i64 x.td.r]] z fun e w' => ∃ y : TdM, y.td = x.td ∧ e = .returned (.agg #[.string y.td.n, .int .i64 y.td.z0, .int .i64 y.td.z1, .int .i64 y.td.z2, .slice y.a4 y.td.ws.length y.c4, .slice y.a5 y.td.bs.length y.c5, .string y.td.g, .string y.td.a, .int .i64 y.td.r]) ∧ OwnT w' z.heap.size y ∧ Below z.heap.size z w') := fun z hz => copy_t x z (hdx.on hz.out) hfx
          have HVA : Hid (∀ q, va.ownBlock = some q → q < wr.heap.size) := fun q e => (HSr.out.ow.lt q e).2
          obtain ⟨q1, q2, rfl⟩ := HSr.out.ow.slice
          clear hrr hx hax hdx hfx
          go_upto_region 9 with fail
          refine wp_region_list ?_
          refine wpList_plain rfl fun K hK => ?_
          go_simp
          refine hK _ _ ?_
          clear hK K
          refine wpList_load_mid rfl 34 (.tmp 31) rfl (g) (o + k * 9) rfl [.string x.td.n, .int .i64 x.td.z0, .int .i64 x.td.z1, .int .i64 x.td.z2, .slice x.a4 x.td.ws.length x.c4, .slice x.a5 x.td.bs.length x.c5, .string x.td.g, .string x.td.a, .int .i64 x.td.r] _ (hrow) Tryz.underlying34 rfl rfl ?_
          refine wpList_plain rfl fun K hK => ?_
          go_simp
          refine hK _ _ ?_
          clear hK K
          obtain ⟨th1, hbz, hx1⟩ := one_made wr [.string ⟨#[]⟩, .int .i64 0, .int .i64 0, .int .i64 0, .slice none 0 0, .slice none 0 0, .string ⟨#[]⟩, .string ⟨#[]⟩, .int .i64 0] [.string x.td.n, .int .i64 x.td.z0, .int .i64 x.td.z1, .int .i64 x.td.z2, .slice x.a4 x.td.ws.length x.c4, .slice x.a5 x.td.bs.length x.c5, .string x.td.g, .string x.td.a, .int .i64 x.td.r] 34 rfl
          refine store_l rfl 34 (.tmp 7) (.tmp 32) rfl (wr.heap.size) [.string x.td.n, .int .i64 x.td.z0, .int .i64 x.td.z1, .int .i64 x.td.z2, .slice x.a4 x.td.ws.length x.c4, .slice x.a5 x.td.bs.length x.c5, .string x.td.g, .string x.td.a, .int .i64 x.td.r] rfl rfl th1 rfl rfl ?_
          clear th1 hrow
          generalize (wr.alloc (.cells #[.string ⟨#[]⟩, .int .i64 0, .int .i64 0, .int .i64 0, .slice none 0 0, .slice none 0 0, .string ⟨#[]⟩, .string ⟨#[]⟩, .int .i64 0] 34)).setCells wr.heap.size 0 [.string x.td.n, .int .i64 x.td.z0, .int .i64 x.td.z1, .int .i64 x.td.z2, .slice x.a4 x.td.ws.length x.c4, .slice x.a5 x.td.bs.length x.c5, .string x.td.g, .string x.td.a, .int .i64 x.td.r] = y0 at *
          have HBd : Hid (Below wr.heap.size wr y0.drew) := below_drew hbz
          have HCy : Hid (Cp w y0.drew [.slice an b.ns.length cn, .slice (some ⟨g, o, none⟩) b.ts.length ct, .slice ab b.bs.length cb, .int .u64 (b.fe : Nat)] [.slice none 0 0, .slice none 0 0, .slice none 0 0, .int .u64 0] [.slice ga mn.length na, .slice q1 m.length q2, .slice none 0 0, .int .u64 (b.fe : Nat)]) := HCr.out.below HBd.out
          have HSy : Hid (CsT w y0.drew (.slice q1 m.length q2) m) := HSr.out.keep HBd.out
          have HNy : Hid (CsN w y0.drew (.slice ga mn.length na) mn) := HNr.out.keep HBd.out
          have HXy : Hid (Hd.Bxn y0.drew wr.heap.size [.string x.td.n, .int .i64 x.td.z0, .int .i64 x.td.z1, .int .i64 x.td.z2, .slice x.a4 x.td.ws.length x.c4, .slice x.a5 x.td.bs.length x.c5, .string x.td.g, .string x.td.a, .int .i64 x.td.r]) := by obtain ⟨T, h⟩ := hx1; exact ⟨T, h⟩
          have HZ : Hid (w.heap.size + 1 + 1 + 1 ≤ wr.heap.size) := HCr.out.s
          have HZy : Hid (wr.heap.size < y0.drew.heap.size) := HXy.out.lt
          clear hbz hx1 HCr HSr HNr
          refine wpList_nil ?_
          have HP : Hid (∀ z, Hd.Bxn z wr.heap.size [.string x.td.n, .int .i64 x.td.z0, .int .i64 x.td.z1, .int .i64 x.td.z2, .slice x.a4 x.td.ws.length x.c4, .slice x.a5 x.td.bs.length x.c5, .string x.td.g, .string x.td.a, .int .i64 x.td.r] → (z.cell? ⟨wr.heap.size, 0, none⟩ = some (.string x.td.n) ∧ z.cell? ⟨wr.heap.size, 1, none⟩ = some (.int .i64 x.td.z0) ∧ z.cell? ⟨wr.heap.size, 2, none⟩ = some (.int .i64 x.td.z1) ∧ z.cell? ⟨wr.heap.size, 3, none⟩ = some (.int .i64 x.td.z2) ∧ z.cell? ⟨wr.heap.size, 4, none⟩ = some (.slice x.a4 x.td.ws.length x.c4) ∧ z.cell? ⟨wr.heap.size, 5, none⟩ = some (.slice x.a5 x.td.bs.length x.c5) ∧ z.cell? ⟨wr.heap.size, 6, none⟩ = some (.string x.td.g) ∧ z.cell? ⟨wr.heap.size, 7, none⟩ = some (.string x.td.a) ∧ z.cell? ⟨wr.heap.size, 8, none⟩ = some (.int .i64 x.td.r))) := fun z h => ⟨h.cell 0, h.cell 1, h.cell 2, h.cell 3, h.cell 4, h.cell 5, h.cell 6, h.cell 7, h.cell 8⟩
          go_upto_region 10 with fail
          refine wp_region_held_drew (S := fun z => z.cell? ⟨wr.heap.size, 0, none⟩ = some (.string x.td.n) ∧ z.cell? ⟨wr.heap.size, 1, none⟩ = some (.int .i64 x.td.z0) ∧ z.cell? ⟨wr.heap.size, 2, none⟩ = some (.int .i64 x.td.z1) ∧ z.cell? ⟨wr.heap.size, 3, none⟩ = some (.int .i64 x.td.z2) ∧ z.cell? ⟨wr.heap.size, 4, none⟩ = some (.slice x.a4 x.td.ws.length x.c4) ∧ z.cell? ⟨wr.heap.size, 5, none⟩ = some (.slice x.a5 x.td.bs.length x.c5) ∧ z.cell? ⟨wr.heap.size, 6, none⟩ = some (.string x.td.g) ∧ z.cell? ⟨wr.heap.size, 7, none⟩ = some (.string x.td.a) ∧ z.cell? ⟨wr.heap.size, 8, none⟩ = some (.int .i64 x.td.r)) (by kernel_rfl) (HP.out _ HXy.out) (fun hHeld => ?_)
          clear HBd
          generalize y0.drew = yd at *
          refine wpAnyH_take (i := 0) (v := ?_) rfl (by kernel_rfl) (by kernel_rfl) (by kernel_rfl) (fun _ _ _ h => h) (Or.inl ⟨by rfl, ?_⟩) (by assumption) ?_
          rotate_left
          · intro z hSz
            obtain ⟨c0, c1, c2, c3, c4, c5, c6, c7, c8⟩ := hSz
            go_simp
            try with_reducible rfl
          try simp only [Act.put, zq1, zq2, zq3, zq4, zq6]
          refine wpAnyH_take (i := 2) (v := ?_) rfl (by kernel_rfl) (by kernel_rfl) (by kernel_rfl) (fun _ _ _ h => h) (Or.inl ⟨by rfl, ?_⟩) (by assumption) ?_
          rotate_left
          · intro z hSz
            obtain ⟨c0, c1, c2, c3, c4, c5, c6, c7, c8⟩ := hSz
            go_simp
            try with_reducible rfl
          try simp only [Act.put, zq1, zq2, zq3, zq4, zq5, zq6]
          have HLB : Hid (b.ts.length * 128 ≤ 140737488355328 ∧ k + 1 ≤ b.ts.length) := ⟨HLT.out, hlk⟩
          have HCc := HCy
          have HSc := HSy
          have HXc := HXy
          clear HCy HSy HXy
          have HNc := HNy
          clear HNy
          refine wpAnyH_ready (rs := [1, 3]) (by kernel_rfl) (by simp) ?_
          refine AllReadyH.cons rfl (fun K hK => ?_) ?_
          · have kl : yd.cell? ⟨w.heap.size + 1 + 1, 1, none⟩ = some (.slice q1 m.length q2) := HCc.out.o.cell 1
            go_simp
            refine hK.out _ _ (HP.out _ HXc.out) (fun hHeld2 => ?_)
            clear hK K hHeld
            have hHeld := hHeld2
            clear hHeld2
            try simp only [Act.put, zq1, zq2, zq3, zq4, zq5, zq6]
            clear kl
            refine wpAnyH_ready (rs := [3]) (by kernel_rfl) (by simp) ?_
            refine AllReadyH.cons rfl (fun K hK => ?_) AllReadyH.nil
            go_simp
            refine (HCN.out _ HCc.out.b).mono ?_
            rintro e w5 ⟨x2, hx2, rfl, ho2, hb⟩
            have HX2 : Hid (x2.td = x.td) := hx2
            have HC5 := Lib.hid (HCc.out.below hb)
            have HS5 := Lib.hid (HSc.out.keep hb)
            have HN5 := Lib.hid (HNc.out.keep hb)
            have HX5 := Lib.hid (HXc.out.below hb)
            have HO5 : Hid (OwnT w5 (w.heap.size + 1 + 1 + 1) x2) := ho2.le HCc.out.s
            have HL5 : Hid (wr.heap.size < w5.heap.size) := Nat.lt_of_lt_of_le HXc.out.lt hb.size
            clear hx2 ho2 hb HCc HSc HXc HNc
            refine hK.out _ _ (HP.out _ HX5.out) (fun hHeld2 => ?_)
            clear hK K hHeld
            have hHeld := hHeld2
            clear hHeld2
            try simp only [Act.put, zq1, zq2, zq3, zq4, zq5, zq6]
            have HCc := HC5
            have HSc := HS5
            have HXc := HX5
            have HOc := HO5
            clear HC5 HS5 HX5 HO5
            have HNc := HN5
            clear HN5
            refine wpAnyH_ready (rs := [4]) (by kernel_rfl) (by simp) ?_
            refine AllReadyH.cons rfl (fun K hK => ?_) AllReadyH.nil
            go_simp
            have ha : Below w5.heap.size w5 (w5.alloc (.cells #[.string x2.td.n, .int .i64 x2.td.z0, .int .i64 x2.td.z1, .int .i64 x2.td.z2, .slice x2.a4 x2.td.ws.length x2.c4, .slice x2.a5 x2.td.bs.length x2.c5, .string x2.td.g, .string x2.td.a, .int .i64 x2.td.r] 34)) := al _ _
            have HC6 := Lib.hid (HCc.out.below ha)
            have HS6 := Lib.hid (HSc.out.keep ha)
            have HN6 := Lib.hid (HNc.out.keep ha)
            have HX6 := Lib.hid (HXc.out.below ha)
            have HO6 := Lib.hid (HOc.out.keep ha)
            have HSL : Hid (Sl (w5.alloc (.cells #[.string x2.td.n, .int .i64 x2.td.z0, .int .i64 x2.td.z1, .int .i64 x2.td.z2, .slice x2.a4 x2.td.ws.length x2.c4, .slice x2.a5 x2.td.bs.length x2.c5, .string x2.td.g, .string x2.td.a, .int .i64 x2.td.r] 34)) w5.heap.size (w5.alloc (.cells #[.string x2.td.n, .int .i64 x2.td.z0, .int .i64 x2.td.z1, .int .i64 x2.td.z2, .slice x2.a4 x2.td.ws.length x2.c4, .slice x2.a5 x2.td.bs.length x2.c5, .string x2.td.g, .string x2.td.a, .int .i64 x2.td.r] 34)).heap.size (.slice (some ⟨w5.heap.size, 0, none⟩) 1 1) [x2]) := sl_one w5 x2 _
            clear ha HCc HSc HXc HOc HNc
            refine hK.out _ _ (HP.out _ HX6.out) (fun hHeld2 => ?_)
            clear hK K hHeld
            have hHeld := hHeld2
            clear hHeld2
            try simp only [Act.put, zq1, zq2, zq3, zq4, zq5, zq6]
            have HCc := HC6
            have HSc := HS6
            have HXc := HX6
            have HOc := HO6
            clear HC6 HS6 HX6 HO6
            have HNc := HN6
            clear HN6
            refine wpAnyH_ready (rs := [5]) (by kernel_rfl) (by simp) ?_
            refine AllReadyH.cons rfl (fun K hK => ?_) AllReadyH.nil
            obtain ⟨i0, hi0, hz0, hz1, hz2⟩ := info_parts info_t
            obtain ⟨v7, w7, hr, ho7, hg7, -⟩ := run_app (P := Tryz.prog) (ty := 23) Tryz.underlying23 hi0 hz0 hz1 hz2 rfl HSc.out.ow HSL.out (by have h := HLB.out; rw [HML.out, List.length_singleton]; omega) (by have h := HLB.out; rw [HML.out, List.length_singleton]; omega) HCc.out.s
            obtain ⟨g7, n7, hv7⟩ := ho7.slice
            generalize (m ++ [x2]).length = L7 at hv7
            subst hv7
            refine step_app rfl (.tmp 34) (.tmp 37) 23 rfl _ _ _ rfl rfl hr ?_
            clear hr
            have hbg := own_grown (w := w) HSc.out.ow hg7 HCc.out.s
            have HC7 := Lib.hid (HCc.out.go hbg)
            have HS7 := Lib.hid (HSc.out.more HOc.out ho7 hg7)
            have HN7 := Lib.hid (HNc.out.off HSc.out.ow (by decide) (by decide) hg7)
            have HX7 : Hid (Hd.Bxn w7 wr.heap.size [.string x.td.n, .int .i64 x.td.z0, .int .i64 x.td.z1, .int .i64 x.td.z2, .slice x.a4 x.td.ws.length x.c4, .slice x.a5 x.td.bs.length x.c5, .string x.td.g, .string x.td.a, .int .i64 x.td.r]) := by
              obtain ⟨T, h⟩ := HXc.out
              exact ⟨T, (hg7.block _ (Hd.Bxn.lt ⟨T, h⟩) (fun e => by have := HVA.out _ e.symm; omega)).trans h⟩
            have hm7 : (m ++ [x2]).map (·.td) = b.ts.take (k + 1) := by rw [List.map_append, HEr.out, List.map_singleton, HX2.out, HX.out, List.take_succ_eq_append_getElem hlk]
            have HM7 := Lib.hid hm7
            clear hm7
            clear hbg ho7 hg7 HCc HSc HXc HOc HSL HNc
            refine hK.out _ _ (HP.out _ HX7.out) (fun hHeld2 => ?_)
            clear hK K hHeld
            have hHeld := hHeld2
            clear hHeld2
            try simp only [Act.put, zq1, zq2, zq3, zq4, zq5, zq6]
            refine wpAnyH_take (i := 6) (v := ?_) rfl (by kernel_rfl) (by kernel_rfl) (by kernel_rfl) (fun _ _ _ h => h) (Or.inl ⟨by rfl, ?_⟩) (by assumption) ?_
            rotate_left
            · intro z hSz
              obtain ⟨c0, c1, c2, c3, c4, c5, c6, c7, c8⟩ := hSz
              go_simp
              try with_reducible rfl
            try simp only [Act.put, zq1, zq2, zq3, zq4, zq5, zq6]
            refine wpAnyH_ready (rs := [7]) (by kernel_rfl) (by simp) ?_
            refine AllReadyH.cons rfl (fun K hK => ?_) AllReadyH.nil
            have kl : w7.cell? ⟨w.heap.size + 1 + 1, 1, none⟩ = some (.slice q1 m.length q2) := HC7.out.o.cell 1
            have kf : w7.frozen? ⟨w.heap.size + 1 + 1, 1, none⟩ = false := HC7.out.o.fz 1
            go_simp
            have HC8 : Hid (Cp w (w7.setCell ⟨w.heap.size + 1 + 1, 1, none⟩ (.slice g7 L7 n7)) [.slice an b.ns.length cn, .slice (some ⟨g, o, none⟩) b.ts.length ct, .slice ab b.bs.length cb, .int .u64 (b.fe : Nat)] [.slice none 0 0, .slice none 0 0, .slice none 0 0, .int .u64 0] [.slice ga mn.length na, .slice g7 L7 n7, .slice none 0 0, .int .u64 (b.fe : Nat)]) := HC7.out.setO 1 _
            have HS8 : Hid (CsT w (w7.setCell ⟨w.heap.size + 1 + 1, 1, none⟩ (.slice g7 L7 n7)) (.slice g7 L7 n7) (m ++ [x2])) := HS7.out.far (grown_setCell _ _ _ _) (by omega)
            have HN8 : Hid (CsN w (w7.setCell ⟨w.heap.size + 1 + 1, 1, none⟩ (.slice g7 L7 n7)) (.slice ga mn.length na) mn) := HN7.out.far (grown_setCell _ _ _ _) (by omega)
            have HX8 : Hid (Hd.Bxn (w7.setCell ⟨w.heap.size + 1 + 1, 1, none⟩ (.slice g7 L7 n7)) wr.heap.size [.string x.td.n, .int .i64 x.td.z0, .int .i64 x.td.z1, .int .i64 x.td.z2, .slice x.a4 x.td.ws.length x.c4, .slice x.a5 x.td.bs.length x.c5, .string x.td.g, .string x.td.a, .int .i64 x.td.r]) := HX7.out.apart (by have := HZ.out; omega) _ _
            clear kl kf HC7 HS7 HX7 HN7
            refine hK.out _ _ (HP.out _ HX8.out) (fun hHeld2 => ?_)
            clear hK K hHeld
            have hHeld := hHeld2
            clear hHeld2
            try simp only [Act.put, zq1, zq2, zq3, zq4, zq5, zq6]
            refine wpAnyH_done (by kernel_rfl) ?_ _
            clear hHeld
            go_wp2
            go_roundg gg
            case measure => omega
            case rel => exact ⟨k + 1, .slice g7 L7 n7, m ++ [x2], by omega, by simp, ⟨HC8.out, HS8.out, HM7.out, HN8.out⟩⟩
          refine AllReadyH.cons rfl (fun K hK => ?_) AllReadyH.nil
          go_simp
          refine (HCN.out _ HCc.out.b).mono ?_
          rintro e w5 ⟨x2, hx2, rfl, ho2, hb⟩
          have HX2 : Hid (x2.td = x.td) := hx2
          have HC5 := Lib.hid (HCc.out.below hb)
          have HS5 := Lib.hid (HSc.out.keep hb)
          have HN5 := Lib.hid (HNc.out.keep hb)
          have HX5 := Lib.hid (HXc.out.below hb)
          have HO5 : Hid (OwnT w5 (w.heap.size + 1 + 1 + 1) x2) := ho2.le HCc.out.s
          have HL5 : Hid (wr.heap.size < w5.heap.size) := Nat.lt_of_lt_of_le HXc.out.lt hb.size
          clear hx2 ho2 hb HCc HSc HXc HNc
          refine hK.out _ _ (HP.out _ HX5.out) (fun hHeld2 => ?_)
          clear hK K hHeld
          have hHeld := hHeld2
          clear hHeld2
          try simp only [Act.put, zq1, zq2, zq3, zq4, zq5, zq6]
          have HCc := HC5
          have HSc := HS5
          have HXc := HX5
          have HOc := HO5
          clear HC5 HS5 HX5 HO5
          have HNc := HN5
          clear HN5
          refine wpAnyH_ready (rs := [1, 4]) (by kernel_rfl) (by simp) ?_
          refine AllReadyH.cons rfl (fun K hK => ?_) ?_
          · have kl : w5.cell? ⟨w.heap.size + 1 + 1, 1, none⟩ = some (.slice q1 m.length q2) := HCc.out.o.cell 1
            go_simp
            refine hK.out _ _ (HP.out _ HXc.out) (fun hHeld2 => ?_)
            clear hK K hHeld
            have hHeld := hHeld2
            clear hHeld2
            try simp only [Act.put, zq1, zq2, zq3, zq4, zq5, zq6]
            clear kl
            refine wpAnyH_ready (rs := [4]) (by kernel_rfl) (by simp) ?_
            refine AllReadyH.cons rfl (fun K hK => ?_) AllReadyH.nil
            go_simp
            have ha : Below w5.heap.size w5 (w5.alloc (.cells #[.string x2.td.n, .int .i64 x2.td.z0, .int .i64 x2.td.z1, .int .i64 x2.td.z2, .slice x2.a4 x2.td.ws.length x2.c4, .slice x2.a5 x2.td.bs.length x2.c5, .string x2.td.g, .string x2.td.a, .int .i64 x2.td.r] 34)) := al _ _
            have HC6 := Lib.hid (HCc.out.below ha)
            have HS6 := Lib.hid (HSc.out.keep ha)
            have HN6 := Lib.hid (HNc.out.keep ha)
            have HX6 := Lib.hid (HXc.out.below ha)
            have HO6 := Lib.hid (HOc.out.keep ha)
            have HSL : Hid (Sl (w5.alloc (.cells #[.string x2.td.n, .int .i64 x2.td.z0, .int .i64 x2.td.z1, .int .i64 x2.td.z2, .slice x2.a4 x2.td.ws.length x2.c4, .slice x2.a5 x2.td.bs.length x2.c5, .string x2.td.g, .string x2.td.a, .int .i64 x2.td.r] 34)) w5.heap.size (w5.alloc (.cells #[.string x2.td.n, .int .i64 x2.td.z0, .int .i64 x2.td.z1, .int .i64 x2.td.z2, .slice x2.a4 x2.td.ws.length x2.c4, .slice x2.a5 x2.td.bs.length x2.c5, .string x2.td.g, .string x2.td.a, .int .i64 x2.td.r] 34)).heap.size (.slice (some ⟨w5.heap.size, 0, none⟩) 1 1) [x2]) := sl_one w5 x2 _
            clear ha HCc HSc HXc HOc HNc
            refine hK.out _ _ (HP.out _ HX6.out) (fun hHeld2 => ?_)
            clear hK K hHeld
            have hHeld := hHeld2
            clear hHeld2
            try simp only [Act.put, zq1, zq2, zq3, zq4, zq5, zq6]
            have HCc := HC6
            have HSc := HS6
            have HXc := HX6
            have HOc := HO6
            clear HC6 HS6 HX6 HO6
            have HNc := HN6
            clear HN6
            refine wpAnyH_ready (rs := [5]) (by kernel_rfl) (by simp) ?_
            refine AllReadyH.cons rfl (fun K hK => ?_) AllReadyH.nil
            obtain ⟨i0, hi0, hz0, hz1, hz2⟩ := info_parts info_t
            obtain ⟨v7, w7, hr, ho7, hg7, -⟩ := run_app (P := Tryz.prog) (ty := 23) Tryz.underlying23 hi0 hz0 hz1 hz2 rfl HSc.out.ow HSL.out (by have h := HLB.out; rw [HML.out, List.length_singleton]; omega) (by have h := HLB.out; rw [HML.out, List.length_singleton]; omega) HCc.out.s
            obtain ⟨g7, n7, hv7⟩ := ho7.slice
            generalize (m ++ [x2]).length = L7 at hv7
            subst hv7
            refine step_app rfl (.tmp 34) (.tmp 37) 23 rfl _ _ _ rfl rfl hr ?_
            clear hr
            have hbg := own_grown (w := w) HSc.out.ow hg7 HCc.out.s
            have HC7 := Lib.hid (HCc.out.go hbg)
            have HS7 := Lib.hid (HSc.out.more HOc.out ho7 hg7)
            have HN7 := Lib.hid (HNc.out.off HSc.out.ow (by decide) (by decide) hg7)
            have HX7 : Hid (Hd.Bxn w7 wr.heap.size [.string x.td.n, .int .i64 x.td.z0, .int .i64 x.td.z1, .int .i64 x.td.z2, .slice x.a4 x.td.ws.length x.c4, .slice x.a5 x.td.bs.length x.c5, .string x.td.g, .string x.td.a, .int .i64 x.td.r]) := by
              obtain ⟨T, h⟩ := HXc.out
              exact ⟨T, (hg7.block _ (Hd.Bxn.lt ⟨T, h⟩) (fun e => by have := HVA.out _ e.symm; omega)).trans h⟩
            have hm7 : (m ++ [x2]).map (·.td) = b.ts.take (k + 1) := by rw [List.map_append, HEr.out, List.map_singleton, HX2.out, HX.out, List.take_succ_eq_append_getElem hlk]
            have HM7 := Lib.hid hm7
            clear hm7
            clear hbg ho7 hg7 HCc HSc HXc HOc HSL HNc
            refine hK.out _ _ (HP.out _ HX7.out) (fun hHeld2 => ?_)
            clear hK K hHeld
            have hHeld := hHeld2
            clear hHeld2
            try simp only [Act.put, zq1, zq2, zq3, zq4, zq5, zq6]
            refine wpAnyH_take (i := 6) (v := ?_) rfl (by kernel_rfl) (by kernel_rfl) (by kernel_rfl) (fun _ _ _ h => h) (Or.inl ⟨by rfl, ?_⟩) (by assumption) ?_
            rotate_left
            · intro z hSz
              obtain ⟨c0, c1, c2, c3, c4, c5, c6, c7, c8⟩ := hSz
              go_simp
              try with_reducible rfl
            try simp only [Act.put, zq1, zq2, zq3, zq4, zq5, zq6]
            refine wpAnyH_ready (rs := [7]) (by kernel_rfl) (by simp) ?_
            refine AllReadyH.cons rfl (fun K hK => ?_) AllReadyH.nil
            have kl : w7.cell? ⟨w.heap.size + 1 + 1, 1, none⟩ = some (.slice q1 m.length q2) := HC7.out.o.cell 1
            have kf : w7.frozen? ⟨w.heap.size + 1 + 1, 1, none⟩ = false := HC7.out.o.fz 1
            go_simp
            have HC8 : Hid (Cp w (w7.setCell ⟨w.heap.size + 1 + 1, 1, none⟩ (.slice g7 L7 n7)) [.slice an b.ns.length cn, .slice (some ⟨g, o, none⟩) b.ts.length ct, .slice ab b.bs.length cb, .int .u64 (b.fe : Nat)] [.slice none 0 0, .slice none 0 0, .slice none 0 0, .int .u64 0] [.slice ga mn.length na, .slice g7 L7 n7, .slice none 0 0, .int .u64 (b.fe : Nat)]) := HC7.out.setO 1 _
            have HS8 : Hid (CsT w (w7.setCell ⟨w.heap.size + 1 + 1, 1, none⟩ (.slice g7 L7 n7)) (.slice g7 L7 n7) (m ++ [x2])) := HS7.out.far (grown_setCell _ _ _ _) (by omega)
            have HN8 : Hid (CsN w (w7.setCell ⟨w.heap.size + 1 + 1, 1, none⟩ (.slice g7 L7 n7)) (.slice ga mn.length na) mn) := HN7.out.far (grown_setCell _ _ _ _) (by omega)
            have HX8 : Hid (Hd.Bxn (w7.setCell ⟨w.heap.size + 1 + 1, 1, none⟩ (.slice g7 L7 n7)) wr.heap.size [.string x.td.n, .int .i64 x.td.z0, .int .i64 x.td.z1, .int .i64 x.td.z2, .slice x.a4 x.td.ws.length x.c4, .slice x.a5 x.td.bs.length x.c5, .string x.td.g, .string x.td.a, .int .i64 x.td.r]) := HX7.out.apart (by have := HZ.out; omega) _ _
            clear kl kf HC7 HS7 HX7 HN7
            refine hK.out _ _ (HP.out _ HX8.out) (fun hHeld2 => ?_)
            clear hK K hHeld
            have hHeld := hHeld2
            clear hHeld2
            try simp only [Act.put, zq1, zq2, zq3, zq4, zq5, zq6]
            refine wpAnyH_done (by kernel_rfl) ?_ _
            clear hHeld
            go_wp2
            go_roundg gg
            case measure => omega
            case rel => exact ⟨k + 1, .slice g7 L7 n7, m ++ [x2], by omega, by simp, ⟨HC8.out, HS8.out, HM7.out, HN8.out⟩⟩
          refine AllReadyH.cons rfl (fun K hK => ?_) AllReadyH.nil
          go_simp
          have ha : Below w5.heap.size w5 (w5.alloc (.cells #[.string x2.td.n, .int .i64 x2.td.z0, .int .i64 x2.td.z1, .int .i64 x2.td.z2, .slice x2.a4 x2.td.ws.length x2.c4, .slice x2.a5 x2.td.bs.length x2.c5, .string x2.td.g, .string x2.td.a, .int .i64 x2.td.r] 34)) := al _ _
          have HC6 := Lib.hid (HCc.out.below ha)
          have HS6 := Lib.hid (HSc.out.keep ha)
          have HN6 := Lib.hid (HNc.out.keep ha)
          have HX6 := Lib.hid (HXc.out.below ha)
          have HO6 := Lib.hid (HOc.out.keep ha)
          have HSL : Hid (Sl (w5.alloc (.cells #[.string x2.td.n, .int .i64 x2.td.z0, .int .i64 x2.td.z1, .int .i64 x2.td.z2, .slice x2.a4 x2.td.ws.length x2.c4, .slice x2.a5 x2.td.bs.length x2.c5, .string x2.td.g, .string x2.td.a, .int .i64 x2.td.r] 34)) w5.heap.size (w5.alloc (.cells #[.string x2.td.n, .int .i64 x2.td.z0, .int .i64 x2.td.z1, .int .i64 x2.td.z2, .slice x2.a4 x2.td.ws.length x2.c4, .slice x2.a5 x2.td.bs.length x2.c5, .string x2.td.g, .string x2.td.a, .int .i64 x2.td.r] 34)).heap.size (.slice (some ⟨w5.heap.size, 0, none⟩) 1 1) [x2]) := sl_one w5 x2 _
          clear ha HCc HSc HXc HOc HNc
          refine hK.out _ _ (HP.out _ HX6.out) (fun hHeld2 => ?_)
          clear hK K hHeld
          have hHeld := hHeld2
          clear hHeld2
          try simp only [Act.put, zq1, zq2, zq3, zq4, zq5, zq6]
          have HCc := HC6
          have HSc := HS6
          have HXc := HX6
          have HOc := HO6
          clear HC6 HS6 HX6 HO6
          have HNc := HN6
          clear HN6
          refine wpAnyH_ready (rs := [1]) (by kernel_rfl) (by simp) ?_
          refine AllReadyH.cons rfl (fun K hK => ?_) AllReadyH.nil
          have kl : (w5.alloc (.cells #[.string x2.td.n, .int .i64 x2.td.z0, .int .i64 x2.td.z1, .int .i64 x2.td.z2, .slice x2.a4 x2.td.ws.length x2.c4, .slice x2.a5 x2.td.bs.length x2.c5, .string x2.td.g, .string x2.td.a, .int .i64 x2.td.r] 34)).cell? ⟨w.heap.size + 1 + 1, 1, none⟩ = some (.slice q1 m.length q2) := HCc.out.o.cell 1
          go_simp
          refine hK.out _ _ (HP.out _ HXc.out) (fun hHeld2 => ?_)
          clear hK K hHeld
          have hHeld := hHeld2
          clear hHeld2
          try simp only [Act.put, zq1, zq2, zq3, zq4, zq5, zq6]
          clear kl
          refine wpAnyH_ready (rs := [5]) (by kernel_rfl) (by simp) ?_
          refine AllReadyH.cons rfl (fun K hK => ?_) AllReadyH.nil
          obtain ⟨i0, hi0, hz0, hz1, hz2⟩ := info_parts info_t
          obtain ⟨v7, w7, hr, ho7, hg7, -⟩ := run_app (P := Tryz.prog) (ty := 23) Tryz.underlying23 hi0 hz0 hz1 hz2 rfl HSc.out.ow HSL.out (by have h := HLB.out; rw [HML.out, List.length_singleton]; omega) (by have h := HLB.out; rw [HML.out, List.length_singleton]; omega) HCc.out.s
          obtain ⟨g7, n7, hv7⟩ := ho7.slice
          generalize (m ++ [x2]).length = L7 at hv7
          subst hv7
          refine step_app rfl (.tmp 34) (.tmp 37) 23 rfl _ _ _ rfl rfl hr ?_
          clear hr
          have hbg := own_grown (w := w) HSc.out.ow hg7 HCc.out.s
          have HC7 := Lib.hid (HCc.out.go hbg)
          have HS7 := Lib.hid (HSc.out.more HOc.out ho7 hg7)
          have HN7 := Lib.hid (HNc.out.off HSc.out.ow (by decide) (by decide) hg7)
          have HX7 : Hid (Hd.Bxn w7 wr.heap.size [.string x.td.n, .int .i64 x.td.z0, .int .i64 x.td.z1, .int .i64 x.td.z2, .slice x.a4 x.td.ws.length x.c4, .slice x.a5 x.td.bs.length x.c5, .string x.td.g, .string x.td.a, .int .i64 x.td.r]) := by
            obtain ⟨T, h⟩ := HXc.out
            exact ⟨T, (hg7.block _ (Hd.Bxn.lt ⟨T, h⟩) (fun e => by have := HVA.out _ e.symm; omega)).trans h⟩
          have hm7 : (m ++ [x2]).map (·.td) = b.ts.take (k + 1) := by rw [List.map_append, HEr.out, List.map_singleton, HX2.out, HX.out, List.take_succ_eq_append_getElem hlk]
          have HM7 := Lib.hid hm7
          clear hm7
          clear hbg ho7 hg7 HCc HSc HXc HOc HSL HNc
          refine hK.out _ _ (HP.out _ HX7.out) (fun hHeld2 => ?_)
          clear hK K hHeld
          have hHeld := hHeld2
          clear hHeld2
          try simp only [Act.put, zq1, zq2, zq3, zq4, zq5, zq6]
          refine wpAnyH_take (i := 6) (v := ?_) rfl (by kernel_rfl) (by kernel_rfl) (by kernel_rfl) (fun _ _ _ h => h) (Or.inl ⟨by rfl, ?_⟩) (by assumption) ?_
          rotate_left
          · intro z hSz
            obtain ⟨c0, c1, c2, c3, c4, c5, c6, c7, c8⟩ := hSz
            go_simp
            try with_reducible rfl
          try simp only [Act.put, zq1, zq2, zq3, zq4, zq5, zq6]
          refine wpAnyH_ready (rs := [7]) (by kernel_rfl) (by simp) ?_
          refine AllReadyH.cons rfl (fun K hK => ?_) AllReadyH.nil
          have kl : w7.cell? ⟨w.heap.size + 1 + 1, 1, none⟩ = some (.slice q1 m.length q2) := HC7.out.o.cell 1
          have kf : w7.frozen? ⟨w.heap.size + 1 + 1, 1, none⟩ = false := HC7.out.o.fz 1
          go_simp
          have HC8 : Hid (Cp w (w7.setCell ⟨w.heap.size + 1 + 1, 1, none⟩ (.slice g7 L7 n7)) [.slice an b.ns.length cn, .slice (some ⟨g, o, none⟩) b.ts.length ct, .slice ab b.bs.length cb, .int .u64 (b.fe : Nat)] [.slice none 0 0, .slice none 0 0, .slice none 0 0, .int .u64 0] [.slice ga mn.length na, .slice g7 L7 n7, .slice none 0 0, .int .u64 (b.fe : Nat)]) := HC7.out.setO 1 _
          have HS8 : Hid (CsT w (w7.setCell ⟨w.heap.size + 1 + 1, 1, none⟩ (.slice g7 L7 n7)) (.slice g7 L7 n7) (m ++ [x2])) := HS7.out.far (grown_setCell _ _ _ _) (by omega)
          have HN8 : Hid (CsN w (w7.setCell ⟨w.heap.size + 1 + 1, 1, none⟩ (.slice g7 L7 n7)) (.slice ga mn.length na) mn) := HN7.out.far (grown_setCell _ _ _ _) (by omega)
          have HX8 : Hid (Hd.Bxn (w7.setCell ⟨w.heap.size + 1 + 1, 1, none⟩ (.slice g7 L7 n7)) wr.heap.size [.string x.td.n, .int .i64 x.td.z0, .int .i64 x.td.z1, .int .i64 x.td.z2, .slice x.a4 x.td.ws.length x.c4, .slice x.a5 x.td.bs.length x.c5, .string x.td.g, .string x.td.a, .int .i64 x.td.r]) := HX7.out.apart (by have := HZ.out; omega) _ _
          clear kl kf HC7 HS7 HX7 HN7
          refine hK.out _ _ (HP.out _ HX8.out) (fun hHeld2 => ?_)
          clear hK K hHeld
          have hHeld := hHeld2
          clear hHeld2
          try simp only [Act.put, zq1, zq2, zq3, zq4, zq5, zq6]
          refine wpAnyH_done (by kernel_rfl) ?_ _
          clear hHeld
          go_wp2
          go_roundg gg
          case measure => omega
          case rel => exact ⟨k + 1, .slice g7 L7 n7, m ++ [x2], by omega, by simp, ⟨HC8.out, HS8.out, HM7.out, HN8.out⟩⟩
    | succ gg =>
      have hlk : k < b.ns.length := by omega
      have t2 : (k : Int) < (b.ns.length : Int) := by omega
      have t3 : IntKind.i64.wrap ((k : Int) + 1) = (k : Int) + 1 := by rw [IntKind.wrap_i64]; omega
      have t4 : (0 : Int) ≤ (k : Int) := by omega
      have HML : Hid (m.length = k) := by have h := congrArg List.length HEr.out; rw [List.length_map, List.length_take] at h; show _ = _; omega
      obtain ⟨g, o, rfl, hgl, hrr⟩ := HVN.out (by omega)
      obtain ⟨x, hx, hax, hdx, hfx⟩ := hrr k hlk
      have HX : Hid (x.nd = b.ns[k]) := hx
      have hrow : wr.rangeAt g (o + k * 6) [.string x.nd.n, .int .i64 x.nd.z0, .int .i64 x.nd.z1, .int .i64 x.nd.z2, .slice x.a2 x.nd.ls.length x.c2, .slice x.a3 x.nd.ts.length x.c3] := fun j u hj => (hax.keep HCr.out.b hgl) j u hj
      have HCN : Hid (∀ z, Hid (Below w.heap.size w z) → Calls Tryz.prog 25 #[.agg #[.string x.nd.n, .int .i64 x.nd.z0, .int .i64 x.nd.z1, .int .i64 x.nd.z2, .slice x.a2 x.nd.ls.length x.c2, .slice x.a3 x.nd.ts.length x.c3]] z fun e w' => ∃ y : NdM, y.nd = x.nd ∧ e = .returned (.agg #[.string y.nd.n, .int .i64 y.nd.z0, .int .i64 y.nd.z1, .int .i64 y.nd.z2, .slice y.a2 y.nd.ls.length y.c2, .slice y.a3 y.nd.ts.length y.c3]) ∧ OwnN w' z.heap.size y ∧ Below z.heap.size z w') := fun z hz => copy_n x z (hdx.on hz.out) hfx
      have HVA : Hid (∀ q, va.ownBlock = some q → q < wr.heap.size) := fun q e => (HSr.out.ow.lt q e).2
      obtain ⟨q1, q2, rfl⟩ := HSr.out.ow.slice
      clear hrr hx hax hdx hfx
      go_upto_region 4 with fail
      refine wp_region_list ?_
      refine wpList_plain rfl fun K hK => ?_
      go_simp
      refine hK _ _ ?_
      clear hK K
      refine wpList_load_mid rfl 32 (.tmp 16) rfl (g) (o + k * 6) rfl [.string x.nd.n, .int .i64 x.nd.z0, .int .i64 x.nd.z1, .int .i64 x.nd.z2, .slice x.a2 x.nd.ls.length x.c2, .slice x.a3 x.nd.ts.length x.c3] _ (hrow) Tryz.underlying32 rfl rfl ?_
      refine wpList_plain rfl fun K hK => ?_
      go_simp
      refine hK _ _ ?_
      clear hK K
      obtain ⟨th1, hbz, hx1⟩ := one_made wr [.string ⟨#[]⟩, .int .i64 0, .int .i64 0, .int .i64 0, .slice none 0 0, .slice none 0 0] [.string x.nd.n, .int .i64 x.nd.z0, .int .i64 x.nd.z1, .int .i64 x.nd.z2, .slice x.a2 x.nd.ls.length x.c2, .slice x.a3 x.nd.ts.length x.c3] 32 rfl
      refine store_l rfl 32 (.tmp 5) (.tmp 17) rfl (wr.heap.size) [.string x.nd.n, .int .i64 x.nd.z0, .int .i64 x.nd.z1, .int .i64 x.nd.z2, .slice x.a2 x.nd.ls.length x.c2, .slice x.a3 x.nd.ts.length x.c3] rfl rfl th1 rfl rfl ?_
      clear th1 hrow
      generalize (wr.alloc (.cells #[.string ⟨#[]⟩, .int .i64 0, .int .i64 0, .int .i64 0, .slice none 0 0, .slice none 0 0] 32)).setCells wr.heap.size 0 [.string x.nd.n, .int .i64 x.nd.z0, .int .i64 x.nd.z1, .int .i64 x.nd.z2, .slice x.a2 x.nd.ls.length x.c2, .slice x.a3 x.nd.ts.length x.c3] = y0 at *
      have HBd : Hid (Below wr.heap.size wr y0.drew) := below_drew hbz
      have HCy : Hid (Cp w y0.drew [.slice (some ⟨g, o, none⟩) b.ns.length cn, .slice at' b.ts.length ct, .slice ab b.bs.length cb, .int .u64 (b.fe : Nat)] [.slice none 0 0, .slice none 0 0, .slice none 0 0, .int .u64 0] [.slice q1 m.length q2, .slice none 0 0, .slice none 0 0, .int .u64 (b.fe : Nat)]) := HCr.out.below HBd.out
      have HSy : Hid (CsN w y0.drew (.slice q1 m.length q2) m) := HSr.out.keep HBd.out
      have HXy : Hid (Hd.Bxn y0.drew wr.heap.size [.string x.nd.n, .int .i64 x.nd.z0, .int .i64 x.nd.z1, .int .i64 x.nd.z2, .slice x.a2 x.nd.ls.length x.c2, .slice x.a3 x.nd.ts.length x.c3]) := by obtain ⟨T, h⟩ := hx1; exact ⟨T, h⟩
      have HZ : Hid (w.heap.size + 1 + 1 + 1 ≤ wr.heap.size) := HCr.out.s
      have HZy : Hid (wr.heap.size < y0.drew.heap.size) := HXy.out.lt
      clear hbz hx1 HCr HSr
      refine wpList_nil ?_
      have HP : Hid (∀ z, Hd.Bxn z wr.heap.size [.string x.nd.n, .int .i64 x.nd.z0, .int .i64 x.nd.z1, .int .i64 x.nd.z2, .slice x.a2 x.nd.ls.length x.c2, .slice x.a3 x.nd.ts.length x.c3] → (z.cell? ⟨wr.heap.size, 0, none⟩ = some (.string x.nd.n) ∧ z.cell? ⟨wr.heap.size, 1, none⟩ = some (.int .i64 x.nd.z0) ∧ z.cell? ⟨wr.heap.size, 2, none⟩ = some (.int .i64 x.nd.z1) ∧ z.cell? ⟨wr.heap.size, 3, none⟩ = some (.int .i64 x.nd.z2) ∧ z.cell? ⟨wr.heap.size, 4, none⟩ = some (.slice x.a2 x.nd.ls.length x.c2) ∧ z.cell? ⟨wr.heap.size, 5, none⟩ = some (.slice x.a3 x.nd.ts.length x.c3))) := fun z h => ⟨h.cell 0, h.cell 1, h.cell 2, h.cell 3, h.cell 4, h.cell 5⟩
      go_upto_region 5 with fail
      refine wp_region_held_drew (S := fun z => z.cell? ⟨wr.heap.size, 0, none⟩ = some (.string x.nd.n) ∧ z.cell? ⟨wr.heap.size, 1, none⟩ = some (.int .i64 x.nd.z0) ∧ z.cell? ⟨wr.heap.size, 2, none⟩ = some (.int .i64 x.nd.z1) ∧ z.cell? ⟨wr.heap.size, 3, none⟩ = some (.int .i64 x.nd.z2) ∧ z.cell? ⟨wr.heap.size, 4, none⟩ = some (.slice x.a2 x.nd.ls.length x.c2) ∧ z.cell? ⟨wr.heap.size, 5, none⟩ = some (.slice x.a3 x.nd.ts.length x.c3)) (by kernel_rfl) (HP.out _ HXy.out) (fun hHeld => ?_)
      clear HBd
      generalize y0.drew = yd at *
      refine wpAnyH_take (i := 0) (v := ?_) rfl (by kernel_rfl) (by kernel_rfl) (by kernel_rfl) (fun _ _ _ h => h) (Or.inl ⟨by rfl, ?_⟩) (by assumption) ?_
      rotate_left
      · intro z hSz
        obtain ⟨c0, c1, c2, c3, c4, c5⟩ := hSz
        go_simp
        try with_reducible rfl
      try simp only [Act.put, zq1, zq2, zq3, zq4, zq6]
      refine wpAnyH_take (i := 2) (v := ?_) rfl (by kernel_rfl) (by kernel_rfl) (by kernel_rfl) (fun _ _ _ h => h) (Or.inl ⟨by rfl, ?_⟩) (by assumption) ?_
      rotate_left
      · intro z hSz
        obtain ⟨c0, c1, c2, c3, c4, c5⟩ := hSz
        go_simp
        try with_reducible rfl
      try simp only [Act.put, zq1, zq2, zq3, zq4, zq5, zq6]
      have HLB : Hid (b.ns.length * 88 ≤ 140737488355328 ∧ k + 1 ≤ b.ns.length) := ⟨HLN.out, hlk⟩
      have HCc := HCy
      have HSc := HSy
      have HXc := HXy
      clear HCy HSy HXy
      refine wpAnyH_ready (rs := [1, 3]) (by kernel_rfl) (by simp) ?_
      refine AllReadyH.cons rfl (fun K hK => ?_) ?_
      · have kl : yd.cell? ⟨w.heap.size + 1 + 1, 0, none⟩ = some (.slice q1 m.length q2) := HCc.out.o.cell 0
        go_simp
        refine hK.out _ _ (HP.out _ HXc.out) (fun hHeld2 => ?_)
        clear hK K hHeld
        have hHeld := hHeld2
        clear hHeld2
        try simp only [Act.put, zq1, zq2, zq3, zq4, zq5, zq6]
        clear kl
        refine wpAnyH_ready (rs := [3]) (by kernel_rfl) (by simp) ?_
        refine AllReadyH.cons rfl (fun K hK => ?_) AllReadyH.nil
        go_simp
        refine (HCN.out _ HCc.out.b).mono ?_
        rintro e w5 ⟨x2, hx2, rfl, ho2, hb⟩
        have HX2 : Hid (x2.nd = x.nd) := hx2
        have HC5 := Lib.hid (HCc.out.below hb)
        have HS5 := Lib.hid (HSc.out.keep hb)
        have HX5 := Lib.hid (HXc.out.below hb)
        have HO5 : Hid (OwnN w5 (w.heap.size + 1 + 1 + 1) x2) := ho2.le HCc.out.s
        have HL5 : Hid (wr.heap.size < w5.heap.size) := Nat.lt_of_lt_of_le HXc.out.lt hb.size
        clear hx2 ho2 hb HCc HSc HXc
        refine hK.out _ _ (HP.out _ HX5.out) (fun hHeld2 => ?_)
        clear hK K hHeld
        have hHeld := hHeld2
        clear hHeld2
        try simp only [Act.put, zq1, zq2, zq3, zq4, zq5, zq6]
        have HCc := HC5
        have HSc := HS5
        have HXc := HX5
        have HOc := HO5
        clear HC5 HS5 HX5 HO5
        refine wpAnyH_ready (rs := [4]) (by kernel_rfl) (by simp) ?_
        refine AllReadyH.cons rfl (fun K hK => ?_) AllReadyH.nil
        go_simp
        have ha : Below w5.heap.size w5 (w5.alloc (.cells #[.string x2.nd.n, .int .i64 x2.nd.z0, .int .i64 x2.nd.z1, .int .i64 x2.nd.z2, .slice x2.a2 x2.nd.ls.length x2.c2, .slice x2.a3 x2.nd.ts.length x2.c3] 32)) := al _ _
        have HC6 := Lib.hid (HCc.out.below ha)
        have HS6 := Lib.hid (HSc.out.keep ha)
        have HX6 := Lib.hid (HXc.out.below ha)
        have HO6 := Lib.hid (HOc.out.keep ha)
        have HSL : Hid (Sl (w5.alloc (.cells #[.string x2.nd.n, .int .i64 x2.nd.z0, .int .i64 x2.nd.z1, .int .i64 x2.nd.z2, .slice x2.a2 x2.nd.ls.length x2.c2, .slice x2.a3 x2.nd.ts.length x2.c3] 32)) w5.heap.size (w5.alloc (.cells #[.string x2.nd.n, .int .i64 x2.nd.z0, .int .i64 x2.nd.z1, .int .i64 x2.nd.z2, .slice x2.a2 x2.nd.ls.length x2.c2, .slice x2.a3 x2.nd.ts.length x2.c3] 32)).heap.size (.slice (some ⟨w5.heap.size, 0, none⟩) 1 1) [x2]) := sl_one w5 x2 _
        clear ha HCc HSc HXc HOc
        refine hK.out _ _ (HP.out _ HX6.out) (fun hHeld2 => ?_)
        clear hK K hHeld
        have hHeld := hHeld2
        clear hHeld2
        try simp only [Act.put, zq1, zq2, zq3, zq4, zq5, zq6]
        have HCc := HC6
        have HSc := HS6
        have HXc := HX6
        have HOc := HO6
        clear HC6 HS6 HX6 HO6
        refine wpAnyH_ready (rs := [5]) (by kernel_rfl) (by simp) ?_
        refine AllReadyH.cons rfl (fun K hK => ?_) AllReadyH.nil
        obtain ⟨i0, hi0, hz0, hz1, hz2⟩ := info_parts info_n
        obtain ⟨v7, w7, hr, ho7, hg7, -⟩ := run_app (P := Tryz.prog) (ty := 22) Tryz.underlying22 hi0 hz0 hz1 hz2 rfl HSc.out.ow HSL.out (by have h := HLB.out; rw [HML.out, List.length_singleton]; omega) (by have h := HLB.out; rw [HML.out, List.length_singleton]; omega) HCc.out.s
        obtain ⟨g7, n7, hv7⟩ := ho7.slice
        generalize (m ++ [x2]).length = L7 at hv7
        subst hv7
        refine step_app rfl (.tmp 19) (.tmp 22) 22 rfl _ _ _ rfl rfl hr ?_
        clear hr
        have hbg := own_grown (w := w) HSc.out.ow hg7 HCc.out.s
        have HC7 := Lib.hid (HCc.out.go hbg)
        have HS7 := Lib.hid (HSc.out.more HOc.out ho7 hg7)
        have HX7 : Hid (Hd.Bxn w7 wr.heap.size [.string x.nd.n, .int .i64 x.nd.z0, .int .i64 x.nd.z1, .int .i64 x.nd.z2, .slice x.a2 x.nd.ls.length x.c2, .slice x.a3 x.nd.ts.length x.c3]) := by
          obtain ⟨T, h⟩ := HXc.out
          exact ⟨T, (hg7.block _ (Hd.Bxn.lt ⟨T, h⟩) (fun e => by have := HVA.out _ e.symm; omega)).trans h⟩
        have hm7 : (m ++ [x2]).map (·.nd) = b.ns.take (k + 1) := by rw [List.map_append, HEr.out, List.map_singleton, HX2.out, HX.out, List.take_succ_eq_append_getElem hlk]
        have HM7 := Lib.hid hm7
        clear hm7
        clear hbg ho7 hg7 HCc HSc HXc HOc HSL
        refine hK.out _ _ (HP.out _ HX7.out) (fun hHeld2 => ?_)
        clear hK K hHeld
        have hHeld := hHeld2
        clear hHeld2
        try simp only [Act.put, zq1, zq2, zq3, zq4, zq5, zq6]
        refine wpAnyH_take (i := 6) (v := ?_) rfl (by kernel_rfl) (by kernel_rfl) (by kernel_rfl) (fun _ _ _ h => h) (Or.inl ⟨by rfl, ?_⟩) (by assumption) ?_
        rotate_left
        · intro z hSz
          obtain ⟨c0, c1, c2, c3, c4, c5⟩ := hSz
          go_simp
          try with_reducible rfl
        try simp only [Act.put, zq1, zq2, zq3, zq4, zq5, zq6]
        refine wpAnyH_ready (rs := [7]) (by kernel_rfl) (by simp) ?_
        refine AllReadyH.cons rfl (fun K hK => ?_) AllReadyH.nil
        have kl : w7.cell? ⟨w.heap.size + 1 + 1, 0, none⟩ = some (.slice q1 m.length q2) := HC7.out.o.cell 0
        have kf : w7.frozen? ⟨w.heap.size + 1 + 1, 0, none⟩ = false := HC7.out.o.fz 0
        go_simp
        have HC8 : Hid (Cp w (w7.setCell ⟨w.heap.size + 1 + 1, 0, none⟩ (.slice g7 L7 n7)) [.slice (some ⟨g, o, none⟩) b.ns.length cn, .slice at' b.ts.length ct, .slice ab b.bs.length cb, .int .u64 (b.fe : Nat)] [.slice none 0 0, .slice none 0 0, .slice none 0 0, .int .u64 0] [.slice g7 L7 n7, .slice none 0 0, .slice none 0 0, .int .u64 (b.fe : Nat)]) := HC7.out.setO 0 _
        have HS8 : Hid (CsN w (w7.setCell ⟨w.heap.size + 1 + 1, 0, none⟩ (.slice g7 L7 n7)) (.slice g7 L7 n7) (m ++ [x2])) := HS7.out.far (grown_setCell _ _ _ _) (by omega)
        have HX8 : Hid (Hd.Bxn (w7.setCell ⟨w.heap.size + 1 + 1, 0, none⟩ (.slice g7 L7 n7)) wr.heap.size [.string x.nd.n, .int .i64 x.nd.z0, .int .i64 x.nd.z1, .int .i64 x.nd.z2, .slice x.a2 x.nd.ls.length x.c2, .slice x.a3 x.nd.ts.length x.c3]) := HX7.out.apart (by have := HZ.out; omega) _ _
        clear kl kf HC7 HS7 HX7
        refine hK.out _ _ (HP.out _ HX8.out) (fun hHeld2 => ?_)
        clear hK K hHeld
        have hHeld := hHeld2
        clear hHeld2
        try simp only [Act.put, zq1, zq2, zq3, zq4, zq5, zq6]
        refine wpAnyH_done (by kernel_rfl) ?_ _
        clear hHeld
        go_wp2
        go_roundg gg
        case measure => omega
        case rel => exact ⟨k + 1, .slice g7 L7 n7, m ++ [x2], by omega, by simp, ⟨HC8.out, HS8.out, HM7.out⟩⟩
      refine AllReadyH.cons rfl (fun K hK => ?_) AllReadyH.nil
      go_simp
      refine (HCN.out _ HCc.out.b).mono ?_
      rintro e w5 ⟨x2, hx2, rfl, ho2, hb⟩
      have HX2 : Hid (x2.nd = x.nd) := hx2
      have HC5 := Lib.hid (HCc.out.below hb)
      have HS5 := Lib.hid (HSc.out.keep hb)
      have HX5 := Lib.hid (HXc.out.below hb)
      have HO5 : Hid (OwnN w5 (w.heap.size + 1 + 1 + 1) x2) := ho2.le HCc.out.s
      have HL5 : Hid (wr.heap.size < w5.heap.size) := Nat.lt_of_lt_of_le HXc.out.lt hb.size
      clear hx2 ho2 hb HCc HSc HXc
      refine hK.out _ _ (HP.out _ HX5.out) (fun hHeld2 => ?_)
      clear hK K hHeld
      have hHeld := hHeld2
      clear hHeld2
      try simp only [Act.put, zq1, zq2, zq3, zq4, zq5, zq6]
      have HCc := HC5
      have HSc := HS5
      have HXc := HX5
      have HOc := HO5
      clear HC5 HS5 HX5 HO5
      refine wpAnyH_ready (rs := [1, 4]) (by kernel_rfl) (by simp) ?_
      refine AllReadyH.cons rfl (fun K hK => ?_) ?_
      · have kl : w5.cell? ⟨w.heap.size + 1 + 1, 0, none⟩ = some (.slice q1 m.length q2) := HCc.out.o.cell 0
        go_simp
        refine hK.out _ _ (HP.out _ HXc.out) (fun hHeld2 => ?_)
        clear hK K hHeld
        have hHeld := hHeld2
        clear hHeld2
        try simp only [Act.put, zq1, zq2, zq3, zq4, zq5, zq6]
        clear kl
        refine wpAnyH_ready (rs := [4]) (by kernel_rfl) (by simp) ?_
        refine AllReadyH.cons rfl (fun K hK => ?_) AllReadyH.nil
        go_simp
        have ha : Below w5.heap.size w5 (w5.alloc (.cells #[.string x2.nd.n, .int .i64 x2.nd.z0, .int .i64 x2.nd.z1, .int .i64 x2.nd.z2, .slice x2.a2 x2.nd.ls.length x2.c2, .slice x2.a3 x2.nd.ts.length x2.c3] 32)) := al _ _
        have HC6 := Lib.hid (HCc.out.below ha)
        have HS6 := Lib.hid (HSc.out.keep ha)
        have HX6 := Lib.hid (HXc.out.below ha)
        have HO6 := Lib.hid (HOc.out.keep ha)
        have HSL : Hid (Sl (w5.alloc (.cells #[.string x2.nd.n, .int .i64 x2.nd.z0, .int .i64 x2.nd.z1, .int .i64 x2.nd.z2, .slice x2.a2 x2.nd.ls.length x2.c2, .slice x2.a3 x2.nd.ts.length x2.c3] 32)) w5.heap.size (w5.alloc (.cells #[.string x2.nd.n, .int .i64 x2.nd.z0, .int .i64 x2.nd.z1, .int .i64 x2.nd.z2, .slice x2.a2 x2.nd.ls.length x2.c2, .slice x2.a3 x2.nd.ts.length x2.c3] 32)).heap.size (.slice (some ⟨w5.heap.size, 0, none⟩) 1 1) [x2]) := sl_one w5 x2 _
        clear ha HCc HSc HXc HOc
        refine hK.out _ _ (HP.out _ HX6.out) (fun hHeld2 => ?_)
        clear hK K hHeld
        have hHeld := hHeld2
        clear hHeld2
        try simp only [Act.put, zq1, zq2, zq3, zq4, zq5, zq6]
        have HCc := HC6
        have HSc := HS6
        have HXc := HX6
        have HOc := HO6
        clear HC6 HS6 HX6 HO6
        refine wpAnyH_ready (rs := [5]) (by kernel_rfl) (by simp) ?_
        refine AllReadyH.cons rfl (fun K hK => ?_) AllReadyH.nil
        obtain ⟨i0, hi0, hz0, hz1, hz2⟩ := info_parts info_n
        obtain ⟨v7, w7, hr, ho7, hg7, -⟩ := run_app (P := Tryz.prog) (ty := 22) Tryz.underlying22 hi0 hz0 hz1 hz2 rfl HSc.out.ow HSL.out (by have h := HLB.out; rw [HML.out, List.length_singleton]; omega) (by have h := HLB.out; rw [HML.out, List.length_singleton]; omega) HCc.out.s
        obtain ⟨g7, n7, hv7⟩ := ho7.slice
        generalize (m ++ [x2]).length = L7 at hv7
        subst hv7
        refine step_app rfl (.tmp 19) (.tmp 22) 22 rfl _ _ _ rfl rfl hr ?_
        clear hr
        have hbg := own_grown (w := w) HSc.out.ow hg7 HCc.out.s
        have HC7 := Lib.hid (HCc.out.go hbg)
        have HS7 := Lib.hid (HSc.out.more HOc.out ho7 hg7)
        have HX7 : Hid (Hd.Bxn w7 wr.heap.size [.string x.nd.n, .int .i64 x.nd.z0, .int .i64 x.nd.z1, .int .i64 x.nd.z2, .slice x.a2 x.nd.ls.length x.c2, .slice x.a3 x.nd.ts.length x.c3]) := by
          obtain ⟨T, h⟩ := HXc.out
          exact ⟨T, (hg7.block _ (Hd.Bxn.lt ⟨T, h⟩) (fun e => by have := HVA.out _ e.symm; omega)).trans h⟩
        have hm7 : (m ++ [x2]).map (·.nd) = b.ns.take (k + 1) := by rw [List.map_append, HEr.out, List.map_singleton, HX2.out, HX.out, List.take_succ_eq_append_getElem hlk]
        have HM7 := Lib.hid hm7
        clear hm7
        clear hbg ho7 hg7 HCc HSc HXc HOc HSL
        refine hK.out _ _ (HP.out _ HX7.out) (fun hHeld2 => ?_)
        clear hK K hHeld
        have hHeld := hHeld2
        clear hHeld2
        try simp only [Act.put, zq1, zq2, zq3, zq4, zq5, zq6]
        refine wpAnyH_take (i := 6) (v := ?_) rfl (by kernel_rfl) (by kernel_rfl) (by kernel_rfl) (fun _ _ _ h => h) (Or.inl ⟨by rfl, ?_⟩) (by assumption) ?_
        rotate_left
        · intro z hSz
          obtain ⟨c0, c1, c2, c3, c4, c5⟩ := hSz
          go_simp
          try with_reducible rfl
        try simp only [Act.put, zq1, zq2, zq3, zq4, zq5, zq6]
        refine wpAnyH_ready (rs := [7]) (by kernel_rfl) (by simp) ?_
        refine AllReadyH.cons rfl (fun K hK => ?_) AllReadyH.nil
        have kl : w7.cell? ⟨w.heap.size + 1 + 1, 0, none⟩ = some (.slice q1 m.length q2) := HC7.out.o.cell 0
        have kf : w7.frozen? ⟨w.heap.size + 1 + 1, 0, none⟩ = false := HC7.out.o.fz 0
        go_simp
        have HC8 : Hid (Cp w (w7.setCell ⟨w.heap.size + 1 + 1, 0, none⟩ (.slice g7 L7 n7)) [.slice (some ⟨g, o, none⟩) b.ns.length cn, .slice at' b.ts.length ct, .slice ab b.bs.length cb, .int .u64 (b.fe : Nat)] [.slice none 0 0, .slice none 0 0, .slice none 0 0, .int .u64 0] [.slice g7 L7 n7, .slice none 0 0, .slice none 0 0, .int .u64 (b.fe : Nat)]) := HC7.out.setO 0 _
        have HS8 : Hid (CsN w (w7.setCell ⟨w.heap.size + 1 + 1, 0, none⟩ (.slice g7 L7 n7)) (.slice g7 L7 n7) (m ++ [x2])) := HS7.out.far (grown_setCell _ _ _ _) (by omega)
        have HX8 : Hid (Hd.Bxn (w7.setCell ⟨w.heap.size + 1 + 1, 0, none⟩ (.slice g7 L7 n7)) wr.heap.size [.string x.nd.n, .int .i64 x.nd.z0, .int .i64 x.nd.z1, .int .i64 x.nd.z2, .slice x.a2 x.nd.ls.length x.c2, .slice x.a3 x.nd.ts.length x.c3]) := HX7.out.apart (by have := HZ.out; omega) _ _
        clear kl kf HC7 HS7 HX7
        refine hK.out _ _ (HP.out _ HX8.out) (fun hHeld2 => ?_)
        clear hK K hHeld
        have hHeld := hHeld2
        clear hHeld2
        try simp only [Act.put, zq1, zq2, zq3, zq4, zq5, zq6]
        refine wpAnyH_done (by kernel_rfl) ?_ _
        clear hHeld
        go_wp2
        go_roundg gg
        case measure => omega
        case rel => exact ⟨k + 1, .slice g7 L7 n7, m ++ [x2], by omega, by simp, ⟨HC8.out, HS8.out, HM7.out⟩⟩
      refine AllReadyH.cons rfl (fun K hK => ?_) AllReadyH.nil
      go_simp
      have ha : Below w5.heap.size w5 (w5.alloc (.cells #[.string x2.nd.n, .int .i64 x2.nd.z0, .int .i64 x2.nd.z1, .int .i64 x2.nd.z2, .slice x2.a2 x2.nd.ls.length x2.c2, .slice x2.a3 x2.nd.ts.length x2.c3] 32)) := al _ _
      have HC6 := Lib.hid (HCc.out.below ha)
      have HS6 := Lib.hid (HSc.out.keep ha)
      have HX6 := Lib.hid (HXc.out.below ha)
      have HO6 := Lib.hid (HOc.out.keep ha)
      have HSL : Hid (Sl (w5.alloc (.cells #[.string x2.nd.n, .int .i64 x2.nd.z0, .int .i64 x2.nd.z1, .int .i64 x2.nd.z2, .slice x2.a2 x2.nd.ls.length x2.c2, .slice x2.a3 x2.nd.ts.length x2.c3] 32)) w5.heap.size (w5.alloc (.cells #[.string x2.nd.n, .int .i64 x2.nd.z0, .int .i64 x2.nd.z1, .int .i64 x2.nd.z2, .slice x2.a2 x2.nd.ls.length x2.c2, .slice x2.a3 x2.nd.ts.length x2.c3] 32)).heap.size (.slice (some ⟨w5.heap.size, 0, none⟩) 1 1) [x2]) := sl_one w5 x2 _
      clear ha HCc HSc HXc HOc
      refine hK.out _ _ (HP.out _ HX6.out) (fun hHeld2 => ?_)
      clear hK K hHeld
      have hHeld := hHeld2
      clear hHeld2
      try simp only [Act.put, zq1, zq2, zq3, zq4, zq5, zq6]
      have HCc := HC6
      have HSc := HS6
      have HXc := HX6
      have HOc := HO6
      clear HC6 HS6 HX6 HO6
      refine wpAnyH_ready (rs := [1]) (by kernel_rfl) (by simp) ?_
      refine AllReadyH.cons rfl (fun K hK => ?_) AllReadyH.nil
      have kl : (w5.alloc (.cells #[.string x2.nd.n, .int .i64 x2.nd.z0, .int .i64 x2.nd.z1, .int .i64 x2.nd.z2, .slice x2.a2 x2.nd.ls.length x2.c2, .slice x2.a3 x2.nd.ts.length x2.c3] 32)).cell? ⟨w.heap.size + 1 + 1, 0, none⟩ = some (.slice q1 m.length q2) := HCc.out.o.cell 0
      go_simp
      refine hK.out _ _ (HP.out _ HXc.out) (fun hHeld2 => ?_)
      clear hK K hHeld
      have hHeld := hHeld2
      clear hHeld2
      try simp only [Act.put, zq1, zq2, zq3, zq4, zq5, zq6]
      clear kl
      refine wpAnyH_ready (rs := [5]) (by kernel_rfl) (by simp) ?_
      refine AllReadyH.cons rfl (fun K hK => ?_) AllReadyH.nil
      obtain ⟨i0, hi0, hz0, hz1, hz2⟩ := info_parts info_n
      obtain ⟨v7, w7, hr, ho7, hg7, -⟩ := run_app (P := Tryz.prog) (ty := 22) Tryz.underlying22 hi0 hz0 hz1 hz2 rfl HSc.out.ow HSL.out (by have h := HLB.out; rw [HML.out, List.length_singleton]; omega) (by have h := HLB.out; rw [HML.out, List.length_singleton]; omega) HCc.out.s
      obtain ⟨g7, n7, hv7⟩ := ho7.slice
      generalize (m ++ [x2]).length = L7 at hv7
      subst hv7
      refine step_app rfl (.tmp 19) (.tmp 22) 22 rfl _ _ _ rfl rfl hr ?_
      clear hr
      have hbg := own_grown (w := w) HSc.out.ow hg7 HCc.out.s
      have HC7 := Lib.hid (HCc.out.go hbg)
      have HS7 := Lib.hid (HSc.out.more HOc.out ho7 hg7)
      have HX7 : Hid (Hd.Bxn w7 wr.heap.size [.string x.nd.n, .int .i64 x.nd.z0, .int .i64 x.nd.z1, .int .i64 x.nd.z2, .slice x.a2 x.nd.ls.length x.c2, .slice x.a3 x.nd.ts.length x.c3]) := by
        obtain ⟨T, h⟩ := HXc.out
        exact ⟨T, (hg7.block _ (Hd.Bxn.lt ⟨T, h⟩) (fun e => by have := HVA.out _ e.symm; omega)).trans h⟩
      have hm7 : (m ++ [x2]).map (·.nd) = b.ns.take (k + 1) := by rw [List.map_append, HEr.out, List.map_singleton, HX2.out, HX.out, List.take_succ_eq_append_getElem hlk]
      have HM7 := Lib.hid hm7
      clear hm7
      clear hbg ho7 hg7 HCc HSc HXc HOc HSL
      refine hK.out _ _ (HP.out _ HX7.out) (fun hHeld2 => ?_)
      clear hK K hHeld
      have hHeld := hHeld2
      clear hHeld2
      try simp only [Act.put, zq1, zq2, zq3, zq4, zq5, zq6]
      refine wpAnyH_take (i := 6) (v := ?_) rfl (by kernel_rfl) (by kernel_rfl) (by kernel_rfl) (fun _ _ _ h => h) (Or.inl ⟨by rfl, ?_⟩) (by assumption) ?_
      rotate_left
      · intro z hSz
        obtain ⟨c0, c1, c2, c3, c4, c5⟩ := hSz
        go_simp
        try with_reducible rfl
      try simp only [Act.put, zq1, zq2, zq3, zq4, zq5, zq6]
      refine wpAnyH_ready (rs := [7]) (by kernel_rfl) (by simp) ?_
      refine AllReadyH.cons rfl (fun K hK => ?_) AllReadyH.nil
      have kl : w7.cell? ⟨w.heap.size + 1 + 1, 0, none⟩ = some (.slice q1 m.length q2) := HC7.out.o.cell 0
      have kf : w7.frozen? ⟨w.heap.size + 1 + 1, 0, none⟩ = false := HC7.out.o.fz 0
      go_simp
      have HC8 : Hid (Cp w (w7.setCell ⟨w.heap.size + 1 + 1, 0, none⟩ (.slice g7 L7 n7)) [.slice (some ⟨g, o, none⟩) b.ns.length cn, .slice at' b.ts.length ct, .slice ab b.bs.length cb, .int .u64 (b.fe : Nat)] [.slice none 0 0, .slice none 0 0, .slice none 0 0, .int .u64 0] [.slice g7 L7 n7, .slice none 0 0, .slice none 0 0, .int .u64 (b.fe : Nat)]) := HC7.out.setO 0 _
      have HS8 : Hid (CsN w (w7.setCell ⟨w.heap.size + 1 + 1, 0, none⟩ (.slice g7 L7 n7)) (.slice g7 L7 n7) (m ++ [x2])) := HS7.out.far (grown_setCell _ _ _ _) (by omega)
      have HX8 : Hid (Hd.Bxn (w7.setCell ⟨w.heap.size + 1 + 1, 0, none⟩ (.slice g7 L7 n7)) wr.heap.size [.string x.nd.n, .int .i64 x.nd.z0, .int .i64 x.nd.z1, .int .i64 x.nd.z2, .slice x.a2 x.nd.ls.length x.c2, .slice x.a3 x.nd.ts.length x.c3]) := HX7.out.apart (by have := HZ.out; omega) _ _
      clear kl kf HC7 HS7 HX7
      refine hK.out _ _ (HP.out _ HX8.out) (fun hHeld2 => ?_)
      clear hK K hHeld
      have hHeld := hHeld2
      clear hHeld2
      try simp only [Act.put, zq1, zq2, zq3, zq4, zq5, zq6]
      refine wpAnyH_done (by kernel_rfl) ?_ _
      clear hHeld
      go_wp2
      go_roundg gg
      case measure => omega
      case rel => exact ⟨k + 1, .slice g7 L7 n7, m ++ [x2], by omega, by simp, ⟨HC8.out, HS8.out, HM7.out⟩⟩
end Bo
end Go.Proofs.YtaipbaegbpebkaaGreat

/- book.Used: WHATEVER THE BOOK. -/
namespace Go.Proofs.YtaipbaegbpebkaaGreat
open Go.RowKit Go.Lib
namespace Bo
open List renaming setIfInBounds_toArray → zq1, set_cons_zero → zq2, set_cons_succ → zq3, getElem_toArray → zq4, getElem_cons_succ → zq5, getElem_cons_zero → zq6
open Rw
set_option linter.unusedVariables false
/-- What is used of a node, asked of whatever book. -/
def usF (b : Bk) (v : ByteArray) : Nat := if chkB b = true then (if hsN b.ns v = true then 0 else 6) else 10
def usV (b : Bk) (v : ByteArray) (x : Int) : Int := if usF b v = 0 then x else 0
set_option maxRecDepth 100000 in
set_option maxHeartbeats 4000000 in
theorem usedq_no (b : Bk) (vn vt vb : Value) (v : ByteArray) (w : World) (hB : Books w w.heap.size vn vt vb b) (hc : chkB b = false) : Calls Tryz.prog 17 #[.agg #[vn, vt, vb, .int .u64 (b.fe : Nat)], .string v] w fun e w' => e = .returned (.tuple #[.agg #[.int .i64 0, .int .i64 0, .int .i64 0], .int .i64 10]) ∧ Below w.heap.size w w' := by
  obtain ⟨W0, hW0⟩ : ∃ W0, W0 = (w.alloc (.cells #[vn, vt, vb, .int .u64 (b.fe : Nat)] 27)).alloc (.cells #[.int .i64 0, .int .i64 0, .int .i64 0] 29) := ⟨_, rfl⟩
  have hf0 : Fr2 w W0 [vn, vt, vb, .int .u64 (b.fe : Nat)] [.int .i64 0, .int .i64 0, .int .i64 0] := by rw [hW0]; exact Fr2.made w _ _ _ _
  have HCK : Hid (Calls Tryz.prog 23 #[.agg #[vn, vt, vb, .int .u64 (b.fe : Nat)]] W0 fun e w' => e = .returned (.int .i64 10) ∧ Below W0.heap.size W0 w') := (check_any b vn vt vb W0 (hB.on hf0.b)).mono fun e w' ⟨he, hb⟩ => ⟨by rw [hc] at he; exact he, hb⟩
  obtain ⟨an, cn, hvn⟩ := hB.hn.slice
  obtain ⟨at', ct, hvt⟩ := hB.ht.slice
  obtain ⟨ab, cb, hvb⟩ := hB.hb.slice
  subst hvn hvt hvb
  have HW := Lib.hid hW0
  have HF0 : Hid (Fr2 w W0 [.slice an b.ns.length cn, .slice at' b.ts.length ct, .slice ab b.bs.length cb, .int .u64 (b.fe : Nat)] [.int .i64 0, .int .i64 0, .int .i64 0]) := hf0
  clear hW0 hf0 hB hc
  go_enter Tryz.func17, Tryz.ntmps17
  go_upto_region 1 with fail
  rw [← HW.out]
  have b0 : W0.cell? ⟨w.heap.size, 0, none⟩ = some (.slice an b.ns.length cn) := HF0.out.p.cell 0
  have b1 : W0.cell? ⟨w.heap.size, 1, none⟩ = some (.slice at' b.ts.length ct) := HF0.out.p.cell 1
  have b2 : W0.cell? ⟨w.heap.size, 2, none⟩ = some (.slice ab b.bs.length cb) := HF0.out.p.cell 2
  have b3 : W0.cell? ⟨w.heap.size, 3, none⟩ = some (.int .u64 (b.fe : Nat)) := HF0.out.p.cell 3
  go_wp2_with fail
  refine HCK.out.mono ?_
  rintro e w1 ⟨rfl, hb⟩
  have HF1 : Hid (Fr2 w w1 [.slice an b.ns.length cn, .slice at' b.ts.length ct, .slice ab b.bs.length cb, .int .u64 (b.fe : Nat)] [.int .i64 0, .int .i64 0, .int .i64 0]) := HF0.out.below hb
  clear hb b0 b1 b2 b3
  go_upto_region 3 with fail
  refine wp_region_list ?_
  refine wpList_plain rfl fun K hK => ?_
  go_simp
  refine hK _ _ ?_
  clear hK K
  refine wpList_plain rfl fun K hK => ?_
  go_simp
  refine hK _ _ ?_
  clear hK K
  have hthR := HF1.out.r.there 3 rfl
  refine store_l rfl 29 (.tmp 4) (.tmp 13) rfl (w.heap.size + 1) [.int .i64 0, .int .i64 0, .int .i64 0] rfl rfl hthR rfl rfl ?_
  have HR1 : Hid (Fr2 w (w1.setCells (w.heap.size + 1) 0 [.int .i64 0, .int .i64 0, .int .i64 0]) [.slice an b.ns.length cn, .slice at' b.ts.length ct, .slice ab b.bs.length cb, .int .u64 (b.fe : Nat)] [.int .i64 0, .int .i64 0, .int .i64 0]) := HF1.out.setR [.int .i64 0, .int .i64 0, .int .i64 0] rfl
  clear hthR
  generalize w1.setCells (w.heap.size + 1) 0 [.int .i64 0, .int .i64 0, .int .i64 0] = z1 at *
  refine wpList_plain rfl fun K hK => ?_
  go_simp
  refine hK _ _ ?_
  clear hK K
  refine wpList_nil ?_
  go_wp2
  exact Hd.bodyPost_bx2 rfl (w.heap.size + 1) [.int .i64 0, .int .i64 0, .int .i64 0] _ rfl rfl HR1.out.r Tryz.underlying29 rfl rfl (⟨rfl, HR1.out.b⟩)
set_option maxRecDepth 100000 in
set_option maxHeartbeats 4000000 in
theorem usedq_none (b : Bk) (vn vt vb : Value) (v : ByteArray) (w : World) (hB : Books w w.heap.size vn vt vb b) (hc : chkB b = true) (hh : hsN b.ns v = false) : Calls Tryz.prog 17 #[.agg #[vn, vt, vb, .int .u64 (b.fe : Nat)], .string v] w fun e w' => e = .returned (.tuple #[.agg #[.int .i64 0, .int .i64 0, .int .i64 0], .int .i64 6]) ∧ Below w.heap.size w w' := by
  obtain ⟨W0, hW0⟩ : ∃ W0, W0 = (w.alloc (.cells #[vn, vt, vb, .int .u64 (b.fe : Nat)] 27)).alloc (.cells #[.int .i64 0, .int .i64 0, .int .i64 0] 29) := ⟨_, rfl⟩
  have hf0 : Fr2 w W0 [vn, vt, vb, .int .u64 (b.fe : Nat)] [.int .i64 0, .int .i64 0, .int .i64 0] := by rw [hW0]; exact Fr2.made w _ _ _ _
  have HCK : Hid (Calls Tryz.prog 23 #[.agg #[vn, vt, vb, .int .u64 (b.fe : Nat)]] W0 fun e w' => e = .returned (.int .i64 0) ∧ Below W0.heap.size W0 w') := (check_any b vn vt vb W0 (hB.on hf0.b)).mono fun e w' ⟨he, hb⟩ => ⟨by rw [hc] at he; exact he, hb⟩
  have HFI : Hid (∀ z, Hid (Below w.heap.size w z) → Calls Tryz.prog 42 #[vn, .func (.func 43) #[] #[], .string v] z fun e w' => ∃ i : Nat, e = .returned (.tuple #[.int .i64 (i : Nat), .bool (hsN b.ns v)]) ∧ Below z.heap.size z w') := fun z hz => by
    obtain ⟨m, hm, hsm, -⟩ := hB.hn
    have hkm : m.map (·.nd.n) = b.ns.map (·.n) := by rw [hm, List.map_map]; rfl
    refine (find_n vn m v z (hsm.on hz.out) (by rw [hkm]; exact (chk_lists hc).rn)).mono ?_
    rintro e w' ⟨he, hb⟩
    unfold FoundN at he
    rw [hkm] at he
    exact ⟨_, he, hb⟩
  rw [hh] at HFI
  obtain ⟨an, cn, hvn⟩ := hB.hn.slice
  obtain ⟨at', ct, hvt⟩ := hB.ht.slice
  obtain ⟨ab, cb, hvb⟩ := hB.hb.slice
  subst hvn hvt hvb
  have HW := Lib.hid hW0
  have HF0 : Hid (Fr2 w W0 [.slice an b.ns.length cn, .slice at' b.ts.length ct, .slice ab b.bs.length cb, .int .u64 (b.fe : Nat)] [.int .i64 0, .int .i64 0, .int .i64 0]) := hf0
  clear hW0 hf0 hB hc
  clear hh
  go_enter Tryz.func17, Tryz.ntmps17
  go_upto_region 1 with fail
  rw [← HW.out]
  have b0 : W0.cell? ⟨w.heap.size, 0, none⟩ = some (.slice an b.ns.length cn) := HF0.out.p.cell 0
  have b1 : W0.cell? ⟨w.heap.size, 1, none⟩ = some (.slice at' b.ts.length ct) := HF0.out.p.cell 1
  have b2 : W0.cell? ⟨w.heap.size, 2, none⟩ = some (.slice ab b.bs.length cb) := HF0.out.p.cell 2
  have b3 : W0.cell? ⟨w.heap.size, 3, none⟩ = some (.int .u64 (b.fe : Nat)) := HF0.out.p.cell 3
  go_wp2_with fail
  refine HCK.out.mono ?_
  rintro e w1 ⟨rfl, hb⟩
  have HF1 : Hid (Fr2 w w1 [.slice an b.ns.length cn, .slice at' b.ts.length ct, .slice ab b.bs.length cb, .int .u64 (b.fe : Nat)] [.int .i64 0, .int .i64 0, .int .i64 0]) := HF0.out.below hb
  clear hb b0 b1 b2 b3
  have d0 : w1.cell? ⟨w.heap.size, 0, none⟩ = some (.slice an b.ns.length cn) := HF1.out.p.cell 0
  go_wp2_with fail
  refine (HFI.out _ HF1.out.b).mono ?_
  rintro e w2 ⟨i, rfl, hb⟩
  have HF2 : Hid (Fr2 w w2 [.slice an b.ns.length cn, .slice at' b.ts.length ct, .slice ab b.bs.length cb, .int .u64 (b.fe : Nat)] [.int .i64 0, .int .i64 0, .int .i64 0]) := HF1.out.below hb
  clear hb d0 HF1
  go_upto_region 6 with fail
  refine wp_region_list ?_
  refine wpList_plain rfl fun K hK => ?_
  go_simp
  refine hK _ _ ?_
  clear hK K
  have hthR := HF2.out.r.there 3 rfl
  refine store_l rfl 29 (.tmp 4) (.tmp 24) rfl (w.heap.size + 1) [.int .i64 0, .int .i64 0, .int .i64 0] rfl rfl hthR rfl rfl ?_
  have HR1 : Hid (Fr2 w (w2.setCells (w.heap.size + 1) 0 [.int .i64 0, .int .i64 0, .int .i64 0]) [.slice an b.ns.length cn, .slice at' b.ts.length ct, .slice ab b.bs.length cb, .int .u64 (b.fe : Nat)] [.int .i64 0, .int .i64 0, .int .i64 0]) := HF2.out.setR [.int .i64 0, .int .i64 0, .int .i64 0] rfl
  clear hthR
  generalize w2.setCells (w.heap.size + 1) 0 [.int .i64 0, .int .i64 0, .int .i64 0] = z1 at *
  refine wpList_plain rfl fun K hK => ?_
  go_simp
  refine hK _ _ ?_
  clear hK K
  refine wpList_nil ?_
  go_wp2
  exact Hd.bodyPost_bx2 rfl (w.heap.size + 1) [.int .i64 0, .int .i64 0, .int .i64 0] _ rfl rfl HR1.out.r Tryz.underlying29 rfl rfl (⟨rfl, HR1.out.b⟩)
set_option maxRecDepth 100000 in
set_option maxHeartbeats 4000000 in
theorem usedq_ok (b : Bk) (vn vt vb : Value) (v : ByteArray) (w : World) (hB : Books w w.heap.size vn vt vb b) (hc : chkB b = true) (hh : hsN b.ns v = true) : Calls Tryz.prog 17 #[.agg #[vn, vt, vb, .int .u64 (b.fe : Nat)], .string v] w fun e w' => e = .returned (.tuple #[.agg #[.int .i64 (us0 b v), .int .i64 (us1 b v), .int .i64 (us2 b v)], .int .i64 0]) ∧ Below w.heap.size w w' := by
  obtain ⟨W0, hW0⟩ : ∃ W0, W0 = (w.alloc (.cells #[vn, vt, vb, .int .u64 (b.fe : Nat)] 27)).alloc (.cells #[.int .i64 0, .int .i64 0, .int .i64 0] 29) := ⟨_, rfl⟩
  have hf0 : Fr2 w W0 [vn, vt, vb, .int .u64 (b.fe : Nat)] [.int .i64 0, .int .i64 0, .int .i64 0] := by rw [hW0]; exact Fr2.made w _ _ _ _
  have HCK : Hid (Calls Tryz.prog 23 #[.agg #[vn, vt, vb, .int .u64 (b.fe : Nat)]] W0 fun e w' => e = .returned (.int .i64 0) ∧ Below W0.heap.size W0 w') := (check_any b vn vt vb W0 (hB.on hf0.b)).mono fun e w' ⟨he, hb⟩ => ⟨by rw [hc] at he; exact he, hb⟩
  have HFI : Hid (∀ z, Hid (Below w.heap.size w z) → Calls Tryz.prog 42 #[vn, .func (.func 43) #[] #[], .string v] z fun e w' => ∃ i : Nat, e = .returned (.tuple #[.int .i64 (i : Nat), .bool (hsN b.ns v)]) ∧ Below z.heap.size z w') := fun z hz => by
    obtain ⟨m, hm, hsm, -⟩ := hB.hn
    have hkm : m.map (·.nd.n) = b.ns.map (·.n) := by rw [hm, List.map_map]; rfl
    refine (find_n vn m v z (hsm.on hz.out) (by rw [hkm]; exact (chk_lists hc).rn)).mono ?_
    rintro e w' ⟨he, hb⟩
    unfold FoundN at he
    rw [hkm] at he
    exact ⟨_, he, hb⟩
  rw [hh] at HFI
  have HUS : Hid (∀ z, Hid (Below w.heap.size w z) → Calls Tryz.prog 44 #[.agg #[vn, vt, vb, .int .u64 (b.fe : Nat)], .string v] z fun e w' => e = .returned (.agg #[.int .i64 (us0 b v), .int .i64 (us1 b v), .int .i64 (us2 b v)]) ∧ Below z.heap.size z w') := fun z hz => used_any b vn vt vb v z (hB.on hz.out) (chk_lists hc)
  obtain ⟨an, cn, hvn⟩ := hB.hn.slice
  obtain ⟨at', ct, hvt⟩ := hB.ht.slice
  obtain ⟨ab, cb, hvb⟩ := hB.hb.slice
  subst hvn hvt hvb
  have HW := Lib.hid hW0
  have HF0 : Hid (Fr2 w W0 [.slice an b.ns.length cn, .slice at' b.ts.length ct, .slice ab b.bs.length cb, .int .u64 (b.fe : Nat)] [.int .i64 0, .int .i64 0, .int .i64 0]) := hf0
  clear hW0 hf0 hB hc
  clear hh
  generalize us0 b v = s0 at *
  generalize us1 b v = s1 at *
  generalize us2 b v = s2 at *
  go_enter Tryz.func17, Tryz.ntmps17
  go_upto_region 1 with fail
  rw [← HW.out]
  have b0 : W0.cell? ⟨w.heap.size, 0, none⟩ = some (.slice an b.ns.length cn) := HF0.out.p.cell 0
  have b1 : W0.cell? ⟨w.heap.size, 1, none⟩ = some (.slice at' b.ts.length ct) := HF0.out.p.cell 1
  have b2 : W0.cell? ⟨w.heap.size, 2, none⟩ = some (.slice ab b.bs.length cb) := HF0.out.p.cell 2
  have b3 : W0.cell? ⟨w.heap.size, 3, none⟩ = some (.int .u64 (b.fe : Nat)) := HF0.out.p.cell 3
  go_wp2_with fail
  refine HCK.out.mono ?_
  rintro e w1 ⟨rfl, hb⟩
  have HF1 : Hid (Fr2 w w1 [.slice an b.ns.length cn, .slice at' b.ts.length ct, .slice ab b.bs.length cb, .int .u64 (b.fe : Nat)] [.int .i64 0, .int .i64 0, .int .i64 0]) := HF0.out.below hb
  clear hb b0 b1 b2 b3
  have d0 : w1.cell? ⟨w.heap.size, 0, none⟩ = some (.slice an b.ns.length cn) := HF1.out.p.cell 0
  go_wp2_with fail
  refine (HFI.out _ HF1.out.b).mono ?_
  rintro e w2 ⟨i, rfl, hb⟩
  have HF2 : Hid (Fr2 w w2 [.slice an b.ns.length cn, .slice at' b.ts.length ct, .slice ab b.bs.length cb, .int .u64 (b.fe : Nat)] [.int .i64 0, .int .i64 0, .int .i64 0]) := HF1.out.below hb
  clear hb d0 HF1
  go_upto_region 7 with fail
  refine wp_region_list ?_
  refine wpList_load_mid rfl 27 (.tmp 2) rfl (w.heap.size) (0) rfl [.slice an b.ns.length cn, .slice at' b.ts.length ct, .slice ab b.bs.length cb, .int .u64 (b.fe : Nat)] _ (HF2.out.p.range 0) Tryz.underlying27 rfl rfl ?_
  refine wpList_plain rfl fun K hK => ?_
  go_simp
  refine hK _ _ ?_
  clear hK K
  refine wpList_plain rfl fun K hK => ?_
  go_wp2_with fail
  refine (HUS.out w2 HF2.out.b).mono ?_
  rintro e w3 ⟨rfl, hb⟩
  have HF3 : Hid (Fr2 w w3 [.slice an b.ns.length cn, .slice at' b.ts.length ct, .slice ab b.bs.length cb, .int .u64 (b.fe : Nat)] [.int .i64 0, .int .i64 0, .int .i64 0]) := HF2.out.below hb
  clear hb HF2
  refine hK _ _ ?_
  clear hK K
  have hthR := HF3.out.r.there 3 rfl
  refine store_l rfl 29 (.tmp 4) (.tmp 27) rfl (w.heap.size + 1) [.int .i64 s0, .int .i64 s1, .int .i64 s2] rfl rfl hthR rfl rfl ?_
  have HR1 : Hid (Fr2 w (w3.setCells (w.heap.size + 1) 0 [.int .i64 s0, .int .i64 s1, .int .i64 s2]) [.slice an b.ns.length cn, .slice at' b.ts.length ct, .slice ab b.bs.length cb, .int .u64 (b.fe : Nat)] [.int .i64 s0, .int .i64 s1, .int .i64 s2]) := HF3.out.setR [.int .i64 s0, .int .i64 s1, .int .i64 s2] rfl
  clear hthR
  generalize w3.setCells (w.heap.size + 1) 0 [.int .i64 s0, .int .i64 s1, .int .i64 s2] = z1 at *
  refine wpList_plain rfl fun K hK => ?_
  go_simp
  refine hK _ _ ?_
  clear hK K
  refine wpList_nil ?_
  go_wp2
  exact Hd.bodyPost_bx2 rfl (w.heap.size + 1) [.int .i64 s0, .int .i64 s1, .int .i64 s2] _ rfl rfl HR1.out.r Tryz.underlying29 rfl rfl (⟨rfl, HR1.out.b⟩)
theorem usedq_any (b : Bk) (vn vt vb : Value) (v : ByteArray) (w : World) (hB : Books w w.heap.size vn vt vb b) : Calls Tryz.prog 17 #[.agg #[vn, vt, vb, .int .u64 (b.fe : Nat)], .string v] w fun e w' => e = .returned (.tuple #[.agg #[.int .i64 (usV b v (us0 b v)), .int .i64 (usV b v (us1 b v)), .int .i64 (usV b v (us2 b v))], .int .i64 (usF b v : Nat)]) ∧ Below w.heap.size w w' := by
  unfold usV usF
  cases hc : chkB b
  · exact usedq_no b vn vt vb v w hB hc
  · cases hh : hsN b.ns v
    · exact usedq_none b vn vt vb v w hB hc hh
    · exact usedq_ok b vn vt vb v w hB hc hh
end Bo
end Go.Proofs.YtaipbaegbpebkaaGreat

/- WHO STANDS WHERE, by the document: gafferref08.Node, Task, On. -/
namespace Go.Proofs.YtaipbaegbpebkaaGreat
open Go.RowKit Go.Lib
namespace Bo
open List renaming setIfInBounds_toArray → zq1, set_cons_zero → zq2, set_cons_succ → zq3, getElem_toArray → zq4, getElem_cons_succ → zq5, getElem_cons_zero → zq6
open Rw
set_option linter.unusedVariables false
/-- The first place of a key, or how many there are. -/
def fiK : List ByteArray → ByteArray → Nat
  | [], _ => 0
  | k :: r, x => if k = x then 0 else fiK r x + 1
theorem fi_le : ∀ (ks : List ByteArray) (x : ByteArray), fiK ks x ≤ ks.length
  | [], _ => Nat.le_refl _
  | k :: r, x => by
    unfold fiK
    have := fi_le r x
    split <;> simp only [List.length_cons] <;> omega
theorem fi_hit : ∀ (ks : List ByteArray) (x : ByteArray) (k : Nat) (h : k < ks.length), k ≤ fiK ks x → ks[k] = x → fiK ks x = k
  | [], _, _, h, _, _ => by simp at h
  | a :: r, x, 0, _, _, he => by
    unfold fiK
    exact if_pos he
  | a :: r, x, k + 1, h, hk, he => by
    unfold fiK at hk ⊢
    split at hk
    · omega
    · rename_i hn
      rw [if_neg hn, fi_hit r x k (by simpa using h) (by omega) (by simpa using he)]
theorem fi_miss : ∀ (ks : List ByteArray) (x : ByteArray) (k : Nat) (h : k < ks.length), k ≤ fiK ks x → ¬ ks[k] = x → k + 1 ≤ fiK ks x
  | [], _, _, h, _, _ => by simp at h
  | a :: r, x, 0, _, _, he => by
    unfold fiK
    rw [if_neg (show ¬ a = x from he)]
    omega
  | a :: r, x, k + 1, h, hk, he => by
    unfold fiK at hk ⊢
    split at hk
    · omega
    · rename_i hn
      have := fi_miss r x k (by simpa using h) (by omega) (by simpa using he)
      rw [if_neg hn]
      omega
theorem fi_has : ∀ (ks : List ByteArray) (x : ByteArray), hasK ks x = true ↔ fiK ks x < ks.length
  | [], x => by simp [hasK, fiK]
  | a :: r, x => by
    have ih := fi_has r x
    unfold hasK at ih ⊢
    unfold fiK
    by_cases h : a = x
    · rw [if_pos h]; simp [h]
    · rw [if_neg h]
      simp only [List.any_cons, List.length_cons, decide_eq_false h, Bool.false_or]
      rw [ih]
      omega
theorem fi_get {ks : List ByteArray} {x : ByteArray} : ∀ (h : fiK ks x < ks.length), ks[fiK ks x] = x := by
  induction ks with
  | nil => intro h; simp at h
  | cons a r ih =>
    intro h
    by_cases he : a = x
    · have h0 : fiK (a :: r) x = 0 := by unfold fiK; exact if_pos he
      simp only [h0, List.getElem_cons_zero]
      exact he
    · have h1 : fiK (a :: r) x = fiK r x + 1 := by conv => lhs; unfold fiK
                                                   exact if_neg he
      simp only [h1, List.getElem_cons_succ]
      exact ih (by rw [h1, List.length_cons] at h; omega)
def ixK (ks : List ByteArray) (x : ByteArray) : Int := if hasK ks x = true then (fiK ks x : Nat) else -1
theorem ix_hit {ks : List ByteArray} {x : ByteArray} {k : Nat} (h : k < ks.length) (hk : k ≤ fiK ks x) (he : ks[k] = x) : ixK ks x = (k : Nat) := by
  have h1 := fi_hit ks x k h hk he
  unfold ixK
  rw [if_pos ((fi_has ks x).2 (by omega)), h1]
theorem ix_no {ks : List ByteArray} {x : ByteArray} (hk : ks.length ≤ fiK ks x) : ixK ks x = -1 := by
  unfold ixK
  rw [if_neg (by rw [fi_has]; omega)]
theorem ix_neg (ks : List ByteArray) (x : ByteArray) : decide (ixK ks x < 0) = !hasK ks x := by
  unfold ixK
  cases hasK ks x
  · rfl
  · simp
/-- The node that a task is on, empty: none. -/
def onF (bs : List Rg.Pr) (t : ByteArray) : ByteArray := match bs[fiK (bs.map (·.k)) t]? with | some o => o.v | none => ⟨#[]⟩
theorem on_hit {bs : List Rg.Pr} {t : ByteArray} {k : Nat} (h : k < bs.length) (hk : k ≤ fiK (bs.map (·.k)) t) (he : bs[k].k = t) : onF bs t = bs[k].v := by
  have h1 := fi_hit (bs.map (·.k)) t k (by simpa using h) hk (by simpa using he)
  unfold onF
  rw [h1, List.getElem?_eq_getElem h]
theorem on_no {bs : List Rg.Pr} {t : ByteArray} (hk : bs.length ≤ fiK (bs.map (·.k)) t) : onF bs t = ⟨#[]⟩ := by
  unfold onF
  rw [List.getElem?_eq_none hk]
set_option maxRecDepth 100000 in
set_option maxHeartbeats 4000000 in
theorem Node_ix (b : Bk) (vn vt vb : Value) (v : ByteArray) (w : World) (hB : Books w w.heap.size vn vt vb b) :
    Calls Tryz.prog 45 #[.agg #[vn, vt, vb, .int .u64 (b.fe : Nat)], .string v] w fun e w' => e = .returned (.int .i64 (ixK (b.ns.map (·.n)) v)) ∧ Below w.heap.size w w' := by
  have hln : b.ns.length ≤ 4398046511104 := by obtain ⟨m, hm, -, -, hl⟩ := hB.hn; omega
  obtain ⟨an, cn, rfl, hN⟩ := hB.hn.row
  obtain ⟨at', ct, rfl, hT⟩ := hB.ht.row
  obtain ⟨ab, cb, rfl, hBd⟩ := hB.hb.row
  obtain ⟨W0, hW0⟩ : ∃ W0, W0 = w.alloc (.cells #[.slice an b.ns.length cn, .slice at' b.ts.length ct, .slice ab b.bs.length cb, .int .u64 (b.fe : Nat)] 27) := ⟨_, rfl⟩
  have HB0 : Hid (Below w.heap.size w W0) := by rw [hW0]; exact al w _
  have HX0 : Hid (Hd.Bxn W0 w.heap.size [.slice an b.ns.length cn, .slice at' b.ts.length ct, .slice ab b.bs.length cb, .int .u64 (b.fe : Nat)]) := by rw [hW0]; exact Hd.Bxn.made w _ _
  have HW := Lib.hid hW0
  have HR := Lib.hid hN
  obtain ⟨ks, hks⟩ : ∃ ks, ks = b.ns.map (·.n) := ⟨_, rfl⟩
  have hkl : ks.length = b.ns.length := by rw [hks, List.length_map]
  have HKX : Hid (∀ k (h : k < b.ns.length) (h2 : k < ks.length), ks[k] = b.ns[k].n) := fun k h h2 => by subst hks; simp
  have HKL := Lib.hid hkl
  obtain ⟨rs, hrs⟩ : ∃ rs, rs = ixK ks v := ⟨_, rfl⟩
  rw [← hks, ← hrs]
  have HNO : Hid (b.ns.length ≤ fiK ks v → rs = -1) := fun h => by rw [hrs]; exact ix_no (by rw [hkl]; exact h)
  have HYES : Hid (∀ k (h : k < b.ns.length), k ≤ fiK ks v → b.ns[k].n = v → rs = (k : Nat)) := fun k h h1 h2 => by rw [hrs]; exact ix_hit (by omega) h1 ((HKX.out k h (by omega)).trans h2)
  clear hks hrs
  clear hW0 hN hT hBd hB hkl
  go_enter Tryz.func45, Tryz.ntmps45
  go_upto_region 1 with fail
  rw [← HW.out]
  clear HW
  have k1 : W0.cell? ⟨w.heap.size, 0, none⟩ = some (.slice an b.ns.length cn) := HX0.out.cell 0
  go_wp2
  clear k1 HX0
  go_loopg [10] b.ns.length (fun gg i wx => ∃ k : Nat, k + gg = b.ns.length ∧ i = .int .i64 k ∧ Aside (k ≤ fiK ks v) ∧ Aside (Below w.heap.size w wx))
  case atStart => exact ⟨0, by omega, rfl, Nat.zero_le _, HB0.out⟩
  case round =>
    obtain ⟨k, hkg, rfl, HF, HA⟩ := hrel
    have HBr : Hid (Below w.heap.size w wr) := HA.out
    have HFr : Hid (k ≤ fiK ks v) := HF.out
    clear HA HF HB0
    cases gk with
    | zero =>
      obtain rfl : k = b.ns.length := by omega
      have HE := Lib.hid (HNO.out HFr.out)
      clear hkg HNO HYES
      go_wp2
      go_ret
      exact ⟨by rw [HE.out]; rfl, HBr.out⟩
    | succ gg =>
      have hlk : k < b.ns.length := by omega
      have t2 : (k : Int) < (b.ns.length : Int) := by omega
      have t3 : IntKind.i64.wrap ((k : Int) + 1) = (k : Int) + 1 := by rw [IntKind.wrap_i64]; omega
      have t4 : (0 : Int) ≤ (k : Int) := by omega
      obtain ⟨g, o, rfl, hgl, hrr⟩ := HR.out (by omega)
      obtain ⟨x, hx, hax, -, -⟩ := hrr k hlk
      have HXE : Hid (x.nd = b.ns[k]) := hx
      clear hx
      have hrow : wr.rangeAt g (o + k * 6) [.string x.nd.n, .int .i64 x.nd.z0, .int .i64 x.nd.z1, .int .i64 x.nd.z2, .slice x.a2 x.nd.ls.length x.c2, .slice x.a3 x.nd.ts.length x.c3] := fun j u hj => (hax.keep HBr.out hgl) j u hj
      clear hrr hax
      go_upto_region 3 with fail
      refine wp_region_list ?_
      refine wpList_plain rfl fun K hK => ?_
      go_simp
      refine hK _ _ ?_
      clear hK K
      refine wpList_plain rfl fun K hK => ?_
      go_simp
      refine hK _ _ ?_
      clear hK K
      refine wpList_load_mid rfl 32 (.tmp 13) rfl (g) (o + k * 6) rfl [.string x.nd.n, .int .i64 x.nd.z0, .int .i64 x.nd.z1, .int .i64 x.nd.z2, .slice x.a2 x.nd.ls.length x.c2, .slice x.a3 x.nd.ts.length x.c3] _ (hrow) Tryz.underlying32 rfl rfl ?_
      refine wpList_plain rfl fun K hK => ?_
      go_simp
      refine hK _ _ ?_
      clear hK K
      refine wpList_plain rfl fun K hK => ?_
      go_simp
      refine hK _ _ ?_
      clear hK K
      obtain ⟨th1, hbz, hx1⟩ := one_made wr [.string ⟨#[]⟩, .int .i64 0, .int .i64 0, .int .i64 0, .slice none 0 0, .slice none 0 0] [.string x.nd.n, .int .i64 x.nd.z0, .int .i64 x.nd.z1, .int .i64 x.nd.z2, .slice x.a2 x.nd.ls.length x.c2, .slice x.a3 x.nd.ts.length x.c3] 32 rfl
      refine store_l rfl 32 (.tmp 6) (.tmp 14) rfl (wr.heap.size) [.string x.nd.n, .int .i64 x.nd.z0, .int .i64 x.nd.z1, .int .i64 x.nd.z2, .slice x.a2 x.nd.ls.length x.c2, .slice x.a3 x.nd.ts.length x.c3] rfl rfl th1 rfl rfl ?_
      clear th1 hrow
      generalize (wr.alloc (.cells #[.string ⟨#[]⟩, .int .i64 0, .int .i64 0, .int .i64 0, .slice none 0 0, .slice none 0 0] 32)).setCells wr.heap.size 0 [.string x.nd.n, .int .i64 x.nd.z0, .int .i64 x.nd.z1, .int .i64 x.nd.z2, .slice x.a2 x.nd.ls.length x.c2, .slice x.a3 x.nd.ts.length x.c3] = y0 at *
      have HBy : Hid (Below w.heap.size w y0) := HBr.out.trans (hbz.mono HBr.out.size)
      have n0 : y0.cell? ⟨wr.heap.size, 0, none⟩ = some (.string x.nd.n) := hx1.cell 0
      clear hbz hx1 HBr
      refine wpList_nil ?_
      have hke : x.nd.n = b.ns[k].n := by rw [HXE.out]
      by_cases hv : x.nd.n = v
      · have HV : Hid (b.ns[k].n = v) := hke.symm.trans hv
        have g0 : (x.nd.n.toList == v.toList) = true := by rw [hv]; simp
        have HE := Lib.hid (HYES.out k hlk HFr.out HV.out)
        clear hv hke HYES HNO HFr
        go_wp2
        go_ret
        exact ⟨by rw [HE.out]; rfl, HBy.out⟩
      · have HV : Hid (¬ b.ns[k].n = v) := fun e => hv (hke.trans e)
        obtain ⟨g0, g1⟩ := Hd.ba_no hv
        clear hv hke
        go_wp2
        go_roundg gg
        case measure => omega
        case rel => exact ⟨k + 1, by omega, by simp, fi_miss ks v k (by have := HKL.out; omega) HFr.out (by rw [HKX.out k hlk (by have := HKL.out; omega)]; exact HV.out), HBy.out⟩
set_option maxRecDepth 100000 in
set_option maxHeartbeats 4000000 in
theorem Task_ix (b : Bk) (vn vt vb : Value) (v : ByteArray) (w : World) (hB : Books w w.heap.size vn vt vb b) :
    Calls Tryz.prog 34 #[.agg #[vn, vt, vb, .int .u64 (b.fe : Nat)], .string v] w fun e w' => e = .returned (.int .i64 (ixK (b.ts.map (·.n)) v)) ∧ Below w.heap.size w w' := by
  have hln : b.ts.length ≤ 4398046511104 := by obtain ⟨m, hm, -, -, hl⟩ := hB.ht; omega
  obtain ⟨an, cn, rfl, hN⟩ := hB.hn.row
  obtain ⟨at', ct, rfl, hT⟩ := hB.ht.row
  obtain ⟨ab, cb, rfl, hBd⟩ := hB.hb.row
  obtain ⟨W0, hW0⟩ : ∃ W0, W0 = w.alloc (.cells #[.slice an b.ns.length cn, .slice at' b.ts.length ct, .slice ab b.bs.length cb, .int .u64 (b.fe : Nat)] 27) := ⟨_, rfl⟩
  have HB0 : Hid (Below w.heap.size w W0) := by rw [hW0]; exact al w _
  have HX0 : Hid (Hd.Bxn W0 w.heap.size [.slice an b.ns.length cn, .slice at' b.ts.length ct, .slice ab b.bs.length cb, .int .u64 (b.fe : Nat)]) := by rw [hW0]; exact Hd.Bxn.made w _ _
  have HW := Lib.hid hW0
  have HR := Lib.hid hT
  obtain ⟨ks, hks⟩ : ∃ ks, ks = b.ts.map (·.n) := ⟨_, rfl⟩
  have hkl : ks.length = b.ts.length := by rw [hks, List.length_map]
  have HKX : Hid (∀ k (h : k < b.ts.length) (h2 : k < ks.length), ks[k] = b.ts[k].n) := fun k h h2 => by subst hks; simp
  have HKL := Lib.hid hkl
  obtain ⟨rs, hrs⟩ : ∃ rs, rs = ixK ks v := ⟨_, rfl⟩
  rw [← hks, ← hrs]
  have HNO : Hid (b.ts.length ≤ fiK ks v → rs = -1) := fun h => by rw [hrs]; exact ix_no (by rw [hkl]; exact h)
  have HYES : Hid (∀ k (h : k < b.ts.length), k ≤ fiK ks v → b.ts[k].n = v → rs = (k : Nat)) := fun k h h1 h2 => by rw [hrs]; exact ix_hit (by omega) h1 ((HKX.out k h (by omega)).trans h2)
  clear hks hrs
  clear hW0 hN hT hBd hB hkl
  go_enter Tryz.func34, Tryz.ntmps34
  go_upto_region 1 with fail
  rw [← HW.out]
  clear HW
  have k1 : W0.cell? ⟨w.heap.size, 1, none⟩ = some (.slice at' b.ts.length ct) := HX0.out.cell 1
  go_wp2
  clear k1 HX0
  go_loopg [10] b.ts.length (fun gg i wx => ∃ k : Nat, k + gg = b.ts.length ∧ i = .int .i64 k ∧ Aside (k ≤ fiK ks v) ∧ Aside (Below w.heap.size w wx))
  case atStart => exact ⟨0, by omega, rfl, Nat.zero_le _, HB0.out⟩
  case round =>
    obtain ⟨k, hkg, rfl, HF, HA⟩ := hrel
    have HBr : Hid (Below w.heap.size w wr) := HA.out
    have HFr : Hid (k ≤ fiK ks v) := HF.out
    clear HA HF HB0
    cases gk with
    | zero =>
      obtain rfl : k = b.ts.length := by omega
      have HE := Lib.hid (HNO.out HFr.out)
      clear hkg HNO HYES
      go_wp2
      go_ret
      exact ⟨by rw [HE.out]; rfl, HBr.out⟩
    | succ gg =>
      have hlk : k < b.ts.length := by omega
      have t2 : (k : Int) < (b.ts.length : Int) := by omega
      have t3 : IntKind.i64.wrap ((k : Int) + 1) = (k : Int) + 1 := by rw [IntKind.wrap_i64]; omega
      have t4 : (0 : Int) ≤ (k : Int) := by omega
      obtain ⟨g, o, rfl, hgl, hrr⟩ := HR.out (by omega)
      obtain ⟨x, hx, hax, -, -⟩ := hrr k hlk
      have HXE : Hid (x.td = b.ts[k]) := hx
      clear hx
      have hrow : wr.rangeAt g (o + k * 9) [.string x.td.n, .int .i64 x.td.z0, .int .i64 x.td.z1, .int .i64 x.td.z2, .slice x.a4 x.td.ws.length x.c4, .slice x.a5 x.td.bs.length x.c5, .string x.td.g, .string x.td.a, .int .i64 x.td.r] := fun j u hj => (hax.keep HBr.out hgl) j u hj
      clear hrr hax
      go_upto_region 3 with fail
      refine wp_region_list ?_
      refine wpList_plain rfl fun K hK => ?_
      go_simp
      refine hK _ _ ?_
      clear hK K
      refine wpList_plain rfl fun K hK => ?_
      go_simp
      refine hK _ _ ?_
      clear hK K
      refine wpList_load_mid rfl 34 (.tmp 13) rfl (g) (o + k * 9) rfl [.string x.td.n, .int .i64 x.td.z0, .int .i64 x.td.z1, .int .i64 x.td.z2, .slice x.a4 x.td.ws.length x.c4, .slice x.a5 x.td.bs.length x.c5, .string x.td.g, .string x.td.a, .int .i64 x.td.r] _ (hrow) Tryz.underlying34 rfl rfl ?_
      refine wpList_plain rfl fun K hK => ?_
      go_simp
      refine hK _ _ ?_
      clear hK K
      refine wpList_plain rfl fun K hK => ?_
      go_simp
      refine hK _ _ ?_
      clear hK K
      obtain ⟨th1, hbz, hx1⟩ := one_made wr [.string ⟨#[]⟩, .int .i64 0, .int .i64 0, .int .i64 0, .slice none 0 0, .slice none 0 0, .string ⟨#[]⟩, .string ⟨#[]⟩, .int .i64 0] [.string x.td.n, .int .i64 x.td.z0, .int .i64 x.td.z1, .int .i64 x.td.z2, .slice x.a4 x.td.ws.length x.c4, .slice x.a5 x.td.bs.length x.c5, .string x.td.g, .string x.td.a, .int .i64 x.td.r] 34 rfl
      refine store_l rfl 34 (.tmp 6) (.tmp 14) rfl (wr.heap.size) [.string x.td.n, .int .i64 x.td.z0, .int .i64 x.td.z1, .int .i64 x.td.z2, .slice x.a4 x.td.ws.length x.c4, .slice x.a5 x.td.bs.length x.c5, .string x.td.g, .string x.td.a, .int .i64 x.td.r] rfl rfl th1 rfl rfl ?_
      clear th1 hrow
      generalize (wr.alloc (.cells #[.string ⟨#[]⟩, .int .i64 0, .int .i64 0, .int .i64 0, .slice none 0 0, .slice none 0 0, .string ⟨#[]⟩, .string ⟨#[]⟩, .int .i64 0] 34)).setCells wr.heap.size 0 [.string x.td.n, .int .i64 x.td.z0, .int .i64 x.td.z1, .int .i64 x.td.z2, .slice x.a4 x.td.ws.length x.c4, .slice x.a5 x.td.bs.length x.c5, .string x.td.g, .string x.td.a, .int .i64 x.td.r] = y0 at *
      have HBy : Hid (Below w.heap.size w y0) := HBr.out.trans (hbz.mono HBr.out.size)
      have n0 : y0.cell? ⟨wr.heap.size, 0, none⟩ = some (.string x.td.n) := hx1.cell 0
      clear hbz hx1 HBr
      refine wpList_nil ?_
      have hke : x.td.n = b.ts[k].n := by rw [HXE.out]
      by_cases hv : x.td.n = v
      · have HV : Hid (b.ts[k].n = v) := hke.symm.trans hv
        have g0 : (x.td.n.toList == v.toList) = true := by rw [hv]; simp
        have HE := Lib.hid (HYES.out k hlk HFr.out HV.out)
        clear hv hke HYES HNO HFr
        go_wp2
        go_ret
        exact ⟨by rw [HE.out]; rfl, HBy.out⟩
      · have HV : Hid (¬ b.ts[k].n = v) := fun e => hv (hke.trans e)
        obtain ⟨g0, g1⟩ := Hd.ba_no hv
        clear hv hke
        go_wp2
        go_roundg gg
        case measure => omega
        case rel => exact ⟨k + 1, by omega, by simp, fi_miss ks v k (by have := HKL.out; omega) HFr.out (by rw [HKX.out k hlk (by have := HKL.out; omega)]; exact HV.out), HBy.out⟩
set_option maxRecDepth 100000 in
set_option maxHeartbeats 4000000 in
theorem On_ix (b : Bk) (vn vt vb : Value) (v : ByteArray) (w : World) (hB : Books w w.heap.size vn vt vb b) :
    Calls Tryz.prog 35 #[.agg #[vn, vt, vb, .int .u64 (b.fe : Nat)], .string v] w fun e w' => e = .returned (.string (onF b.bs v)) ∧ Below w.heap.size w w' := by
  have hln : b.bs.length ≤ 4398046511104 := by have hl := hB.hb.2.2; omega
  obtain ⟨an, cn, rfl, hN⟩ := hB.hn.row
  obtain ⟨at', ct, rfl, hT⟩ := hB.ht.row
  obtain ⟨ab, cb, rfl, hBd⟩ := hB.hb.row
  obtain ⟨W0, hW0⟩ : ∃ W0, W0 = w.alloc (.cells #[.slice an b.ns.length cn, .slice at' b.ts.length ct, .slice ab b.bs.length cb, .int .u64 (b.fe : Nat)] 27) := ⟨_, rfl⟩
  have HB0 : Hid (Below w.heap.size w W0) := by rw [hW0]; exact al w _
  have HX0 : Hid (Hd.Bxn W0 w.heap.size [.slice an b.ns.length cn, .slice at' b.ts.length ct, .slice ab b.bs.length cb, .int .u64 (b.fe : Nat)]) := by rw [hW0]; exact Hd.Bxn.made w _ _
  have HW := Lib.hid hW0
  have HR := Lib.hid hBd
  obtain ⟨ks, hks⟩ : ∃ ks, ks = b.bs.map (·.k) := ⟨_, rfl⟩
  have hkl : ks.length = b.bs.length := by rw [hks, List.length_map]
  have HKX : Hid (∀ k (h : k < b.bs.length) (h2 : k < ks.length), ks[k] = b.bs[k].k) := fun k h h2 => by subst hks; simp
  have HKL := Lib.hid hkl
  obtain ⟨rs, hrs⟩ : ∃ rs, rs = onF b.bs v := ⟨_, rfl⟩
  rw [← hrs]
  have HNO : Hid (b.bs.length ≤ fiK ks v → rs = ⟨#[]⟩) := fun h => by rw [hrs]; exact on_no (by rw [← hks]; exact h)
  have HYES : Hid (∀ k (h : k < b.bs.length), k ≤ fiK ks v → b.bs[k].k = v → rs = b.bs[k].v) := fun k h h1 h2 => by rw [hrs]; exact on_hit h (by rw [← hks]; exact h1) h2
  clear hks hrs
  clear hW0 hN hT hBd hB hkl
  go_enter Tryz.func35, Tryz.ntmps35
  go_upto_region 1 with fail
  rw [← HW.out]
  clear HW
  have k1 : W0.cell? ⟨w.heap.size, 2, none⟩ = some (.slice ab b.bs.length cb) := HX0.out.cell 2
  go_wp2
  clear k1 HX0
  go_loopg [10] b.bs.length (fun gg i wx => ∃ k : Nat, k + gg = b.bs.length ∧ i = .int .i64 k ∧ Aside (k ≤ fiK ks v) ∧ Aside (Below w.heap.size w wx))
  case atStart => exact ⟨0, by omega, rfl, Nat.zero_le _, HB0.out⟩
  case round =>
    obtain ⟨k, hkg, rfl, HF, HA⟩ := hrel
    have HBr : Hid (Below w.heap.size w wr) := HA.out
    have HFr : Hid (k ≤ fiK ks v) := HF.out
    clear HA HF HB0
    cases gk with
    | zero =>
      obtain rfl : k = b.bs.length := by omega
      have HE := Lib.hid (HNO.out HFr.out)
      clear hkg HNO HYES
      go_wp2
      go_ret
      exact ⟨by rw [HE.out]; rfl, HBr.out⟩
    | succ gg =>
      have hlk : k < b.bs.length := by omega
      have t2 : (k : Int) < (b.bs.length : Int) := by omega
      have t3 : IntKind.i64.wrap ((k : Int) + 1) = (k : Int) + 1 := by rw [IntKind.wrap_i64]; omega
      have t4 : (0 : Int) ≤ (k : Int) := by omega
      obtain ⟨g, o, rfl, hgl, hrr⟩ := HR.out (by omega)
      have hax := hrr k hlk
      obtain ⟨x, hx⟩ : ∃ x, x = b.bs[k] := ⟨_, rfl⟩
      rw [← hx] at hax
      have HXE : Hid (x = b.bs[k]) := hx
      clear hx
      have hrow : wr.rangeAt g (o + k * 2) [.string x.k, .string x.v] := fun j u hj => (hax.keep HBr.out hgl) j u hj
      clear hrr hax
      go_upto_region 3 with fail
      refine wp_region_list ?_
      refine wpList_plain rfl fun K hK => ?_
      go_simp
      refine hK _ _ ?_
      clear hK K
      refine wpList_load_mid rfl 61 (.tmp 12) rfl (g) (o + k * 2) rfl [.string x.k, .string x.v] _ (hrow) Tryz.underlying61 rfl rfl ?_
      refine wpList_plain rfl fun K hK => ?_
      go_simp
      refine hK _ _ ?_
      clear hK K
      obtain ⟨th1, hbz, hx1⟩ := one_made wr [.string ⟨#[]⟩, .string ⟨#[]⟩] [.string x.k, .string x.v] 61 rfl
      refine store_l rfl 61 (.tmp 6) (.tmp 13) rfl (wr.heap.size) [.string x.k, .string x.v] rfl rfl th1 rfl rfl ?_
      clear th1 hrow
      generalize (wr.alloc (.cells #[.string ⟨#[]⟩, .string ⟨#[]⟩] 61)).setCells wr.heap.size 0 [.string x.k, .string x.v] = y0 at *
      have HBy : Hid (Below w.heap.size w y0) := HBr.out.trans (hbz.mono HBr.out.size)
      have n0 : y0.cell? ⟨wr.heap.size, 0, none⟩ = some (.string x.k) := hx1.cell 0
      have n1 : y0.cell? ⟨wr.heap.size, 1, none⟩ = some (.string x.v) := hx1.cell 1
      clear hbz hx1 HBr
      refine wpList_nil ?_
      have hke : x.k = b.bs[k].k := by rw [HXE.out]
      by_cases hv : x.k = v
      · have HV : Hid (b.bs[k].k = v) := hke.symm.trans hv
        have g0 : (x.k.toList == v.toList) = true := by rw [hv]; simp
        have HE := Lib.hid (HYES.out k hlk HFr.out HV.out)
        clear hv hke HYES HNO HFr
        go_wp2
        go_ret
        exact ⟨by rw [HE.out, HXE.out]; rfl, HBy.out⟩
      · have HV : Hid (¬ b.bs[k].k = v) := fun e => hv (hke.trans e)
        obtain ⟨g0, g1⟩ := Hd.ba_no hv
        clear hv hke
        go_wp2
        go_roundg gg
        case measure => omega
        case rel => exact ⟨k + 1, by omega, by simp, fi_miss ks v k (by have := HKL.out; omega) HFr.out (by rw [HKX.out k hlk (by have := HKL.out; omega)]; exact HV.out), HBy.out⟩
end Bo
end Go.Proofs.YtaipbaegbpebkaaGreat

/- THE TASKS OF A NODE, by the document: gafferref08.there, used. -/
namespace Go.Proofs.YtaipbaegbpebkaaGreat
open Go.RowKit Go.Lib
namespace Bo
open List renaming setIfInBounds_toArray → zq1, set_cons_zero → zq2, set_cons_succ → zq3, getElem_toArray → zq4, getElem_cons_succ → zq5, getElem_cons_zero → zq6
open Rw
set_option linter.unusedVariables false
/-- The tasks of a node, by the document: a row of its own. -/
def ThrIs (b : Bk) (v : ByteArray) (w : World) (e : Ending) (w' : World) : Prop := ∃ v' lm, e = .returned v' ∧ Own w' w.heap.size 34 v' lm ∧ lm.map (·.td) = thr b.ts b.bs v ∧ (∀ x ∈ lm, DeepT w w.heap.size x ∧ FitT x.td) ∧ Below w.heap.size w w'
theorem bxn_in2 {z z' : World} {B C : Nat} {cs : List Value} (h : Hd.Bxn z B cs) (hb : Below C z z') (hB : B < C) : Hd.Bxn z' B cs := by
  obtain ⟨T, h⟩ := h
  exact ⟨T, (hb.block B hB).trans h⟩
theorem bxn_grown {z z' : World} {B : Nat} {cs : List Value} {own : Option Nat} (h : Hd.Bxn z B cs) (hg : z.grownBy z' own) (hn : own ≠ some B) : Hd.Bxn z' B cs := by
  have hl := h.lt
  obtain ⟨T, h⟩ := h
  exact ⟨T, (hg.block B hl (fun e => hn e.symm)).trans h⟩
theorem tOf_fi {l : List Hd.Td} (hr : Ris (l.map (·.n))) {k : ByteArray} (h : fiK (l.map (·.n)) k < l.length) : tOf l k = l[fiK (l.map (·.n)) k] := by
  have h1 := fi_get (ks := l.map (·.n)) (x := k) (by rw [List.length_map]; exact h)
  rw [List.getElem_map] at h1
  have h2 := tOf_at hr (List.getElem_mem h)
  rw [h1] at h2
  exact h2
set_option maxRecDepth 100000 in
set_option maxHeartbeats 4000000 in
theorem there_ref (b : Bk) (vn vt vb : Value) (v : ByteArray) (w : World) (hB : Books w w.heap.size vn vt vb b) (hL : Lists b) :
    Calls Tryz.prog 72 #[.agg #[vn, vt, vb, .int .u64 (b.fe : Nat)], .string v] w (ThrIs b v w) := by
  have hln : b.bs.length ≤ 4398046511104 := by have hl := hB.hb.2.2; omega
  have HTK : Hid (∀ k z, Below w.heap.size w z → Calls Tryz.prog 34 #[.agg #[vn, vt, vb, .int .u64 (b.fe : Nat)], .string k] z fun e w' => e = .returned (.int .i64 (ixK (b.ts.map (·.n)) k)) ∧ Below z.heap.size z w') := fun k z hz => Task_ix b vn vt vb k z (hB.on hz)
  obtain ⟨an, cn, rfl, -⟩ := hB.hn.row
  obtain ⟨at', ct, rfl, hT⟩ := hB.ht.row
  obtain ⟨ab, cb, rfl, hBd⟩ := hB.hb.row
  obtain ⟨W0, hW0⟩ : ∃ W0, W0 = w.alloc (.cells #[.slice an b.ns.length cn, .slice at' b.ts.length ct, .slice ab b.bs.length cb, .int .u64 (b.fe : Nat)] 27) := ⟨_, rfl⟩
  have HB0 : Hid (Below w.heap.size w W0) := by rw [hW0]; exact al w _
  have HX0 : Hid (Hd.Bxn W0 w.heap.size [.slice an b.ns.length cn, .slice at' b.ts.length ct, .slice ab b.bs.length cb, .int .u64 (b.fe : Nat)]) := by rw [hW0]; exact Hd.Bxn.made w _ _
  have HW := Lib.hid hW0
  have HR := Lib.hid hBd
  have HTR := Lib.hid hT
  have HTL : Hid (b.ts.length ≤ 4398046511104) := by obtain ⟨m, hm, -, -, hl⟩ := hB.ht; show _ ≤ _; omega
  have HLS := Lib.hid hL
  clear hW0 hT hBd hB hL
  go_enter Tryz.func72, Tryz.ntmps72
  go_upto_region 1 with fail
  rw [← HW.out]
  clear HW
  have k1 : W0.cell? ⟨w.heap.size, 2, none⟩ = some (.slice ab b.bs.length cb) := HX0.out.cell 2
  go_wp2
  clear k1
  go_loopg [5, 11] b.bs.length (fun gg sv i wx => ∃ (k : Nat) (lm : List TdM), k + gg = b.bs.length ∧ i = .int .i64 k ∧ Aside (Own wx (w.heap.size + 1) 34 sv lm ∧ lm.map (·.td) = thr b.ts (b.bs.take k) v ∧ (∀ x ∈ lm, DeepT w w.heap.size x ∧ FitT x.td)) ∧ Aside (Below w.heap.size w wx ∧ Hd.Bxn wx w.heap.size [.slice an b.ns.length cn, .slice at' b.ts.length ct, .slice ab b.bs.length cb, .int .u64 (b.fe : Nat)]))
  case atStart => exact ⟨0, [], by omega, rfl, ⟨Own.nil _ _ _, by simp [thr], by simp⟩, ⟨HB0.out, HX0.out⟩⟩
  case round =>
    obtain ⟨k, lm, hkg, rfl, HA, HK⟩ := hrel
    have HOr : Hid (Own wr (w.heap.size + 1) 34 u5 lm) := HA.out.1
    have HMr : Hid (lm.map (·.td) = thr b.ts (b.bs.take k) v) := HA.out.2.1
    have HDr : Hid (∀ x ∈ lm, DeepT w w.heap.size x ∧ FitT x.td) := HA.out.2.2
    have HBr : Hid (Below w.heap.size w wr) := HK.out.1
    have HXr : Hid (Hd.Bxn wr w.heap.size [.slice an b.ns.length cn, .slice at' b.ts.length ct, .slice ab b.bs.length cb, .int .u64 (b.fe : Nat)]) := HK.out.2
    clear HA HK HB0 HX0
    obtain ⟨q1, q2, rfl⟩ := HOr.out.slice
    cases gk with
    | zero =>
      obtain rfl : k = b.bs.length := by omega
      have HM2 : Hid (lm.map (·.td) = thr b.ts b.bs v) := by have h := HMr.out; rw [List.take_length] at h; exact h
      clear hkg
      go_wp2
      go_ret
      exact ⟨_, lm, rfl, HOr.out.le (by omega), HM2.out, HDr.out, HBr.out⟩
    | succ gg =>
      have hlk : k < b.bs.length := by omega
      have t2 : (k : Int) < (b.bs.length : Int) := by omega
      have t3 : IntKind.i64.wrap ((k : Int) + 1) = (k : Int) + 1 := by rw [IntKind.wrap_i64]; omega
      have t4 : (0 : Int) ≤ (k : Int) := by omega
      obtain ⟨g, o', rfl, hgl, hrr⟩ := HR.out (by omega)
      have hax := hrr k hlk
      have HYES := Lib.hid (thr_yes b.ts b.bs v k hlk)
      have HNO := Lib.hid (thr_no b.ts b.bs v k hlk)
      have HBT := Lib.hid (HLS.out.bt b.bs[k] (List.getElem_mem hlk))
      have hlb := HLS.out.lb
      have HLM : Hid (lm.length ≤ 31) := by
        have h1 := thr_len b.ts (b.bs.take k) v
        rw [← HMr.out, List.length_map, List.length_take] at h1
        show _ ≤ _
        omega
      clear hrr hlb
      generalize b.bs[k] = o at *
      have hrow : wr.rangeAt g (o' + k * 2) [.string o.k, .string o.v] := fun j u hj => (hax.keep HBr.out hgl) j u hj
      have HVA : Hid (∀ q, (Value.slice q1 lm.length q2).ownBlock = some q → w.heap.size + 1 ≤ q ∧ q < wr.heap.size) := fun q e => HOr.out.lt q e
      have HSZ : Hid (w.heap.size < wr.heap.size) := HXr.out.lt
      clear hax
      go_upto_region 4 with fail
      refine wp_region_list ?_
      refine wpList_plain rfl fun K hK => ?_
      go_simp
      refine hK _ _ ?_
      clear hK K
      refine wpList_load_mid rfl 61 (.tmp 13) rfl (g) (o' + k * 2) rfl [.string o.k, .string o.v] _ (hrow) Tryz.underlying61 rfl rfl ?_
      refine wpList_plain rfl fun K hK => ?_
      go_simp
      refine hK _ _ ?_
      clear hK K
      obtain ⟨th1, hbz, hx1⟩ := one_made wr [.string ⟨#[]⟩, .string ⟨#[]⟩] [.string o.k, .string o.v] 61 rfl
      refine store_l rfl 61 (.tmp 7) (.tmp 14) rfl (wr.heap.size) [.string o.k, .string o.v] rfl rfl th1 rfl rfl ?_
      clear th1 hrow
      generalize (wr.alloc (.cells #[.string ⟨#[]⟩, .string ⟨#[]⟩] 61)).setCells wr.heap.size 0 [.string o.k, .string o.v] = y0 at *
      have HBy : Hid (Below w.heap.size w y0) := HBr.out.trans (hbz.mono HBr.out.size)
      have HOy := Lib.hid (HOr.out.keep hbz)
      have HXy := Lib.hid (HXr.out.below hbz)
      have HEy := Lib.hid hx1
      have n0 : y0.cell? ⟨wr.heap.size, 0, none⟩ = some (.string o.k) := hx1.cell 0
      have n1 : y0.cell? ⟨wr.heap.size, 1, none⟩ = some (.string o.v) := hx1.cell 1
      clear hbz hx1 HBr HOr HXr
      refine wpList_nil ?_
      by_cases hv : o.v = v
      · have HTH := Lib.hid (HYES.out hv)
        have g0 : (o.v.toList == v.toList) = true := by rw [hv]; simp
        clear hv HYES HNO
        have hft : fiK (b.ts.map (·.n)) o.k < b.ts.length := by have h := (fi_has _ _).1 HBT.out; rwa [List.length_map] at h
        obtain ⟨i, hi⟩ : ∃ i, i = fiK (b.ts.map (·.n)) o.k := ⟨_, rfl⟩
        have hto := tOf_fi HLS.out.rt hft
        rw [← hi] at hft
        have hix : ixK (b.ts.map (·.n)) o.k = (i : Nat) := by unfold ixK; rw [if_pos HBT.out, hi]
        have htd : tOf b.ts o.k = b.ts[i] := by rw [hto]; simp only [hi]
        obtain ⟨gt, ot, rfl, hgt, hrt⟩ := HTR.out (by omega)
        obtain ⟨x, hx, hat, hdx, hfx⟩ := hrt i hft
        have HXT : Hid (x.td = tOf b.ts o.k) := by rw [htd]; exact hx
        have t6 : (i : Int) < (b.ts.length : Int) := by omega
        have t7 : (0 : Int) ≤ (i : Int) := by omega
        have t8 : (b.ts.length : Int) ≤ 4398046511104 := by have := HTL.out; omega
        have HTK1 : Hid (∀ z, Below w.heap.size w z → Calls Tryz.prog 34 #[.agg #[.slice an b.ns.length cn, .slice (some ⟨gt, ot, none⟩) b.ts.length ct, .slice (some ⟨g, o', none⟩) b.bs.length cb, .int .u64 (b.fe : Nat)], .string o.k] z fun e w' => e = .returned (.int .i64 (i : Nat)) ∧ Below z.heap.size z w') := fun z hz => (HTK.out o.k z hz).mono fun e w' ⟨he, hb⟩ => ⟨by rw [hix] at he; exact he, hb⟩
        have HDX : Hid (DeepT w w.heap.size x ∧ FitT x.td) := ⟨hdx, hfx⟩
        have HAT : Hid (∀ z, Below w.heap.size w z → At z gt (ot + i * 9) x) := fun z hz => hat.keep hz hgt
        clear hi hto hix htd hrt hx hat hdx hfx hgt hft HTK
        go_upto_region 6 with fail
        have HP : Hid (∀ z, Hd.Bxn z w.heap.size [.slice an b.ns.length cn, .slice (some ⟨gt, ot, none⟩) b.ts.length ct, .slice (some ⟨g, o', none⟩) b.bs.length cb, .int .u64 (b.fe : Nat)] → Hd.Bxn z wr.heap.size [.string o.k, .string o.v] → Below w.heap.size w z → (z.cell? ⟨w.heap.size, 0, none⟩ = some (.slice an b.ns.length cn) ∧ z.cell? ⟨w.heap.size, 1, none⟩ = some (.slice (some ⟨gt, ot, none⟩) b.ts.length ct) ∧ z.cell? ⟨w.heap.size, 2, none⟩ = some (.slice (some ⟨g, o', none⟩) b.bs.length cb) ∧ z.cell? ⟨w.heap.size, 3, none⟩ = some (.int .u64 (b.fe : Nat)) ∧ z.cell? ⟨wr.heap.size, 0, none⟩ = some (.string o.k) ∧ z.cell? ⟨gt, ot + i * 9, none⟩ = some (.string x.td.n) ∧ z.cell? ⟨gt, ot + i * 9 + 1, none⟩ = some (.int .i64 x.td.z0) ∧ z.cell? ⟨gt, ot + i * 9 + 2, none⟩ = some (.int .i64 x.td.z1) ∧ z.cell? ⟨gt, ot + i * 9 + 3, none⟩ = some (.int .i64 x.td.z2) ∧ z.cell? ⟨gt, ot + i * 9 + 4, none⟩ = some (.slice x.a4 x.td.ws.length x.c4) ∧ z.cell? ⟨gt, ot + i * 9 + 5, none⟩ = some (.slice x.a5 x.td.bs.length x.c5) ∧ z.cell? ⟨gt, ot + i * 9 + 6, none⟩ = some (.string x.td.g) ∧ z.cell? ⟨gt, ot + i * 9 + 7, none⟩ = some (.string x.td.a) ∧ z.cell? ⟨gt, ot + i * 9 + 8, none⟩ = some (.int .i64 x.td.r))) := fun z h1 h2 h3 => ⟨h1.cell 0, h1.cell 1, h1.cell 2, h1.cell 3, h2.cell 0, HAT.out z h3 0 _ rfl, HAT.out z h3 1 _ rfl, HAT.out z h3 2 _ rfl, HAT.out z h3 3 _ rfl, HAT.out z h3 4 _ rfl, HAT.out z h3 5 _ rfl, HAT.out z h3 6 _ rfl, HAT.out z h3 7 _ rfl, HAT.out z h3 8 _ rfl⟩
        have HBd : Hid (Below w.heap.size w y0.drew) := below_drew HBy.out
        have HXd : Hid (Hd.Bxn y0.drew w.heap.size [.slice an b.ns.length cn, .slice (some ⟨gt, ot, none⟩) b.ts.length ct, .slice (some ⟨g, o', none⟩) b.bs.length cb, .int .u64 (b.fe : Nat)]) := by obtain ⟨T, h⟩ := HXy.out; exact ⟨T, h⟩
        have HEd : Hid (Hd.Bxn y0.drew wr.heap.size [.string o.k, .string o.v]) := by obtain ⟨T, h⟩ := HEy.out; exact ⟨T, h⟩
        have HOd : Hid (Own y0.drew (w.heap.size + 1) 34 (.slice q1 lm.length q2) lm) := HOy.out
        clear n0 n1 HBy HXy HEy HOy
        refine wp_region_held_drew (S := fun z => z.cell? ⟨w.heap.size, 0, none⟩ = some (.slice an b.ns.length cn) ∧ z.cell? ⟨w.heap.size, 1, none⟩ = some (.slice (some ⟨gt, ot, none⟩) b.ts.length ct) ∧ z.cell? ⟨w.heap.size, 2, none⟩ = some (.slice (some ⟨g, o', none⟩) b.bs.length cb) ∧ z.cell? ⟨w.heap.size, 3, none⟩ = some (.int .u64 (b.fe : Nat)) ∧ z.cell? ⟨wr.heap.size, 0, none⟩ = some (.string o.k) ∧ z.cell? ⟨gt, ot + i * 9, none⟩ = some (.string x.td.n) ∧ z.cell? ⟨gt, ot + i * 9 + 1, none⟩ = some (.int .i64 x.td.z0) ∧ z.cell? ⟨gt, ot + i * 9 + 2, none⟩ = some (.int .i64 x.td.z1) ∧ z.cell? ⟨gt, ot + i * 9 + 3, none⟩ = some (.int .i64 x.td.z2) ∧ z.cell? ⟨gt, ot + i * 9 + 4, none⟩ = some (.slice x.a4 x.td.ws.length x.c4) ∧ z.cell? ⟨gt, ot + i * 9 + 5, none⟩ = some (.slice x.a5 x.td.bs.length x.c5) ∧ z.cell? ⟨gt, ot + i * 9 + 6, none⟩ = some (.string x.td.g) ∧ z.cell? ⟨gt, ot + i * 9 + 7, none⟩ = some (.string x.td.a) ∧ z.cell? ⟨gt, ot + i * 9 + 8, none⟩ = some (.int .i64 x.td.r)) (by kernel_rfl) (HP.out _ HXd.out HEd.out HBd.out) (fun hHeld => ?_)
        generalize y0.drew = yd at *
        refine wpAnyH_take (i := 0) (v := ?_) rfl (by kernel_rfl) (by kernel_rfl) (by kernel_rfl) (fun _ _ _ h => h) (Or.inl ⟨by rfl, ?_⟩) (by assumption) ?_
        rotate_left
        · intro z hSz
          obtain ⟨c0, c1, c2, c3, c4, c5, c6, c7, c8, c9, c10, c11, c12, c13⟩ := hSz
          go_simp
          try with_reducible rfl
        try simp only [Act.put, zq1, zq2, zq3, zq4, zq6]
        refine wpAnyH_take (i := 1) (v := ?_) rfl (by kernel_rfl) (by kernel_rfl) (by kernel_rfl) (fun _ _ _ h => h) (Or.inl ⟨by rfl, ?_⟩) (by assumption) ?_
        rotate_left
        · intro z hSz
          obtain ⟨c0, c1, c2, c3, c4, c5, c6, c7, c8, c9, c10, c11, c12, c13⟩ := hSz
          go_simp
          try with_reducible rfl
        try simp only [Act.put, zq1, zq2, zq3, zq4, zq5, zq6]
        refine wpAnyH_take (i := 2) (v := ?_) rfl (by kernel_rfl) (by kernel_rfl) (by kernel_rfl) (fun _ _ _ h => h) (Or.inl ⟨by rfl, ?_⟩) (by assumption) ?_
        rotate_left
        · intro z hSz
          obtain ⟨c0, c1, c2, c3, c4, c5, c6, c7, c8, c9, c10, c11, c12, c13⟩ := hSz
          go_simp
          try with_reducible rfl
        try simp only [Act.put, zq1, zq2, zq3, zq4, zq5, zq6]
        refine wpAnyH_take (i := 3) (v := ?_) rfl (by kernel_rfl) (by kernel_rfl) (by kernel_rfl) (fun _ _ _ h => h) (Or.inl ⟨by rfl, ?_⟩) (by assumption) ?_
        rotate_left
        · intro z hSz
          obtain ⟨c0, c1, c2, c3, c4, c5, c6, c7, c8, c9, c10, c11, c12, c13⟩ := hSz
          go_simp
          try with_reducible rfl
        try simp only [Act.put, zq1, zq2, zq3, zq4, zq5, zq6]
        refine wpAnyH_take (i := 4) (v := ?_) rfl (by kernel_rfl) (by kernel_rfl) (by kernel_rfl) (fun _ _ _ h => h) (Or.inl ⟨by rfl, ?_⟩) (by assumption) ?_
        rotate_left
        · intro z hSz
          obtain ⟨c0, c1, c2, c3, c4, c5, c6, c7, c8, c9, c10, c11, c12, c13⟩ := hSz
          go_simp
          try with_reducible rfl
        try simp only [Act.put, zq1, zq2, zq3, zq4, zq5, zq6]
        refine wpAnyH_take (i := 5) (v := ?_) rfl (by kernel_rfl) (by kernel_rfl) (by kernel_rfl) (fun _ _ _ h => h) (Or.inl ⟨by rfl, ?_⟩) (by assumption) ?_
        rotate_left
        · intro z hSz
          obtain ⟨c0, c1, c2, c3, c4, c5, c6, c7, c8, c9, c10, c11, c12, c13⟩ := hSz
          go_simp
          try with_reducible rfl
        try simp only [Act.put, zq1, zq2, zq3, zq4, zq5, zq6]
        refine wpAnyH_ready (rs := [6]) (by kernel_rfl) (by simp) ?_
        refine AllReadyH.cons rfl (fun K hK => ?_) AllReadyH.nil
        go_simp
        refine (HTK1.out _ HBd.out).mono ?_
        rintro e w5 ⟨rfl, hb⟩
        have HB5 : Hid (Below w.heap.size w w5) := HBd.out.trans (hb.mono HBd.out.size)
        have HX5 := Lib.hid (HXd.out.below hb)
        have HE5 := Lib.hid (HEd.out.below hb)
        have HO5 := Lib.hid (HOd.out.keep hb)
        clear hb HBd HXd HEd HOd
        refine hK.out _ _ (HP.out _ HX5.out HE5.out HB5.out) (fun hHeld2 => ?_)
        clear hK K hHeld
        have hHeld := hHeld2
        clear hHeld2
        try simp only [Act.put, zq1, zq2, zq3, zq4, zq5, zq6]
        refine wpAnyH_take (i := 7) (v := ?_) rfl (by kernel_rfl) (by kernel_rfl) (by kernel_rfl) (fun _ _ _ h => h) (Or.inl ⟨by rfl, ?_⟩) (by assumption) ?_
        rotate_left
        · intro z hSz
          obtain ⟨c0, c1, c2, c3, c4, c5, c6, c7, c8, c9, c10, c11, c12, c13⟩ := hSz
          go_simp
          try with_reducible rfl
        try simp only [Act.put, zq1, zq2, zq3, zq4, zq5, zq6]
        refine wpAnyH_take (i := 8) (v := ?_) rfl (by kernel_rfl) (by kernel_rfl) (by kernel_rfl) (fun _ _ _ h => h) (Or.inl ⟨by rfl, ?_⟩) (by assumption) ?_
        rotate_left
        · intro z hSz
          obtain ⟨c0, c1, c2, c3, c4, c5, c6, c7, c8, c9, c10, c11, c12, c13⟩ := hSz
          go_simp
          try with_reducible rfl
        try simp only [Act.put, zq1, zq2, zq3, zq4, zq5, zq6]
        refine wpAnyH_ready (rs := [9]) (by kernel_rfl) (by simp) ?_
        refine AllReadyH.cons rfl (fun K hK => ?_) AllReadyH.nil
        go_simp
        have ha : Below w5.heap.size w5 (w5.alloc (.cells #[.string x.td.n, .int .i64 x.td.z0, .int .i64 x.td.z1, .int .i64 x.td.z2, .slice x.a4 x.td.ws.length x.c4, .slice x.a5 x.td.bs.length x.c5, .string x.td.g, .string x.td.a, .int .i64 x.td.r] 34)) := al _ _
        have HB6 : Hid (Below w.heap.size w (w5.alloc (.cells #[.string x.td.n, .int .i64 x.td.z0, .int .i64 x.td.z1, .int .i64 x.td.z2, .slice x.a4 x.td.ws.length x.c4, .slice x.a5 x.td.bs.length x.c5, .string x.td.g, .string x.td.a, .int .i64 x.td.r] 34))) := HB5.out.trans (ha.mono HB5.out.size)
        have HX6 := Lib.hid (HX5.out.below ha)
        have HE6 := Lib.hid (HE5.out.below ha)
        have HO6 := Lib.hid (HO5.out.keep ha)
        have HSL : Hid (Sl (w5.alloc (.cells #[.string x.td.n, .int .i64 x.td.z0, .int .i64 x.td.z1, .int .i64 x.td.z2, .slice x.a4 x.td.ws.length x.c4, .slice x.a5 x.td.bs.length x.c5, .string x.td.g, .string x.td.a, .int .i64 x.td.r] 34)) w5.heap.size (w5.alloc (.cells #[.string x.td.n, .int .i64 x.td.z0, .int .i64 x.td.z1, .int .i64 x.td.z2, .slice x.a4 x.td.ws.length x.c4, .slice x.a5 x.td.bs.length x.c5, .string x.td.g, .string x.td.a, .int .i64 x.td.r] 34)).heap.size (.slice (some ⟨w5.heap.size, 0, none⟩) 1 1) [x]) := sl_one w5 x _
        clear ha HB5 HX5 HE5 HO5
        refine hK.out _ _ (HP.out _ HX6.out HE6.out HB6.out) (fun hHeld2 => ?_)
        clear hK K hHeld
        have hHeld := hHeld2
        clear hHeld2
        try simp only [Act.put, zq1, zq2, zq3, zq4, zq5, zq6]
        refine wpAnyH_ready (rs := [10]) (by kernel_rfl) (by simp) ?_
        refine AllReadyH.cons rfl (fun K hK => ?_) AllReadyH.nil
        obtain ⟨i0, hi0, hz0, hz1, hz2⟩ := info_parts info_t
        have hbs6 : w.heap.size + 1 ≤ (w5.alloc (.cells #[.string x.td.n, .int .i64 x.td.z0, .int .i64 x.td.z1, .int .i64 x.td.z2, .slice x.a4 x.td.ws.length x.c4, .slice x.a5 x.td.bs.length x.c5, .string x.td.g, .string x.td.a, .int .i64 x.td.r] 34)).heap.size := by have := HX6.out.lt; omega
        obtain ⟨v7, w7, hr, ho7, hg7, -⟩ := run_app (P := Tryz.prog) (ty := 23) Tryz.underlying23 hi0 hz0 hz1 hz2 rfl HO6.out HSL.out (by have := HLM.out; simp; omega) (by have := HLM.out; simp; omega) hbs6
        obtain ⟨g7, n7, hv7⟩ := ho7.slice
        generalize (lm ++ [x]).length = L7 at hv7
        subst hv7
        refine step_app rfl (.tmp 19) (.tmp 28) 23 rfl _ _ _ rfl rfl hr ?_
        clear hr
        have HB7 : Hid (Below w.heap.size w w7) := HB6.out.grown hg7 (by omega) (fun q e => by have := (HVA.out q e).1; omega)
        have HX7 := Lib.hid (bxn_grown HX6.out hg7 (fun e => by have := (HVA.out _ e).1; omega))
        have HE7 := Lib.hid (bxn_grown HE6.out hg7 (fun e => by have := (HVA.out _ e).2; omega))
        have HO7 := Lib.hid ho7
        clear ho7 hg7 hbs6 HB6 HX6 HE6 HO6 HSL
        refine hK.out _ _ (HP.out _ HX7.out HE7.out HB7.out) (fun hHeld2 => ?_)
        clear hK K hHeld
        have hHeld := hHeld2
        clear hHeld2
        try simp only [Act.put, zq1, zq2, zq3, zq4, zq5, zq6]
        refine wpAnyH_take (i := 11) (v := ?_) rfl (by kernel_rfl) (by kernel_rfl) (by kernel_rfl) (fun _ _ _ h => h) (Or.inl ⟨by rfl, ?_⟩) (by assumption) ?_
        rotate_left
        · intro z hSz
          obtain ⟨c0, c1, c2, c3, c4, c5, c6, c7, c8, c9, c10, c11, c12, c13⟩ := hSz
          go_simp
          try with_reducible rfl
        try simp only [Act.put, zq1, zq2, zq3, zq4, zq5, zq6]
        refine wpAnyH_done (by kernel_rfl) ?_ _
        clear hHeld
        go_wp2
        go_roundg gg
        case measure => omega
        case rel =>
          refine ⟨k + 1, lm ++ [x], by omega, by simp, ⟨HO7.out, ?_, fun y hy => ?_⟩, ⟨HB7.out, HX7.out⟩⟩
          · rw [HTH.out, List.map_append, HMr.out, List.map_singleton, HXT.out]
          · rcases List.mem_append.1 hy with h | h
            · exact HDr.out y h
            · rw [List.mem_singleton.1 h]; exact HDX.out
      · have HTH := Lib.hid (HNO.out hv)
        obtain ⟨g0, g1⟩ := Hd.ba_no hv
        clear hv HYES HNO
        go_wp2
        go_roundg gg
        case measure => omega
        case rel => exact ⟨k + 1, lm, by omega, by simp, ⟨HOy.out, by rw [HTH.out]; exact HMr.out, HDr.out⟩, ⟨HBy.out, HXy.out⟩⟩
set_option maxRecDepth 100000 in
set_option maxHeartbeats 4000000 in
theorem used_ref (b : Bk) (vn vt vb : Value) (v : ByteArray) (w : World) (hB : Books w w.heap.size vn vt vb b) (hL : Lists b) :
    Calls Tryz.prog 46 #[.agg #[vn, vt, vb, .int .u64 (b.fe : Nat)], .string v] w fun e w' => e = .returned (.agg #[.int .i64 (us0 b v), .int .i64 (us1 b v), .int .i64 (us2 b v)]) ∧ Below w.heap.size w w' := by
  have HTH : Hid (∀ z, Below w.heap.size w z → Calls Tryz.prog 72 #[.agg #[vn, vt, vb, .int .u64 (b.fe : Nat)], .string v] z (ThrIs b v z)) := fun z hz => there_ref b vn vt vb v z (hB.on hz) hL
  have HSM : Hid (∀ z v' (lm : List TdM) base, Own z base 34 v' lm → lm.map (·.td) = thr b.ts b.bs v → (∀ x ∈ lm, FitT x.td) → Calls Tryz.prog 86 #[v'] z fun e w' => e = .returned (.tuple #[.agg #[.int .i64 (us0 b v), .int .i64 (us1 b v), .int .i64 (us2 b v)], .int .i64 0]) ∧ Below z.heap.size z w') := by
    intro z v' lm base ho hm hf
    have hl : lm.length ≤ 32 := by
      have h1 := thr_len b.ts b.bs v
      rw [← hm, List.length_map] at h1
      have := hL.lb
      omega
    refine (Rg.sum_ref v' (lm.map tkM) z (own_tasks ho (by omega) hf)).mono ?_
    rintro e w' ⟨he, hb⟩
    have h2 := sum_td hl (fun x hx => hL.kt _ (hL.thr_mem (v := v) (by rw [← hm]; exact List.mem_map_of_mem hx))) he
    rw [hm] at h2
    exact ⟨h2, hb⟩
  obtain ⟨an, cn, rfl⟩ := hB.hn.slice
  obtain ⟨at', ct, rfl⟩ := hB.ht.slice
  obtain ⟨ab, cb, rfl⟩ := hB.hb.slice
  obtain ⟨s0, hs0⟩ : ∃ s, s = us0 b v := ⟨_, rfl⟩
  obtain ⟨s1, hs1⟩ : ∃ s, s = us1 b v := ⟨_, rfl⟩
  obtain ⟨s2, hs2⟩ : ∃ s, s = us2 b v := ⟨_, rfl⟩
  rw [← hs0, ← hs1, ← hs2] at HSM ⊢
  obtain ⟨W0, hW0⟩ : ∃ W0, W0 = (w.alloc (.cells #[.slice an b.ns.length cn, .slice at' b.ts.length ct, .slice ab b.bs.length cb, .int .u64 (b.fe : Nat)] 27)).alloc (.cells #[.int .i64 0, .int .i64 0, .int .i64 0] 29) := ⟨_, rfl⟩
  have HF0 : Hid (Fr2 w W0 [.slice an b.ns.length cn, .slice at' b.ts.length ct, .slice ab b.bs.length cb, .int .u64 (b.fe : Nat)] [.int .i64 0, .int .i64 0, .int .i64 0]) := by rw [hW0]; exact Fr2.made w _ _ _ _
  have HW := Lib.hid hW0
  clear hW0 hB hL hs0 hs1 hs2
  go_enter Tryz.func46, Tryz.ntmps46
  go_upto_region 1 with fail
  rw [← HW.out]
  clear HW
  refine wp_region_list ?_
  refine wpList_load_mid rfl 27 (.tmp 2) rfl (w.heap.size) (0) rfl [.slice an b.ns.length cn, .slice at' b.ts.length ct, .slice ab b.bs.length cb, .int .u64 (b.fe : Nat)] _ (HF0.out.p.range 0) Tryz.underlying27 rfl rfl ?_
  refine wpList_plain rfl fun K hK => ?_
  go_simp
  refine hK _ _ ?_
  clear hK K
  refine wpList_plain rfl fun K hK => ?_
  go_wp2_with fail
  refine (HTH.out W0 HF0.out.b).mono ?_
  rintro e w1 ⟨v1, lm, rfl, ho, hm, hd, hb⟩
  refine hK _ _ ?_
  clear hK K
  have HF1 := Lib.hid (HF0.out.below hb)
  have HO1 := Lib.hid (And.intro ho (And.intro hm (fun x hx => (hd x hx).2)))
  clear ho hm hd hb HF0 HTH
  refine wpList_plain rfl fun K hK => ?_
  go_wp2_with fail
  refine (HSM.out w1 v1 lm _ HO1.out.1 HO1.out.2.1 HO1.out.2.2).mono ?_
  rintro e w2 ⟨rfl, hb⟩
  refine hK _ _ ?_
  clear hK K
  have HF2 := Lib.hid (HF1.out.below hb)
  clear hb HF1 HSM HO1
  refine wpList_plain rfl fun K hK => ?_
  go_simp
  refine hK _ _ ?_
  clear hK K
  refine wpList_plain rfl fun K hK => ?_
  go_simp
  refine hK _ _ ?_
  clear hK K
  refine wpList_plain rfl fun K hK => ?_
  go_simp
  refine hK _ _ ?_
  clear hK K
  refine wpList_plain rfl fun K hK => ?_
  go_simp
  refine hK _ _ ?_
  clear hK K
  obtain ⟨th1, hbz, hx1⟩ := one_made w2 [.int .i64 0, .int .i64 0, .int .i64 0] [.int .i64 s0, .int .i64 s1, .int .i64 s2] 29 rfl
  refine store_l rfl 29 (.tmp 5) (.tmp 12) rfl (w2.heap.size) [.int .i64 s0, .int .i64 s1, .int .i64 s2] rfl rfl th1 rfl rfl ?_
  have HF3 := Lib.hid (HF2.out.below hbz)
  have HY := Lib.hid hx1
  clear th1 hbz hx1 HF2
  generalize hg : w2.heap.size = zA at *
  generalize (w2.alloc (.cells #[.int .i64 0, .int .i64 0, .int .i64 0] 29)).setCells zA 0 [.int .i64 s0, .int .i64 s1, .int .i64 s2] = w3 at *
  clear hg
  refine wpList_plain rfl fun K hK => ?_
  go_simp
  refine hK _ _ ?_
  clear hK K
  refine wpList_nil ?_
  go_upto_region 2 with fail
  refine wp_region_list ?_
  refine wpList_load_mid rfl 29 (.tmp 5) rfl (zA) (0) rfl [.int .i64 s0, .int .i64 s1, .int .i64 s2] _ (HY.out.range 0) Tryz.underlying29 rfl rfl ?_
  have hth := HF3.out.r.there 3 rfl
  refine store_l rfl 29 (.tmp 4) (.tmp 14) rfl (w.heap.size + 1) [.int .i64 s0, .int .i64 s1, .int .i64 s2] rfl rfl hth rfl rfl ?_
  have HF4 := Lib.hid (HF3.out.setR [.int .i64 s0, .int .i64 s1, .int .i64 s2] rfl)
  clear hth HF3 HY
  generalize w3.setCells (w.heap.size + 1) 0 [.int .i64 s0, .int .i64 s1, .int .i64 s2] = w4 at *
  refine wpList_nil ?_
  go_wp2
  exact Hd.bodyPost_bx rfl (w.heap.size + 1) [.int .i64 s0, .int .i64 s1, .int .i64 s2] _ rfl rfl HF4.out.r Tryz.underlying29 rfl rfl ⟨rfl, HF4.out.b⟩
end Bo
end Go.Proofs.YtaipbaegbpebkaaGreat

/- WHAT IS ON A NODE, by the document: gafferref08.node. -/
namespace Go.Proofs.YtaipbaegbpebkaaGreat
open Go.RowKit Go.Lib
namespace Bo
open List renaming setIfInBounds_toArray → zq1, set_cons_zero → zq2, set_cons_succ → zq3, getElem_toArray → zq4, getElem_cons_succ → zq5, getElem_cons_zero → zq6
open Rw
set_option linter.unusedVariables false
/-- Each suits the node, and bears those ahead of it. -/
def spF (n : Hd.Nd) : List Hd.Td → List Hd.Td → Bool
  | _, [] => true
  | d, t :: r => suB t n && (d.all (fun u => beB t u) && spF n (d ++ [t]) r)
theorem sp_step (n : Hd.Nd) (l : List Hd.Td) (k : Nat) (h : k < l.length) : spF n (l.take k) (l.drop k) = (suB l[k] n && ((l.take k).all (fun u => beB l[k] u) && spF n (l.take (k + 1)) (l.drop (k + 1)))) := by
  rw [List.drop_eq_getElem_cons h, List.take_succ_eq_append_getElem h]
  rfl
/-- Whether what is on a node is right. -/
def ndB (b : Bk) (n : Hd.Nd) : Bool := decide (us0 b n.n ≤ n.z0) && (decide (us1 b n.n ≤ n.z1) && (decide (us2 b n.n ≤ n.z2) && spF n [] (thr b.ts b.bs n.n)))
theorem ar0 (z0 z1 z2 : Int) (w : World) : (Instr.index 29 (.agg #[.int .i64 z0, .int .i64 z1, .int .i64 z2]) (.int .i64 0)).run Tryz.prog w = .ok (.int .i64 z0) w := by kernel_rfl
theorem ar1 (z0 z1 z2 : Int) (w : World) : (Instr.index 29 (.agg #[.int .i64 z0, .int .i64 z1, .int .i64 z2]) (.int .i64 1)).run Tryz.prog w = .ok (.int .i64 z1) w := by kernel_rfl
theorem ar2 (z0 z1 z2 : Int) (w : World) : (Instr.index 29 (.agg #[.int .i64 z0, .int .i64 z1, .int .i64 z2]) (.int .i64 2)).run Tryz.prog w = .ok (.int .i64 z2) w := by kernel_rfl
theorem slice_inj2 {a a' : Option Addr} {n n' c c' : Nat} (h : Value.slice a n c = Value.slice a' n' c') : a = a' ∧ c = c' := by
  simp only [Value.slice.injEq] at h
  exact ⟨h.1, h.2.2⟩
theorem all_false {α : Type} {f : α → Bool} (l : List α) (k j : Nat) (hj : j < k) (h : j < l.length) (hf : f l[j] = false) : (l.take k).all f = false := by
  rw [← Bool.not_eq_true, List.all_eq_true]
  intro ha
  have hm : l[j] ∈ l.take k := by
    rw [List.mem_take_iff_getElem]
    exact ⟨j, by omega, rfl⟩
  rw [ha _ hm] at hf
  cases hf
set_option maxRecDepth 100000 in
set_option maxHeartbeats 4000000 in
theorem node_ref8 (b : Bk) (vn vt vb : Value) (y : NdM) (w : World) (hB : Books w w.heap.size vn vt vb b) (hL : Lists b) (hd : DeepN w w.heap.size y) (hf : FitN y.nd) :
    Calls Tryz.prog 56 #[.agg #[vn, vt, vb, .int .u64 (b.fe : Nat)], .agg #[.string y.nd.n, .int .i64 y.nd.z0, .int .i64 y.nd.z1, .int .i64 y.nd.z2, .slice y.a2 y.nd.ls.length y.c2, .slice y.a3 y.nd.ts.length y.c3]] w fun e w' => e = .returned (.bool (ndB b y.nd)) ∧ Below w.heap.size w w' := by
  have HTH : Hid (∀ z, Below w.heap.size w z → Calls Tryz.prog 72 #[.agg #[vn, vt, vb, .int .u64 (b.fe : Nat)], .string y.nd.n] z (ThrIs b y.nd.n z)) := fun z hz => there_ref b vn vt vb y.nd.n z (hB.on hz) hL
  have HSM : Hid (∀ z v' (lm : List TdM) base, Own z base 34 v' lm → lm.map (·.td) = thr b.ts b.bs y.nd.n → (∀ x ∈ lm, FitT x.td) → Calls Tryz.prog 86 #[v'] z fun e w' => e = .returned (.tuple #[.agg #[.int .i64 (us0 b y.nd.n), .int .i64 (us1 b y.nd.n), .int .i64 (us2 b y.nd.n)], .int .i64 0]) ∧ Below z.heap.size z w') := by
    intro z v' lm base ho hm hf
    have hl : lm.length ≤ 32 := by
      have h1 := thr_len b.ts b.bs y.nd.n
      rw [← hm, List.length_map] at h1
      have := hL.lb
      omega
    refine (Rg.sum_ref v' (lm.map tkM) z (own_tasks ho (by omega) hf)).mono ?_
    rintro e w' ⟨he, hb⟩
    have h2 := sum_td hl (fun x hx => hL.kt _ (hL.thr_mem (v := y.nd.n) (by rw [← hm]; exact List.mem_map_of_mem hx))) he
    rw [hm] at h2
    exact ⟨h2, hb⟩
  have HL32 : Hid (∀ l : List Hd.Td, l = thr b.ts b.bs y.nd.n → l.length ≤ 32) := fun l e => by
    have h1 := thr_len b.ts b.bs y.nd.n
    have := hL.lb
    rw [e]
    omega
  obtain ⟨an, cn, rfl⟩ := hB.hn.slice
  obtain ⟨at', ct, rfl⟩ := hB.ht.slice
  obtain ⟨ab, cb, rfl⟩ := hB.hb.slice
  obtain ⟨s0, hs0⟩ : ∃ s, s = us0 b y.nd.n := ⟨_, rfl⟩
  obtain ⟨s1, hs1⟩ : ∃ s, s = us1 b y.nd.n := ⟨_, rfl⟩
  obtain ⟨s2, hs2⟩ : ∃ s, s = us2 b y.nd.n := ⟨_, rfl⟩
  obtain ⟨r, hr⟩ : ∃ r, r = ndB b y.nd := ⟨_, rfl⟩
  have HNB : Hid (r = (decide (s0 ≤ y.nd.z0) && (decide (s1 ≤ y.nd.z1) && (decide (s2 ≤ y.nd.z2) && spF y.nd [] (thr b.ts b.bs y.nd.n))))) := by rw [hr, hs0, hs1, hs2]; exact rfl
  rw [← hs0, ← hs1, ← hs2] at HSM
  rw [← hr]
  have HBE : Hid (∀ (x u : TdM) z, Calls Tryz.prog 78 #[.agg #[.string x.td.n, .int .i64 x.td.z0, .int .i64 x.td.z1, .int .i64 x.td.z2, .slice x.a4 x.td.ws.length x.c4, .slice x.a5 x.td.bs.length x.c5, .string x.td.g, .string x.td.a, .int .i64 x.td.r], .agg #[.string u.td.n, .int .i64 u.td.z0, .int .i64 u.td.z1, .int .i64 u.td.z2, .slice u.a4 u.td.ws.length u.c4, .slice u.a5 u.td.bs.length u.c5, .string u.td.g, .string u.td.a, .int .i64 u.td.r]] z fun e w' => e = .returned (.bool (beB x.td u.td)) ∧ Below z.heap.size z w') := fun x u z => Rg.bear_ref _ _ _ _ _ _ _ _ _ _ _ _ _ _ _ _ _ _ _ _ _ _ _ _ _ _ z
  obtain ⟨W0, hW0⟩ : ∃ W0, W0 = (w.alloc (.cells #[.slice an b.ns.length cn, .slice at' b.ts.length ct, .slice ab b.bs.length cb, .int .u64 (b.fe : Nat)] 27)).alloc (.cells #[.string y.nd.n, .int .i64 y.nd.z0, .int .i64 y.nd.z1, .int .i64 y.nd.z2, .slice y.a2 y.nd.ls.length y.c2, .slice y.a3 y.nd.ts.length y.c3] 32) := ⟨_, rfl⟩
  have HF0 : Hid (Fr2 w W0 [.slice an b.ns.length cn, .slice at' b.ts.length ct, .slice ab b.bs.length cb, .int .u64 (b.fe : Nat)] [.string y.nd.n, .int .i64 y.nd.z0, .int .i64 y.nd.z1, .int .i64 y.nd.z2, .slice y.a2 y.nd.ls.length y.c2, .slice y.a3 y.nd.ts.length y.c3]) := by rw [hW0]; exact Fr2.made w _ _ _ _
  have HSU : Hid (∀ (x : TdM) z, DeepT W0 W0.heap.size x → FitT x.td → Below W0.heap.size W0 z → Below w.heap.size w z → Calls Tryz.prog 76 #[.agg #[.string x.td.n, .int .i64 x.td.z0, .int .i64 x.td.z1, .int .i64 x.td.z2, .slice x.a4 x.td.ws.length x.c4, .slice x.a5 x.td.bs.length x.c5, .string x.td.g, .string x.td.a, .int .i64 x.td.r], .agg #[.string y.nd.n, .int .i64 y.nd.z0, .int .i64 y.nd.z1, .int .i64 y.nd.z2, .slice y.a2 y.nd.ls.length y.c2, .slice y.a3 y.nd.ts.length y.c3]] z fun e w' => e = .returned (.bool (suB x.td y.nd)) ∧ Below z.heap.size z w') := fun x z hdx hfx hz0 hz =>
    Rg.suits_ref _ _ _ _ _ _ _ _ _ _ _ _ _ _ _ _ _ _ _ _ _ _ _ x.td.ws x.td.bs y.nd.ls y.nd.ts z ((hdx.on hz0).pr hfx).1 ((hdx.on hz0).pr hfx).2 ((hd.on hz).pr hf).1 ((hd.on hz).pr hf).2
  have HW := Lib.hid hW0
  clear hW0 hB hL hs0 hs1 hs2 hr hd hf
  go_enter Tryz.func56, Tryz.ntmps56
  go_upto_region 1 with fail
  rw [← HW.out]
  clear HW
  refine wp_region_list ?_
  refine wpList_load_mid rfl 27 (.tmp 2) rfl (w.heap.size) (0) rfl [.slice an b.ns.length cn, .slice at' b.ts.length ct, .slice ab b.bs.length cb, .int .u64 (b.fe : Nat)] _ (HF0.out.p.range 0) Tryz.underlying27 rfl rfl ?_
  refine wpList_plain rfl fun K hK => ?_
  go_simp
  refine hK _ _ ?_
  clear hK K
  have k0 : W0.cell? ⟨w.heap.size + 1, 0, none⟩ = some (.string y.nd.n) := HF0.out.r.cell 0
  refine wpList_plain rfl fun K hK => ?_
  go_simp
  refine hK _ _ ?_
  clear hK K
  clear k0
  refine wpList_plain rfl fun K hK => ?_
  go_wp2_with fail
  refine (HTH.out W0 HF0.out.b).mono ?_
  rintro e w1 ⟨v1, lm, rfl, ho, hm, hd, hb⟩
  refine hK _ _ ?_
  clear hK K
  have HF1 := Lib.hid (HF0.out.below hb)
  have HO1 := Lib.hid ho
  have HM1 := Lib.hid hm
  have HD1 : Hid (∀ x ∈ lm, DeepT W0 W0.heap.size x ∧ FitT x.td) := hd
  have HB0 := Lib.hid HF0.out.b
  have HB01 : Hid (Below W0.heap.size W0 w1) := hb
  clear ho hm hd hb HF0 HTH
  refine wpList_plain rfl fun K hK => ?_
  go_simp
  refine hK _ _ ?_
  clear hK K
  refine wpList_nil ?_
  obtain ⟨g1, n1, rfl⟩ := HO1.out.slice
  have HLL : Hid (lm.length ≤ 32) := by have h := HL32.out _ HM1.out; rw [List.length_map] at h; exact h
  go_upto_region 2 with fail
  refine wp_region_list ?_
  refine wpList_plain rfl fun K hK => ?_
  go_simp
  refine hK _ _ ?_
  clear hK K
  refine wpList_plain rfl fun K hK => ?_
  go_wp2_with fail
  refine (HSM.out w1 _ lm _ HO1.out HM1.out (fun x hx => (HD1.out x hx).2)).mono ?_
  rintro e w2 ⟨rfl, hb⟩
  refine hK _ _ ?_
  clear hK K
  have HF2 := Lib.hid (HF1.out.below hb)
  have HO2 := Lib.hid (HO1.out.keep hb)
  have HB02 : Hid (Below W0.heap.size W0 w2) := HB01.out.trans (hb.mono HB01.out.size)
  clear hb HF1 HO1 HB01 HSM
  refine wpList_plain rfl fun K hK => ?_
  go_simp
  refine hK _ _ ?_
  clear hK K
  refine wpList_plain rfl fun K hK => ?_
  go_simp
  refine hK _ _ ?_
  clear hK K
  refine wpList_plain rfl fun K hK => ?_
  go_simp
  refine hK _ _ ?_
  clear hK K
  refine wpList_plain rfl fun K hK => ?_
  go_simp
  refine hK _ _ ?_
  clear hK K
  obtain ⟨th1, hbz, hx1⟩ := one_made w2 [.int .i64 0, .int .i64 0, .int .i64 0] [.int .i64 s0, .int .i64 s1, .int .i64 s2] 29 rfl
  refine store_l rfl 29 (.tmp 6) (.tmp 21) rfl (w2.heap.size) [.int .i64 s0, .int .i64 s1, .int .i64 s2] rfl rfl th1 rfl rfl ?_
  have HF3 := Lib.hid (HF2.out.below hbz)
  have HO3 := Lib.hid (HO2.out.keep hbz)
  have HY := Lib.hid hx1
  have HB03 : Hid (Below W0.heap.size W0 ((w2.alloc (.cells #[.int .i64 0, .int .i64 0, .int .i64 0] 29)).setCells w2.heap.size 0 [.int .i64 s0, .int .i64 s1, .int .i64 s2])) := HB02.out.trans (hbz.mono HB02.out.size)
  clear th1 hbz hx1 HF2 HO2 HB02
  obtain ⟨zA, hzA⟩ : ∃ q : Nat, q = w2.heap.size := ⟨_, rfl⟩
  rw [← hzA] at HY HF3 HO3 HB03 ⊢
  generalize (w2.alloc (.cells #[.int .i64 0, .int .i64 0, .int .i64 0] 29)).setCells zA 0 [.int .i64 s0, .int .i64 s1, .int .i64 s2] = w3 at *
  clear hzA
  refine wpList_plain rfl fun K hK => ?_
  go_simp
  refine hK _ _ ?_
  clear hK K
  refine wpList_nil ?_
  go_upto_region 3 with fail
  refine wp_region_list ?_
  refine wpList_plain rfl fun K hK => ?_
  go_simp
  refine hK _ _ ?_
  clear hK K
  refine wpList_load_mid rfl 29 (.tmp 23) rfl (w.heap.size + 1) (1) rfl [.int .i64 y.nd.z0, .int .i64 y.nd.z1, .int .i64 y.nd.z2] _ (rng_mid HF3.out.r 1 _ rfl) Tryz.underlying29 rfl rfl ?_
  refine wpList_plain rfl fun K hK => ?_
  go_simp
  refine hK _ _ ?_
  clear hK K
  refine wpList_nil ?_
  go_wp2
  go_loopg [25] 3 (fun gg i wx => ∃ m : Nat, m + gg = 3 ∧ i = .int .i64 m ∧ Aside ((0 < m → s0 ≤ y.nd.z0) ∧ (1 < m → s1 ≤ y.nd.z1) ∧ (2 < m → s2 ≤ y.nd.z2)) ∧ Aside (Below w3.heap.size w3 wx))
  case atStart => exact ⟨0, by omega, rfl, ⟨by omega, by omega, by omega⟩, Below.refl _ _⟩
  case round =>
    obtain ⟨m, hmg, rfl, HQ, HA⟩ := hrel
    have HBr : Hid (Below w3.heap.size w3 wr) := HA.out
    have HQr : Hid ((0 < m → s0 ≤ y.nd.z0) ∧ (1 < m → s1 ≤ y.nd.z1) ∧ (2 < m → s2 ≤ y.nd.z2)) := HQ.out
    clear HA HQ
    cases gk with
    | zero =>
      obtain rfl : m = 3 := by omega
      have HN2 : Hid (r = spF y.nd [] (thr b.ts b.bs y.nd.n)) := by
        have h := HNB.out
        rw [decide_eq_true (HQr.out.1 (by omega)), decide_eq_true (HQr.out.2.1 (by omega)), decide_eq_true (HQr.out.2.2 (by omega))] at h
        exact (by simpa using h : r = spF y.nd [] (thr b.ts b.bs y.nd.n))
      have HF4 := Lib.hid (HF3.out.below HBr.out)
      have HB0F : Hid (Below W0.heap.size W0 wr) := HB03.out.trans (HBr.out.mono HB03.out.size)
      have HO4 := Lib.hid (HO3.out.keep HBr.out)
      obtain ⟨zF, rfl⟩ : ∃ q, q = wr := ⟨wr, rfl⟩
      clear hmg HQr HNB HBr HY HF3 HO3 HB03
      go_wp2
      go_loopg [37] lm.length (fun gg i wx => ∃ k : Nat, k + gg = lm.length ∧ i = .int .i64 k ∧ Aside (r = spF y.nd ((thr b.ts b.bs y.nd.n).take k) ((thr b.ts b.bs y.nd.n).drop k)) ∧ Aside (Below zF.heap.size zF wx))
      case atStart => exact ⟨0, by omega, rfl, HN2.out, Below.refl _ _⟩
      case round =>
        obtain ⟨k, hkg, rfl, HQ, HA⟩ := hrel
        have HBr : Hid (Below zF.heap.size zF wr) := HA.out
        have HQr : Hid (r = spF y.nd ((thr b.ts b.bs y.nd.n).take k) ((thr b.ts b.bs y.nd.n).drop k)) := HQ.out
        have HBw : Hid (Below w.heap.size w wr) := HF4.out.b.trans (HBr.out.mono HF4.out.b.size)
        clear HA HQ HN2
        cases gk with
        | zero =>
          obtain rfl : k = lm.length := by omega
          have HE : Hid (r = true) := by
            have h := HQr.out
            have hl : (thr b.ts b.bs y.nd.n).length ≤ lm.length := by rw [← HM1.out, List.length_map]; exact Nat.le_refl _
            rw [List.drop_eq_nil_of_le hl] at h
            exact h
          clear hkg HQr
          go_wp2
          go_ret
          exact ⟨by rw [HE.out]; rfl, HBw.out⟩
        | succ gg =>
          have hlk : k < lm.length := by omega
          have t2 : (k : Int) < (lm.length : Int) := by omega
          have t3 : IntKind.i64.wrap ((k : Int) + 1) = (k : Int) + 1 := by rw [IntKind.wrap_i64]; have := HLL.out; omega
          have t4 : (0 : Int) ≤ (k : Int) := by omega
          obtain ⟨g, cap, hv, -, hgl, hat, -⟩ := HO4.out.form (by omega)
          obtain ⟨hg1, hc1⟩ := slice_inj2 hv
          subst hg1
          have hcap : lm.length ≤ n1 := by have h := (HO4.out.sl (by have := HLL.out; omega)); obtain ⟨a, c, e, h1, -⟩ := h; rw [(slice_inj2 e).2]; exact h1
          have HATT : Hid (∀ z j (hj : j < lm.length), Below zF.heap.size zF z → At z g (j * 9) lm[j]) := fun z j hj hz => (hat j hj).keep hz hgl
          have HST := Lib.hid (sp_step y.nd (thr b.ts b.bs y.nd.n) k (by rw [← HM1.out, List.length_map]; exact hlk))
          have HTD : Hid (∀ j (hj : j < lm.length) (h2 : j < (thr b.ts b.bs y.nd.n).length), (thr b.ts b.bs y.nd.n)[j] = lm[j].td) := fun j hj h2 => by
            have h := HM1.out
            have h3 : (lm.map (·.td))[j]'(by rw [List.length_map]; exact hj) = (thr b.ts b.bs y.nd.n)[j] := by simp only [h]
            rw [← h3, List.getElem_map]
          have HTL : Hid ((thr b.ts b.bs y.nd.n).length = lm.length) := by show _ = _; rw [← HM1.out, List.length_map]
          have hdk := HD1.out lm[k] (List.getElem_mem hlk)
          have hrow0 := HATT.out wr k hlk HBr.out
          obtain ⟨x2, hx2⟩ : ∃ x2, x2 = lm[k] := ⟨_, rfl⟩
          have HX2 : Hid (x2 = lm[k]) := hx2
          rw [← hx2] at hdk hrow0
          have HDK : Hid (DeepT W0 W0.heap.size x2 ∧ FitT x2.td) := hdk
          have hrow : wr.rangeAt g (k * 9) [.string x2.td.n, .int .i64 x2.td.z0, .int .i64 x2.td.z1, .int .i64 x2.td.z2, .slice x2.a4 x2.td.ws.length x2.c4, .slice x2.a5 x2.td.bs.length x2.c5, .string x2.td.g, .string x2.td.a, .int .i64 x2.td.r] := fun j u hj => hrow0 j u hj
          clear hv hc1 hat hdk hrow0 hx2
          go_upto_region 11 with fail
          refine wp_region_list ?_
          refine wpList_plain rfl fun K hK => ?_
          go_simp
          refine hK _ _ ?_
          clear hK K
          refine wpList_plain rfl fun K hK => ?_
          go_simp
          refine hK _ _ ?_
          clear hK K
          refine wpList_load_mid rfl 34 (.tmp 40) rfl (g) (k * 9) rfl [.string x2.td.n, .int .i64 x2.td.z0, .int .i64 x2.td.z1, .int .i64 x2.td.z2, .slice x2.a4 x2.td.ws.length x2.c4, .slice x2.a5 x2.td.bs.length x2.c5, .string x2.td.g, .string x2.td.a, .int .i64 x2.td.r] _ (hrow) Tryz.underlying34 rfl rfl ?_
          refine wpList_plain rfl fun K hK => ?_
          go_simp
          refine hK _ _ ?_
          clear hK K
          refine wpList_plain rfl fun K hK => ?_
          go_simp
          refine hK _ _ ?_
          clear hK K
          obtain ⟨th1, hbz, hx1⟩ := one_made wr [.string ⟨#[]⟩, .int .i64 0, .int .i64 0, .int .i64 0, .slice none 0 0, .slice none 0 0, .string ⟨#[]⟩, .string ⟨#[]⟩, .int .i64 0] [.string x2.td.n, .int .i64 x2.td.z0, .int .i64 x2.td.z1, .int .i64 x2.td.z2, .slice x2.a4 x2.td.ws.length x2.c4, .slice x2.a5 x2.td.bs.length x2.c5, .string x2.td.g, .string x2.td.a, .int .i64 x2.td.r] 34 rfl
          refine store_l rfl 34 (.tmp 11) (.tmp 41) rfl (wr.heap.size) [.string x2.td.n, .int .i64 x2.td.z0, .int .i64 x2.td.z1, .int .i64 x2.td.z2, .slice x2.a4 x2.td.ws.length x2.c4, .slice x2.a5 x2.td.bs.length x2.c5, .string x2.td.g, .string x2.td.a, .int .i64 x2.td.r] rfl rfl th1 rfl rfl ?_
          have HF5 := Lib.hid ((HF4.out.below HBr.out).below hbz)
          have HB5 : Hid (Below zF.heap.size zF ((wr.alloc (.cells #[.string ⟨#[]⟩, .int .i64 0, .int .i64 0, .int .i64 0, .slice none 0 0, .slice none 0 0, .string ⟨#[]⟩, .string ⟨#[]⟩, .int .i64 0] 34)).setCells wr.heap.size 0 [.string x2.td.n, .int .i64 x2.td.z0, .int .i64 x2.td.z1, .int .i64 x2.td.z2, .slice x2.a4 x2.td.ws.length x2.c4, .slice x2.a5 x2.td.bs.length x2.c5, .string x2.td.g, .string x2.td.a, .int .i64 x2.td.r])) := HBr.out.trans (hbz.mono HBr.out.size)
          have HXa := Lib.hid hx1
          clear th1 hrow hbz hx1 HBr HBw
          obtain ⟨zB, hzB⟩ : ∃ q : Nat, q = wr.heap.size := ⟨_, rfl⟩
          rw [← hzB] at HF5 HB5 HXa ⊢
          generalize (wr.alloc (.cells #[.string ⟨#[]⟩, .int .i64 0, .int .i64 0, .int .i64 0, .slice none 0 0, .slice none 0 0, .string ⟨#[]⟩, .string ⟨#[]⟩, .int .i64 0] 34)).setCells zB 0 [.string x2.td.n, .int .i64 x2.td.z0, .int .i64 x2.td.z1, .int .i64 x2.td.z2, .slice x2.a4 x2.td.ws.length x2.c4, .slice x2.a5 x2.td.bs.length x2.c5, .string x2.td.g, .string x2.td.a, .int .i64 x2.td.r] = w5 at *
          clear hzB
          refine wpList_nil ?_
          go_upto_region 12 with fail
          refine wp_region_list ?_
          refine wpList_load_mid rfl 34 (.tmp 11) rfl (zB) (0) rfl [.string x2.td.n, .int .i64 x2.td.z0, .int .i64 x2.td.z1, .int .i64 x2.td.z2, .slice x2.a4 x2.td.ws.length x2.c4, .slice x2.a5 x2.td.bs.length x2.c5, .string x2.td.g, .string x2.td.a, .int .i64 x2.td.r] _ (HXa.out.range 0) Tryz.underlying34 rfl rfl ?_
          refine wpList_load_mid rfl 32 (.tmp 3) rfl (w.heap.size + 1) (0) rfl [.string y.nd.n, .int .i64 y.nd.z0, .int .i64 y.nd.z1, .int .i64 y.nd.z2, .slice y.a2 y.nd.ls.length y.c2, .slice y.a3 y.nd.ts.length y.c3] _ (HF5.out.r.range 0) Tryz.underlying32 rfl rfl ?_
          refine wpList_plain rfl fun K hK => ?_
          go_wp2_with fail
          refine (HSU.out x2 w5 HDK.out.1 HDK.out.2 (HB0F.out.trans (HB5.out.mono HB0F.out.size)) HF5.out.b).mono ?_
          rintro e w6 ⟨rfl, hb⟩
          refine hK _ _ ?_
          clear hK K
          have HF6 := Lib.hid (HF5.out.below hb)
          have HBz : Hid (Below zF.heap.size zF w6) := HB5.out.trans (hb.mono HB5.out.size)
          have HXb := Lib.hid (HXa.out.below hb)
          have HB6 : Hid (Below w.heap.size w w6) := HF6.out.b
          clear hb HF5 HB5 HXa
          refine wpList_plain rfl fun K hK => ?_
          go_simp
          refine hK _ _ ?_
          clear hK K
          refine wpList_nil ?_
          cases hsu : suB x2.td y.nd with
          | false =>
            have HE : Hid (r = false) := by
              rw [HQr.out, HST.out, HTD.out k hlk (by have := HTL.out; omega), ← HX2.out, hsu]
              rfl
            clear hsu HQr HST
            go_wp2
            go_ret
            exact ⟨by rw [HE.out]; rfl, HB6.out⟩
          | true =>
            have HQ2 : Hid (r = (((thr b.ts b.bs y.nd.n).take k).all (fun u => beB x2.td u) && spF y.nd ((thr b.ts b.bs y.nd.n).take (k + 1)) ((thr b.ts b.bs y.nd.n).drop (k + 1)))) := by
              rw [HQr.out, HST.out, HTD.out k hlk (by have := HTL.out; omega), ← HX2.out, hsu]
              rfl
            clear hsu HQr HST
            have sc1 : ¬ n1 = k := by omega
            have sc2 : (k : Int) ≤ (n1 : Int) := by omega
            have sc3 : k ≤ n1 := by omega
            have HJ : Hid (k + (gg + 1) = lm.length) := hkg
            obtain ⟨zG, rfl⟩ : ∃ q, q = w6 := ⟨w6, rfl⟩
            go_wp2
            go_loopg [50] k (fun g2 i wx => ∃ j : Nat, j + g2 = k ∧ i = .int .i64 j ∧ Aside (((thr b.ts b.bs y.nd.n).take j).all (fun u => beB x2.td u) = true) ∧ Aside (Below zG.heap.size zG wx))
            case atStart => exact ⟨0, by omega, rfl, rfl, Below.refl _ _⟩
            case round =>
              obtain ⟨j, hjg, rfl, HQ, HA⟩ := hrel
              have HBj : Hid (Below zG.heap.size zG wr) := HA.out
              have HQj : Hid (((thr b.ts b.bs y.nd.n).take j).all (fun u => beB x2.td u) = true) := HQ.out
              clear HA HQ
              cases gk with
              | zero =>
                obtain rfl : j = k := by omega
                have HQ3 : Hid (r = spF y.nd ((thr b.ts b.bs y.nd.n).take (j + 1)) ((thr b.ts b.bs y.nd.n).drop (j + 1))) := by rw [HQ2.out, HQj.out]; rfl
                have HBE2 : Hid (Below zF.heap.size zF wr) := HBz.out.trans (HBj.out.mono HBz.out.size)
                clear hjg HQ2 HQj
                go_wp2
                go_roundg gg
                case measure => omega
                case rel => exact ⟨j + 1, by have := HJ.out; omega, by simp, HQ3.out, HBE2.out⟩
              | succ g2 =>
                have hlj : j < k := by omega
                have hlj2 : j < lm.length := by omega
                have t5 : (j : Int) < (k : Int) := by omega
                have t6 : IntKind.i64.wrap ((j : Int) + 1) = (j : Int) + 1 := by rw [IntKind.wrap_i64]; have := HLL.out; omega
                have t7 : (0 : Int) ≤ (j : Int) := by omega
                obtain ⟨x3, hx3⟩ : ∃ x3, x3 = lm[j] := ⟨_, rfl⟩
                have HX3 : Hid (x3 = lm[j]) := hx3
                have hrow0 := HATT.out wr j hlj2 (HBz.out.trans (HBj.out.mono HBz.out.size))
                rw [← hx3] at hrow0
                have hrow : wr.rangeAt g (j * 9) [.string x3.td.n, .int .i64 x3.td.z0, .int .i64 x3.td.z1, .int .i64 x3.td.z2, .slice x3.a4 x3.td.ws.length x3.c4, .slice x3.a5 x3.td.bs.length x3.c5, .string x3.td.g, .string x3.td.a, .int .i64 x3.td.r] := fun j u hj => hrow0 j u hj
                have HXB := Lib.hid (HXb.out.below HBj.out)
                have HSN : Hid (((thr b.ts b.bs y.nd.n).take (j + 1)).all (fun u => beB x2.td u) = beB x2.td x3.td) := by
                  have h2 : j < (thr b.ts b.bs y.nd.n).length := by have := HTL.out; omega
                  show _ = _
                  rw [List.take_succ_eq_append_getElem h2, List.all_append, HQj.out, HTD.out j hlj2 h2, ← HX3.out]
                  simp
                clear hx3 hrow0
                go_upto_region 16 with fail
                refine wp_region_list ?_
                refine wpList_plain rfl fun K hK => ?_
                go_simp
                refine hK _ _ ?_
                clear hK K
                refine wpList_load_mid rfl 34 (.tmp 52) rfl (g) (j * 9) rfl [.string x3.td.n, .int .i64 x3.td.z0, .int .i64 x3.td.z1, .int .i64 x3.td.z2, .slice x3.a4 x3.td.ws.length x3.c4, .slice x3.a5 x3.td.bs.length x3.c5, .string x3.td.g, .string x3.td.a, .int .i64 x3.td.r] _ (hrow) Tryz.underlying34 rfl rfl ?_
                refine wpList_plain rfl fun K hK => ?_
                go_simp
                refine hK _ _ ?_
                clear hK K
                obtain ⟨th1, hbz, hx1⟩ := one_made wr [.string ⟨#[]⟩, .int .i64 0, .int .i64 0, .int .i64 0, .slice none 0 0, .slice none 0 0, .string ⟨#[]⟩, .string ⟨#[]⟩, .int .i64 0] [.string x3.td.n, .int .i64 x3.td.z0, .int .i64 x3.td.z1, .int .i64 x3.td.z2, .slice x3.a4 x3.td.ws.length x3.c4, .slice x3.a5 x3.td.bs.length x3.c5, .string x3.td.g, .string x3.td.a, .int .i64 x3.td.r] 34 rfl
                refine store_l rfl 34 (.tmp 13) (.tmp 53) rfl (wr.heap.size) [.string x3.td.n, .int .i64 x3.td.z0, .int .i64 x3.td.z1, .int .i64 x3.td.z2, .slice x3.a4 x3.td.ws.length x3.c4, .slice x3.a5 x3.td.bs.length x3.c5, .string x3.td.g, .string x3.td.a, .int .i64 x3.td.r] rfl rfl th1 rfl rfl ?_
                have HB7 : Hid (Below zG.heap.size zG ((wr.alloc (.cells #[.string ⟨#[]⟩, .int .i64 0, .int .i64 0, .int .i64 0, .slice none 0 0, .slice none 0 0, .string ⟨#[]⟩, .string ⟨#[]⟩, .int .i64 0] 34)).setCells wr.heap.size 0 [.string x3.td.n, .int .i64 x3.td.z0, .int .i64 x3.td.z1, .int .i64 x3.td.z2, .slice x3.a4 x3.td.ws.length x3.c4, .slice x3.a5 x3.td.bs.length x3.c5, .string x3.td.g, .string x3.td.a, .int .i64 x3.td.r])) := HBj.out.trans (hbz.mono HBj.out.size)
                have HXc := Lib.hid (HXB.out.below hbz)
                have HXd := Lib.hid hx1
                clear th1 hrow hbz hx1 HBj HXB
                obtain ⟨zC, hzC⟩ : ∃ q : Nat, q = wr.heap.size := ⟨_, rfl⟩
                rw [← hzC] at HB7 HXc HXd ⊢
                generalize (wr.alloc (.cells #[.string ⟨#[]⟩, .int .i64 0, .int .i64 0, .int .i64 0, .slice none 0 0, .slice none 0 0, .string ⟨#[]⟩, .string ⟨#[]⟩, .int .i64 0] 34)).setCells zC 0 [.string x3.td.n, .int .i64 x3.td.z0, .int .i64 x3.td.z1, .int .i64 x3.td.z2, .slice x3.a4 x3.td.ws.length x3.c4, .slice x3.a5 x3.td.bs.length x3.c5, .string x3.td.g, .string x3.td.a, .int .i64 x3.td.r] = w7 at *
                clear hzC
                refine wpList_nil ?_
                go_upto_region 17 with fail
                refine wp_region_list ?_
                refine wpList_load_mid rfl 34 (.tmp 11) rfl (zB) (0) rfl [.string x2.td.n, .int .i64 x2.td.z0, .int .i64 x2.td.z1, .int .i64 x2.td.z2, .slice x2.a4 x2.td.ws.length x2.c4, .slice x2.a5 x2.td.bs.length x2.c5, .string x2.td.g, .string x2.td.a, .int .i64 x2.td.r] _ (HXc.out.range 0) Tryz.underlying34 rfl rfl ?_
                refine wpList_load_mid rfl 34 (.tmp 13) rfl (zC) (0) rfl [.string x3.td.n, .int .i64 x3.td.z0, .int .i64 x3.td.z1, .int .i64 x3.td.z2, .slice x3.a4 x3.td.ws.length x3.c4, .slice x3.a5 x3.td.bs.length x3.c5, .string x3.td.g, .string x3.td.a, .int .i64 x3.td.r] _ (HXd.out.range 0) Tryz.underlying34 rfl rfl ?_
                refine wpList_plain rfl fun K hK => ?_
                go_wp2_with fail
                refine (HBE.out x2 x3 w7).mono ?_
                rintro e w8 ⟨rfl, hb⟩
                refine hK _ _ ?_
                clear hK K
                have HBn : Hid (Below zG.heap.size zG w8) := HB7.out.trans (hb.mono HB7.out.size)
                have HB8 : Hid (Below w.heap.size w w8) := HB6.out.trans (HBn.out.mono HB6.out.size)
                clear hb HB7 HXc HXd
                refine wpList_plain rfl fun K hK => ?_
                go_simp
                refine hK _ _ ?_
                clear hK K
                refine wpList_nil ?_
                cases hbe : beB x2.td x3.td with
                | false =>
                  have HE : Hid (r = false) := by
                    have h2 : j < (thr b.ts b.bs y.nd.n).length := by have := HTL.out; omega
                    show r = false
                    rw [HQ2.out, all_false _ k j (by omega) h2 (by rw [HTD.out j hlj2 h2, ← HX3.out]; exact hbe)]
                    rfl
                  clear hbe HQ2 HSN
                  go_wp2
                  go_ret
                  exact ⟨by rw [HE.out]; rfl, HB8.out⟩
                | true =>
                  have HQN : Hid (((thr b.ts b.bs y.nd.n).take (j + 1)).all (fun u => beB x2.td u) = true) := by rw [HSN.out]; exact hbe
                  clear hbe HSN
                  go_wp2
                  go_roundg g2
                  case measure => omega
                  case rel => exact ⟨j + 1, by omega, by simp, HQN.out, HBn.out⟩
    | succ gg =>
      have HYr := Lib.hid (HY.out.below HBr.out)
      have HBw : Hid (Below w.heap.size w wr) := HF3.out.b.trans (HBr.out.mono HF3.out.b.size)
      rcases (by omega : m = 0 ∨ m = 1 ∨ m = 2) with rfl | rfl | rfl
      · have i0 := ar0 y.nd.z0 y.nd.z1 y.nd.z2
        have c0 : wr.cell? ⟨zA, 0, none⟩ = some (.int .i64 s0) := HYr.out.cell 0
        by_cases hc : y.nd.z0 < s0
        · have HE : Hid (r = false) := by show r = false; rw [HNB.out, decide_eq_false (p := s0 ≤ y.nd.z0) (by omega)]; simp
          clear HNB
          go_wp2
          go_ret
          exact ⟨by rw [HE.out]; rfl, HBw.out⟩
        · have HC : Hid (s0 ≤ y.nd.z0) := by show _ ≤ _; omega
          go_wp2
          go_roundg gg
          case measure => omega
          case rel => exact ⟨1, by omega, rfl, ⟨fun h => HC.out, fun h => by omega, fun h => by omega⟩, HBr.out⟩
      · have i0 := ar1 y.nd.z0 y.nd.z1 y.nd.z2
        have c0 : wr.cell? ⟨zA, 1, none⟩ = some (.int .i64 s1) := HYr.out.cell 1
        by_cases hc : y.nd.z1 < s1
        · have HE : Hid (r = false) := by show r = false; rw [HNB.out, decide_eq_false (p := s1 ≤ y.nd.z1) (by omega)]; simp
          clear HNB
          go_wp2
          go_ret
          exact ⟨by rw [HE.out]; rfl, HBw.out⟩
        · have HC : Hid (s1 ≤ y.nd.z1) := by show _ ≤ _; omega
          go_wp2
          go_roundg gg
          case measure => omega
          case rel => exact ⟨2, by omega, rfl, ⟨fun h => HQr.out.1 (by omega), fun h => HC.out, fun h => by omega⟩, HBr.out⟩
      · have i0 := ar2 y.nd.z0 y.nd.z1 y.nd.z2
        have c0 : wr.cell? ⟨zA, 2, none⟩ = some (.int .i64 s2) := HYr.out.cell 2
        by_cases hc : y.nd.z2 < s2
        · have HE : Hid (r = false) := by show r = false; rw [HNB.out, decide_eq_false (p := s2 ≤ y.nd.z2) (by omega)]; simp
          clear HNB
          go_wp2
          go_ret
          exact ⟨by rw [HE.out]; rfl, HBw.out⟩
        · have HC : Hid (s2 ≤ y.nd.z2) := by show _ ≤ _; omega
          go_wp2
          go_roundg gg
          case measure => omega
          case rel => exact ⟨3, by omega, rfl, ⟨fun h => HQr.out.1 (by omega), fun h => HQr.out.2.1 (by omega), fun h => HC.out⟩, HBr.out⟩
end Bo
end Go.Proofs.YtaipbaegbpebkaaGreat
