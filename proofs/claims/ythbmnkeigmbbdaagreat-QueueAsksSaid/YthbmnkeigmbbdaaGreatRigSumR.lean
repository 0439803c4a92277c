/-
  SUMS, second part: the document's Sum.
-/
import Derived.Test.YthbmnkeigmbbdaaGreatRigSum
namespace Go.Proofs.YthbmnkeigmbbdaaGreat
open Go.RowKit
namespace Rg
set_option maxRecDepth 100000 in
set_option maxHeartbeats 4000000 in
theorem sum_ref (v : Value) (l : List Tk) (w : World) (hv : Tasks w w.heap.size v l) :
    Calls Tryz.prog 153 #[v] w fun e w' => SumIs l e ∧ Below w.heap.size w w' := by
  obtain ⟨a, c, rfl, hl, -, hc⟩ := hv
  have HC := Lib.hid hc
  clear hc
  by_cases hbig : (32 : Int) < (l.length : Int)
  · have HN := Lib.hid (sumE_big l (by omega))
    go_enter Tryz.func153, Tryz.ntmps153
    go_wp2
    refine bodyPost_arr rfl w.heap.size 0 0 0 rfl rfl ?_ ?_ ?_ ?_
    case refine_1 => go_simp
    case refine_2 => go_simp
    case refine_3 => go_simp
    case refine_4 => exact ⟨.bad HN.out, two _ _ _⟩
  · have HL := Lib.hid (show ¬ 32 < l.length by omega)
    go_enter Tryz.func153, Tryz.ntmps153
    go_wp2
    go_loopg [15] l.length (fun g i wx => ∃ k : Nat, k + g = l.length ∧ i = .int .i64 k ∧ Aside (okT (l.take k) = true) ∧ Aside (Three wx w.heap.size 0 0 0) ∧ Aside (Three wx (w.heap.size + 1) (sm (·.z0) (l.take k)) (sm (·.z1) (l.take k)) (sm (·.z2) (l.take k))) ∧ Below w.heap.size w wx)
    case atStart => exact ⟨0, by omega, rfl, by show _ = _; simp [okT], (Three.made _ _ _ _).alloc _, Three.made1 _ _ _ _ _, two _ _ _⟩
    case round =>
      obtain ⟨k, hkg, rfl, HA, HB, HD, hbx⟩ := hrel
      have HX := Lib.hid hbx
      obtain ⟨p0, p1, p2, q0, q1, q2⟩ := HB.out.cells
      obtain ⟨r0, r1, r2, s0, s1, s2⟩ := HD.out.cells
      have hszr := HD.out.lt
      cases gk with
      | zero =>
        obtain rfl : k = l.length := by omega
        have HN := Lib.hid (sumE_ok l HL.out (by have := HA.out; rwa [List.take_length] at this))
        rw [List.take_length] at r0 r1 r2
        have HS := Lib.hid (SumIs.ok HN.out)
        generalize sm (·.z0) l = t0 at *
        generalize sm (·.z1) l = t1 at *
        generalize sm (·.z2) l = t2 at *
        clear hkg hbx
        go_wp2
        refine bodyPost_arr rfl w.heap.size t0 t1 t2 rfl rfl ?_ ?_ ?_ ?_
        case refine_1 => go_simp
        case refine_2 => go_simp
        case refine_3 => go_simp
        case refine_4 => exact ⟨HS.out, ((HX.out.setCell (Nat.le_refl _) _).setCell (Nat.le_refl _) _).setCell (Nat.le_refl _) _⟩
      | succ g =>
        have hlk : k < l.length := by omega
        have HG := Lib.hid hkg
        have HOK := Lib.hid (ok_snoc l k hlk)
        have HBAD := Lib.hid (ok_bad l k hlk)
        have HS0 := Lib.hid (sm_snoc (·.z0) l k hlk)
        have HS1 := Lib.hid (sm_snoc (·.z1) l k hlk)
        have HS2 := Lib.hid (sm_snoc (·.z2) l k hlk)
        have HLE := Lib.hid (sm_all (l.take k) HA.out)
        have hk32 : (l.take k).length ≤ 32 := by have := HL.out; rw [List.length_take]; omega
        obtain ⟨b, off, rfl, hblt, hcc⟩ := HC.out (by omega)
        obtain ⟨c0, c1, c2, c3, c4, c5, c6, c7, c8⟩ := hcc k hlk
        have kp : ∀ o, wr.cell? ⟨b, o, none⟩ = w.cell? ⟨b, o, none⟩ := fun o => hbx.cell (by exact hblt)
        rw [← kp] at c0 c1 c2 c3 c4 c5 c6 c7 c8
        clear hkg hbx kp hcc
        generalize l[k] = t at *
        generalize sm (·.z0) (l.take k) = y0 at *
        generalize sm (·.z1) (l.take k) = y1 at *
        generalize sm (·.z2) (l.take k) = y2 at *
        rcases t with ⟨tn, tg, ta, z0, z1, z2, tr, twa, twn, twc, tba, tbn, tbc⟩
        simp only at c0 c1 c2 c3 c4 c5 c6 c7 c8
        have hne : w.heap.size ≠ wr.heap.size := by omega
        have hne2 : w.heap.size + 1 ≠ wr.heap.size := by omega
        have U1 : Hid (∀ w, Calls Tryz.prog 198 #[.agg #[.int .i64 z0, .int .i64 z1, .int .i64 z2], .int .i64 1] w fun e w' => e = .returned (.bool (uptoB z0 z1 z2 1099511627776)) ∧ Below w.heap.size w w') := fun w => amounts_1 z0 z1 z2 w
        obtain ⟨wo, rfl⟩ : ∃ wo : World, wo = wr := ⟨_, rfl⟩
        cases hup : uptoB z0 z1 z2 1099511627776
        · rw [hup] at U1
          have HN := Lib.hid (sumE_bad l HL.out (HBAD.out hup))
          clear hup
          go_wp2_with fail
          refine (U1.out _).mono ?_
          rintro e w1 ⟨rfl, hb⟩
          have T0 := HB.out.kept (w' := w1) ((hb.block _ (by simp; omega)).trans (Below.heap_alloc _ _ _ (by omega)))
          have HW := Lib.hid ((HX.out.alloc (by omega) _).trans (hb.mono (by simp; omega)))
          obtain ⟨p0', p1', p2', q0', q1', q2'⟩ := T0.cells
          clear hb T0
          go_wp2
          refine bodyPost_arr rfl w.heap.size 0 0 0 rfl rfl ?_ ?_ ?_ ?_
          case refine_1 => go_simp
          case refine_2 => go_simp
          case refine_3 => go_simp
          case refine_4 => exact ⟨.bad HN.out, ((HW.out.setCell (Nat.le_refl _) _).setCell (Nat.le_refl _) _).setCell (Nat.le_refl _) _⟩
        · rw [hup] at U1
          have HK : Hid (okT (l.take (k + 1)) = true) := by
            show _ = _
            rw [HOK.out, HA.out, show okK ⟨tn, tg, ta, z0, z1, z2, tr, twa, twn, twc, tba, tbn, tbc⟩ = true from hup]; rfl
          obtain ⟨⟨e0, e0'⟩, ⟨e1, e1'⟩, e2, e2'⟩ := upto_in _ _ _ _ hup
          obtain ⟨⟨l0, l0'⟩, ⟨l1, l1'⟩, l2, l2'⟩ := HLE.out
          have x0 : IntKind.i64.wrap (y0 + z0) = y0 + z0 := by rw [IntKind.wrap_i64]; omega
          have x1 : IntKind.i64.wrap (y1 + z1) = y1 + z1 := by rw [IntKind.wrap_i64]; omega
          have x2 : IntKind.i64.wrap (y2 + z2) = y2 + z2 := by rw [IntKind.wrap_i64]; omega
          have I0 := arr0 z0 z1 z2
          have I1 := arr1 z0 z1 z2
          have I2 := arr2 z0 z1 z2
          clear hup
          go_wp2_with fail
          refine (U1.out _).mono ?_
          rintro e w1 ⟨rfl, hb⟩
          have T0 := Lib.hid (HB.out.kept (w' := w1) ((hb.block _ (by simp; omega)).trans (Below.heap_alloc _ _ _ (by omega))))
          have T1 := Lib.hid (HD.out.kept (w' := w1) ((hb.block _ (by simp; omega)).trans (Below.heap_alloc _ _ _ (by omega))))
          have HW := Lib.hid ((HX.out.alloc (by omega) _).trans (hb.mono (by simp; omega)))
          have g1 : w1.cell? ⟨wo.heap.size, 1, none⟩ = some (.int .i64 z0) := by rw [hb.cell (by simp)]; simp [go_sem]
          have g2 : w1.cell? ⟨wo.heap.size, 2, none⟩ = some (.int .i64 z1) := by rw [hb.cell (by simp)]; simp [go_sem]
          have g3 : w1.cell? ⟨wo.heap.size, 3, none⟩ = some (.int .i64 z2) := by rw [hb.cell (by simp)]; simp [go_sem]
          clear hb
          go_wp2
          go_loopg [26] 3 (fun g2 i wx => ∃ m : Nat, m + g2 = 3 ∧ i = .int .i64 m ∧ Aside (Three wx w.heap.size 0 0 0) ∧ Aside (Three wx (w.heap.size + 1) (pick m 0 y0 (y0 + z0)) (pick m 1 y1 (y1 + z1)) (pick m 2 y2 (y2 + z2))) ∧ Below w.heap.size w wx)
          case atStart => exact ⟨0, by omega, rfl, T0.out, T1.out, HW.out⟩
          case round =>
            obtain ⟨m, hmg, rfl, HE, HF, hby⟩ := hrel
            have HY := Lib.hid hby
            clear hby
            cases gk with
            | zero =>
              obtain rfl : m = 3 := by omega
              clear hmg
              go_wp2
              go_roundg g
              case measure => omega
              case rel =>
                refine ⟨k + 1, by have := HG.out; omega, by go_num, HK.out, HE.out, ?_, HY.out⟩
                show Three _ _ _ _ _
                rw [HS0.out, HS1.out, HS2.out]
                exact HF.out
            | succ g2 =>
              have HG2 := Lib.hid hmg
              have h3 : m = 0 ∨ m = 1 ∨ m = 2 := by omega
              clear hmg
              rcases h3 with rfl | rfl | rfl
              · obtain ⟨n0, n1, n2, m0, m1, m2⟩ := HF.out.cells
                have N0 : wr.cell? ⟨w.heap.size + 1, 0, none⟩ = some (.int .i64 y0) := n0
                clear n0 n1 n2
                go_wp2
                go_roundg g2
                case measure => omega
                case rel => exact ⟨1, by have := HG2.out; omega, rfl, HE.out.far (by simp) _, HF.out.set0 _, HY.out.setCell (by show w.heap.size ≤ w.heap.size + 1; omega) _⟩
              · obtain ⟨n0, n1, n2, m0, m1, m2⟩ := HF.out.cells
                have N1 : wr.cell? ⟨w.heap.size + 1, 1, none⟩ = some (.int .i64 y1) := n1
                clear n0 n1 n2
                go_wp2
                go_roundg g2
                case measure => omega
                case rel => exact ⟨2, by have := HG2.out; omega, rfl, HE.out.far (by simp) _, HF.out.set1 _, HY.out.setCell (by show w.heap.size ≤ w.heap.size + 1; omega) _⟩
              · obtain ⟨n0, n1, n2, m0, m1, m2⟩ := HF.out.cells
                have N2 : wr.cell? ⟨w.heap.size + 1, 2, none⟩ = some (.int .i64 y2) := n2
                clear n0 n1 n2
                go_wp2
                go_roundg g2
                case measure => omega
                case rel => exact ⟨3, by have := HG2.out; omega, rfl, HE.out.far (by simp) _, HF.out.set2 _, HY.out.setCell (by show w.heap.size ≤ w.heap.size + 1; omega) _⟩
end Rg
end Go.Proofs.YthbmnkeigmbbdaaGreat
