/-
  CONTRACT: the document's own Check.
-/
import Derived.Test.YtgahilemlnoabaaGreatDisk
namespace Go.Proofs.YtgahilemlnoabaaGreat
open Go.RowKit
namespace Dk

set_option maxRecDepth 100000 in
set_option maxHeartbeats 1000000 in
theorem check_ref (v : Value) (dn : Bool) (fu : Int) (fs : List Fl) (w : World) (hv : Files w w.heap.size v fs) :
    Calls Tryz.prog 25 #[.agg #[v, .bool dn, .int .i64 fu]] w fun e w' => e = .returned (.int .i64 (chkN fs : Nat)) ∧ Below w.heap.size w w' := by
  obtain ⟨a, c, rfl, hl, hs, hc⟩ := hv
  have HS := Lib.hid hs
  have HC := Lib.hid hc
  clear hs hc
  by_cases hbig : 4096 < fs.length
  · have HN : Hid (chkN fs = 10) := by show _ = _; unfold chkN; rw [if_pos hbig]
    have t1 : (4096 : Int) < (fs.length : Int) := by omega
    go_enter Tryz.func25, Tryz.ntmps25
    go_wp2
    go_ret
    exact ⟨by rw [HN.out]; rfl, (Below.refl _ _).alloc (Nat.le_refl _) _⟩
  · have t1 : (fs.length : Int) ≤ 4096 := by omega
    go_enter Tryz.func25, Tryz.ntmps25
    have FB : ∀ {wx : World}, Below (w.heap.size + 1) (w.alloc (.cells #[.slice a fs.length c, .bool dn, .int .i64 fu] 24)) wx → Below w.heap.size w wx :=
      fun h => ((Below.refl _ _).alloc (Nat.le_refl _) _).trans (h.mono (by omega))
    go_wp2
    go_loopg [12] fs.length (fun g i wx => ∃ k : Nat, k + g = fs.length ∧ i = .int .i64 k ∧ Aside (okTo fs k = true) ∧ Below (w.heap.size + 1) (w.alloc (.cells #[.slice a fs.length c, .bool dn, .int .i64 fu] 24)) wx)
    case atStart => exact ⟨0, by omega, rfl, rfl, Below.refl _ _⟩
    case round =>
      obtain ⟨k, hkg, rfl, HO, hbx⟩ := hrel
      cases gk with
      | zero =>
        obtain rfl : k = fs.length := by omega
        have HN := Lib.hid (chk_good fs hbig HO.out)
        have HX := Lib.hid hbx
        clear hkg hbx
        go_wp2
        go_ret
        exact ⟨by rw [HN.out]; rfl, ((Below.refl _ _).alloc (Nat.le_refl _) _).trans (HX.out.mono (by omega))⟩
      | succ g =>
        have hlk : k < fs.length := by omega
        have HG := Lib.hid hkg
        clear hkg
        obtain ⟨b, off, rfl, hblt, hc⟩ := HC.out (by omega)
        have hd0 : wr.cell? ⟨w.heap.size, 0, none⟩ = some (.slice (some ⟨b, off, none⟩) fs.length c) := by rw [hbx.cell (by simp)]; simp [go_sem]
        have keep : ∀ o u, w.cell? ⟨b, o, none⟩ = some u → wr.cell? ⟨b, o, none⟩ = some u := by
          intro o u hu
          rw [hbx.cell (by simp; omega), World.cell?_alloc_lt _ _ _ (by exact hblt)]
          exact hu
        obtain ⟨c1, c2, c3⟩ := hc k hlk
        have hc1 := keep _ _ c1
        have hc2 := keep _ _ c2
        have hc3 := keep _ _ c3
        have hsz := hbx.size
        simp at hsz
        obtain ⟨hda, hs1, hs2⟩ := HS.out fs[k] (List.getElem_mem hlk)
        have hne : b ≠ wr.heap.size := by omega
        have HX := Lib.hid hbx
        have HKeep := Lib.hid keep
        have HCC := Lib.hid hc
        clear hbx keep hc c1 c2 c3
        by_cases hk0 : k = 0
        · subst hk0
          have HA := Lib.hid (okAt_zero fs hlk)
          simp only [Nat.zero_mul, Nat.add_zero] at hc1 hc2 hc3
          generalize fs[0] = f at *
          have t3 : decide ((0 : Int) < 0) = false := by simp
          by_cases hs0 : f.sy < 0
          · have HN := Lib.hid (chk_bad fs 0 hlk (by rw [HA.out]; simp [hs0]))
            go_wp2
            go_quiet (fail)
            go_wp2
            go_ret
            exact ⟨by rw [HN.out]; rfl, bdN (((FB HX.out).alloc (by omega) _)) _⟩
          · by_cases hs3 : (f.da.size : Int) < f.sy
            · have HN := Lib.hid (chk_bad fs 0 hlk (by rw [HA.out]; simp [hs3]))
              have t4 : decide (f.sy < 0) = false := by simpa using hs0
              go_wp2
              go_quiet (fail)
              go_wp2
              go_ret
              exact ⟨by rw [HN.out]; rfl, bdN (((FB HX.out).alloc (by omega) _)) _⟩
            · have HN := Lib.hid (show okAt fs 0 = true by rw [HA.out]; simp; omega)
              have t4 : decide (f.sy < 0) = false := by simpa using hs0
              have t5 : decide ((f.da.size : Int) < f.sy) = false := by simpa using hs3
              go_wp2
              go_quiet (fail)
              go_wp2
              go_roundg g
              case measure => omega
              case rel => exact ⟨1, by have := HG.out; omega, rfl, by show _ = _; rw [okTo_succ, HO.out, HN.out]; rfl, bdN ((HX.out.alloc (by omega) _)) _⟩
        · obtain ⟨j, rfl⟩ : ∃ j, k = j + 1 := ⟨k - 1, by omega⟩
          have HA := Lib.hid (okAt_succ fs j hlk)
          obtain ⟨d1, d2, d3⟩ := HCC.out j (by omega)
          have hp1 := HKeep.out _ _ d1
          clear d1 d2 d3 hk0
          generalize fs[j + 1] = f at *
          generalize fs[j] = p at *
          have t2 : (0 : Int) < (j : Int) + 1 := by omega
          have hA0 : ∀ o, (wr.alloc o).cell? ⟨w.heap.size, 0, none⟩ = some (.slice (some ⟨b, off, none⟩) fs.length c) := fun o => by rw [World.cell?_alloc_lt _ _ _ (by show w.heap.size < _; omega)]; exact hd0
          have hA1 : ∀ o, (wr.alloc o).cell? ⟨b, off + j * 3, none⟩ = some (.string p.nm) := fun o => by rw [World.cell?_alloc_lt _ _ _ (by show b < _; omega)]; exact hp1
          have t6 : IntKind.i64.wrap ((j : Int) + 1 - 1) = (j : Int) := by rw [IntKind.wrap_i64]; omega
          have t7 : (0 : Int) ≤ (j : Int) := by omega
          have t8 : (j : Int) < (fs.length : Int) := by omega
          by_cases hs0 : f.sy < 0
          · have HN := Lib.hid (chk_bad fs (j + 1) hlk (by rw [HA.out]; simp [hs0]))
            go_wp2
            go_quiet (fail)
            go_wp2
            go_ret
            exact ⟨by rw [HN.out]; rfl, bdN (((FB HX.out).alloc (by omega) _)) _⟩
          · have t4 : decide (f.sy < 0) = false := by simpa using hs0
            by_cases hs3 : (f.da.size : Int) < f.sy
            · have HN := Lib.hid (chk_bad fs (j + 1) hlk (by rw [HA.out]; simp [hs3]))
              go_wp2
              go_quiet (fail)
              go_wp2
              go_ret
              exact ⟨by rw [HN.out]; rfl, bdN (((FB HX.out).alloc (by omega) _)) _⟩
            · have t5 : decide ((f.da.size : Int) < f.sy) = false := by simpa using hs3
              cases hB : Op.bytesLess p.nm.toList f.nm.toList
              · have HN := Lib.hid (chk_bad fs (j + 1) hlk (by rw [HA.out, hB]; simp))
                go_wp2
                go_quiet (fail)
                go_wp2
                go_ret
                exact ⟨by rw [HN.out]; rfl, bdN (((FB HX.out).alloc (by omega) _)) _⟩
              · have HN := Lib.hid (show okAt fs (j + 1) = true by rw [HA.out, hB]; simp; omega)
                go_wp2
                go_quiet (fail)
                go_wp2
                go_roundg g
                case measure => omega
                case rel => exact ⟨j + 2, by have := HG.out; omega, by go_num, by show _ = _; rw [okTo_succ, HO.out, HN.out]; rfl, bdN ((HX.out.alloc (by omega) _)) _⟩
end Dk
end Go.Proofs.YtgahilemlnoabaaGreat
