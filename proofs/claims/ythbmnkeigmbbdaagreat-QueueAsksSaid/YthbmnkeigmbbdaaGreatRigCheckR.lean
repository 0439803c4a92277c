/-
  CHECKS, second part: the document's CheckTask.
-/
import Derived.Test.YthbmnkeigmbbdaaGreatRigCheck
namespace Go.Proofs.YthbmnkeigmbbdaaGreat
open Go.RowKit
namespace Rg
set_option maxRecDepth 100000 in
set_option maxHeartbeats 4000000 in
theorem task_ref (xn xg xa : ByteArray) (x0 x1 x2 xr : Int) (xwa xba : Option Addr) (xwn xwc xbn xbc : Nat) (ws bs : List Pr) (w : World) (hs : xn.size ≤ maxLen ∧ xg.size ≤ maxLen ∧ xa.size ≤ maxLen) (h1 : Pairs w w.heap.size (.slice xwa xwn xwc) ws) (h2 : Pairs w w.heap.size (.slice xba xbn xbc) bs) :
    Calls Tryz.prog 151 #[.agg #[.string xn, .int .i64 x0, .int .i64 x1, .int .i64 x2, .slice xwa xwn xwc, .slice xba xbn xbc, .string xg, .string xa, .int .i64 xr]] w fun e w' => e = .returned (.int .i64 (taskE xn xg xa x0 x1 x2 xr ws bs : Nat)) ∧ Below w.heap.size w w' := by
  have H1 := Lib.hid (fun w => name_ref xn w hs.1)
  have HG := Lib.hid (fun w => name_ref xg w hs.2.1)
  have HA := Lib.hid (fun w => name_ref xa w hs.2.2)
  have HU : Hid (∀ w, Calls Tryz.prog 198 #[.agg #[.int .i64 x0, .int .i64 x1, .int .i64 x2], .int .i64 1] w fun e w' => e = .returned (.bool (uptoB x0 x1 x2 1099511627776)) ∧ Below w.heap.size w w') := fun w => amounts_1 x0 x1 x2 w
  have HP1 : Hid (∀ x, Below w.heap.size w x → Calls Tryz.prog 199 #[.slice xwa xwn xwc] x fun e w' => e = .returned (.bool (prB ws)) ∧ Below x.heap.size x w') := fun x hb => pairs_ref _ _ x (h1.ovr hb)
  have HP2 : Hid (∀ x, Below w.heap.size w x → Calls Tryz.prog 199 #[.slice xba xbn xbc] x fun e w' => e = .returned (.bool (prB bs)) ∧ Below x.heap.size x w') := fun x hb => pairs_ref _ _ x (h2.ovr hb)
  have HE : Hid (taskE xn xg xa x0 x1 x2 xr ws bs = if nameB xn = true then (if uptoB x0 x1 x2 1099511627776 = true then (if xr < -1000 then 1 else if 1000 < xr then 1 else if prB ws = true then (if prB bs = true then (if noeB xg = true then (if noeB xa = true then 0 else 4) else 4) else 4) else 4) else 1) else 5) := rfl
  have HG0 : Hid (xg.toList = [] → noeB xg = true) := fun h => by unfold noeB; simp [h]
  have HG1 : Hid (¬ xg.toList = [] → noeB xg = nameB xg) := fun h => by unfold noeB; simp [h]
  have HA0 : Hid (xa.toList = [] → noeB xa = true) := fun h => by unfold noeB; simp [h]
  have HA1 : Hid (¬ xa.toList = [] → noeB xa = nameB xa) := fun h => by unfold noeB; simp [h]
  have HB0 := Lib.hid (Below.refl (w.alloc (.cells #[.string xn, .int .i64 x0, .int .i64 x1, .int .i64 x2, .slice xwa xwn xwc, .slice xba xbn xbc, .string xg, .string xa, .int .i64 xr] 42)).heap.size (w.alloc (.cells #[.string xn, .int .i64 x0, .int .i64 x1, .int .i64 x2, .slice xwa xwn xwc, .slice xba xbn xbc, .string xg, .string xa, .int .i64 xr] 42)))
  clear h1 h2 hs
  generalize nameB xn = r1 at *
  generalize uptoB x0 x1 x2 1099511627776 = r2 at *
  generalize prB ws = r3 at *
  generalize prB bs = r4 at *
  generalize noeB xg = r5 at *
  generalize noeB xa = r6 at *
  generalize nameB xg = q5 at *
  generalize nameB xa = q6 at *
  go_enter Tryz.func151, Tryz.ntmps151
  go_wp2_with fail
  refine (H1.out _).mono ?_
  rintro e w' ⟨rfl, rfl⟩
  cases r1
  · have HN : Hid (taskE xn xg xa x0 x1 x2 xr ws bs = 5) := HE.out
    go_wp2
    go_ret
    exact ⟨by rw [HN.out]; rfl, (boxed1 HB0.out).2⟩
  · go_wp2_with fail
    refine (HU.out _).mono ?_
    rintro e w1 ⟨rfl, hb⟩
    have HB1 := Lib.hid (HB0.out.trans (hb.mono HB0.out.size))
    clear hb
    have c1 := (boxed1 HB1.out).1
    cases r2
    · have HN : Hid (taskE xn xg xa x0 x1 x2 xr ws bs = 1) := HE.out
      go_wp2
      go_ret
      exact ⟨by rw [HN.out]; rfl, (boxed1 HB1.out).2⟩
    · by_cases hr : xr < -1000
      · have HN : Hid (taskE xn xg xa x0 x1 x2 xr ws bs = 1) := HE.out.trans (if_pos hr)
        go_wp2
        go_ret
        exact ⟨by rw [HN.out]; rfl, (boxed1 HB1.out).2⟩
      · have hr2 : decide (xr < -1000) = false := by simpa using hr
        have HE2 := Lib.hid (HE.out.trans (if_neg hr))
        by_cases hq : 1000 < xr
        · have HN : Hid (taskE xn xg xa x0 x1 x2 xr ws bs = 1) := HE2.out.trans (if_pos hq)
          go_wp2
          go_ret
          exact ⟨by rw [HN.out]; rfl, (boxed1 HB1.out).2⟩
        · have hq2 : decide (1000 < xr) = false := by simpa using hq
          have HE3 := Lib.hid (HE2.out.trans (if_neg hq))
          clear HE2 HE hr hq
          go_wp2_with fail
          refine (HP1.out _ (boxed1 HB1.out).2).mono ?_
          rintro e w2 ⟨rfl, hb⟩
          have HB2 := Lib.hid (HB1.out.trans (hb.mono HB1.out.size))
          clear hb c1
          have c2 := (boxed1 HB2.out).1
          cases r3
          · have HN : Hid (taskE xn xg xa x0 x1 x2 xr ws bs = 4) := HE3.out
            go_wp2
            go_ret
            exact ⟨by rw [HN.out]; rfl, (boxed1 HB2.out).2⟩
          · go_wp2_with fail
            refine (HP2.out _ (boxed1 HB2.out).2).mono ?_
            rintro e w3 ⟨rfl, hb⟩
            have HB3 := Lib.hid (HB2.out.trans (hb.mono HB2.out.size))
            clear hb c2
            have c3 := (boxed1 HB3.out).1
            cases r4
            · have HN : Hid (taskE xn xg xa x0 x1 x2 xr ws bs = 4) := HE3.out
              go_wp2
              go_ret
              exact ⟨by rw [HN.out]; rfl, (boxed1 HB3.out).2⟩
            · by_cases hg : xg.toList = []
              · obtain rfl : r5 = true := HG0.out hg
                by_cases ha : xa.toList = []
                · obtain rfl : r6 = true := HA0.out ha
                  have HN : Hid (taskE xn xg xa x0 x1 x2 xr ws bs = 0) := HE3.out
                  go_wp2
                  go_ret
                  exact ⟨by rw [HN.out]; rfl, (boxed1 HB3.out).2⟩
                · obtain rfl : r6 = q6 := HA1.out ha
                  have ha2 : xa.toList.isEmpty = false := by simpa using ha
                  go_wp2_with fail
                  refine (HA.out _).mono ?_
                  rintro e w' ⟨rfl, rfl⟩
                  cases r6
                  · have HN : Hid (taskE xn xg xa x0 x1 x2 xr ws bs = 4) := HE3.out
                    go_wp2
                    go_ret
                    exact ⟨by rw [HN.out]; rfl, (boxed1 HB3.out).2⟩
                  · have HN : Hid (taskE xn xg xa x0 x1 x2 xr ws bs = 0) := HE3.out
                    go_wp2
                    go_ret
                    exact ⟨by rw [HN.out]; rfl, (boxed1 HB3.out).2⟩
              · obtain rfl : r5 = q5 := HG1.out hg
                have hg2 : xg.toList.isEmpty = false := by simpa using hg
                go_wp2_with fail
                refine (HG.out _).mono ?_
                rintro e w' ⟨rfl, rfl⟩
                cases r5
                · have HN : Hid (taskE xn xg xa x0 x1 x2 xr ws bs = 4) := HE3.out
                  go_wp2
                  go_ret
                  exact ⟨by rw [HN.out]; rfl, (boxed1 HB3.out).2⟩
                · by_cases ha : xa.toList = []
                  · obtain rfl : r6 = true := HA0.out ha
                    have HN : Hid (taskE xn xg xa x0 x1 x2 xr ws bs = 0) := HE3.out
                    go_wp2
                    go_ret
                    exact ⟨by rw [HN.out]; rfl, (boxed1 HB3.out).2⟩
                  · obtain rfl : r6 = q6 := HA1.out ha
                    have ha2 : xa.toList.isEmpty = false := by simpa using ha
                    go_wp2_with fail
                    refine (HA.out _).mono ?_
                    rintro e w' ⟨rfl, rfl⟩
                    cases r6
                    · have HN : Hid (taskE xn xg xa x0 x1 x2 xr ws bs = 4) := HE3.out
                      go_wp2
                      go_ret
                      exact ⟨by rw [HN.out]; rfl, (boxed1 HB3.out).2⟩
                    · have HN : Hid (taskE xn xg xa x0 x1 x2 xr ws bs = 0) := HE3.out
                      go_wp2
                      go_ret
                      exact ⟨by rw [HN.out]; rfl, (boxed1 HB3.out).2⟩
end Rg
end Go.Proofs.YthbmnkeigmbbdaaGreat
