/-
  CHECKS of nodes and of tasks, the program's and the document's.
-/
import Derived.Test.YthbmnkeigmbbdaaGreatRigPairsR
import Derived.Test.YthbmnkeigmbbdaaGreatRgA
namespace Go.Proofs.YthbmnkeigmbbdaaGreat
open Go.RowKit
namespace Rg
def nodeE (n : ByteArray) (x0 x1 x2 : Int) (ls ts : List Pr) : Nat := if nameB n = true then (if uptoB x0 x1 x2 1099511627776 = true then (if prB ls = true then (if prB ts = true then 0 else 4) else 4) else 1) else 5
def taskE (n g a : ByteArray) (x0 x1 x2 r : Int) (ws bs : List Pr) : Nat :=
  if nameB n = true then (if uptoB x0 x1 x2 1099511627776 = true then (if r < -1000 then 1 else if 1000 < r then 1 else if prB ws = true then (if prB bs = true then (if noeB g = true then (if noeB a = true then 0 else 4) else 4) else 4) else 4) else 1) else 5
theorem Pairs.ovr {w w' : World} {v : Value} {ps : List Pr} (h : Pairs w w.heap.size v ps) (hb : Below w.heap.size w w') : Pairs w' w'.heap.size v ps := (h.keep hb).more hb.size
theorem boxed1 {w w1 : World} {a : Array Value} {t : TypeId} (hb : Below (w.alloc (.cells a t)).heap.size (w.alloc (.cells a t)) w1) : (∀ i, w1.cell? ⟨w.heap.size, i, none⟩ = a[i]?) ∧ Below w.heap.size w w1 := by
  refine ⟨fun i => ?_, (one_ w _).trans (hb.mono (by simp))⟩
  rw [hb.cell (by simp)]
  simp [go_sem]
set_option maxRecDepth 100000 in
set_option maxHeartbeats 2000000 in
theorem node_any (xn : ByteArray) (x0 x1 x2 : Int) (xla xta : Option Addr) (xln xlc xtn xtc : Nat) (ls ts : List Pr) (w : World) (hs : xn.size ≤ maxLen) (h1 : Pairs w w.heap.size (.slice xla xln xlc) ls) (h2 : Pairs w w.heap.size (.slice xta xtn xtc) ts) :
    Calls Tryz.prog 61 #[.agg #[.string xn, .int .i64 x0, .int .i64 x1, .int .i64 x2, .slice xla xln xlc, .slice xta xtn xtc]] w fun e w' => e = .returned (.int .i64 (nodeE xn x0 x1 x2 ls ts : Nat)) ∧ Below w.heap.size w w' := by
  have H1 := Lib.hid (fun w => name_any xn w hs)
  have HU : Hid (∀ w, Calls Tryz.prog 118 #[.agg #[.int .i64 x0, .int .i64 x1, .int .i64 x2], .int .i64 1099511627776] w fun e w' => e = .returned (.bool (uptoB x0 x1 x2 1099511627776)) ∧ Below w.heap.size w w') := fun w => upto_any x0 x1 x2 _ w
  have HP1 : Hid (∀ x, Below w.heap.size w x → Calls Tryz.prog 119 #[.slice xla xln xlc] x fun e w' => e = .returned (.bool (prB ls)) ∧ Below x.heap.size x w') := fun x hb => right_any _ _ x (h1.ovr hb)
  have HP2 : Hid (∀ x, Below w.heap.size w x → Calls Tryz.prog 119 #[.slice xta xtn xtc] x fun e w' => e = .returned (.bool (prB ts)) ∧ Below x.heap.size x w') := fun x hb => right_any _ _ x (h2.ovr hb)
  have HE : Hid (nodeE xn x0 x1 x2 ls ts = if nameB xn = true then (if uptoB x0 x1 x2 1099511627776 = true then (if prB ls = true then (if prB ts = true then 0 else 4) else 4) else 1) else 5) := rfl
  have HB0 := Lib.hid (Below.refl (w.alloc (.cells #[.string xn, .int .i64 x0, .int .i64 x1, .int .i64 x2, .slice xla xln xlc, .slice xta xtn xtc] 45)).heap.size (w.alloc (.cells #[.string xn, .int .i64 x0, .int .i64 x1, .int .i64 x2, .slice xla xln xlc, .slice xta xtn xtc] 45)))
  clear h1 h2
  generalize nameB xn = r1 at *
  generalize uptoB x0 x1 x2 1099511627776 = r2 at *
  generalize prB ls = r3 at *
  generalize prB ts = r4 at *
  go_enter Tryz.func61, Tryz.ntmps61
  go_wp2_with fail
  refine (H1.out _).mono ?_
  rintro e w' ⟨rfl, rfl⟩
  cases r1
  · have HN : Hid (nodeE xn x0 x1 x2 ls ts = 5) := HE.out
    go_wp2
    go_ret
    exact ⟨by rw [HN.out]; rfl, (boxed1 HB0.out).2⟩
  · go_wp2_with fail
    refine (HU.out _).mono ?_
    rintro e w1 ⟨rfl, hb⟩
    have HB1 := Lib.hid (HB0.out.trans (hb.mono HB0.out.size))
    clear hb
    have c1 := (boxed1 HB1.out).1
    cases r2
    · have HN : Hid (nodeE xn x0 x1 x2 ls ts = 1) := HE.out
      go_wp2
      go_ret
      exact ⟨by rw [HN.out]; rfl, (boxed1 HB1.out).2⟩
    · go_wp2_with fail
      refine (HP1.out _ (boxed1 HB1.out).2).mono ?_
      rintro e w2 ⟨rfl, hb⟩
      have HB2 := Lib.hid (HB1.out.trans (hb.mono HB1.out.size))
      clear hb c1
      have c2 := (boxed1 HB2.out).1
      cases r3
      · have HN : Hid (nodeE xn x0 x1 x2 ls ts = 4) := HE.out
        go_wp2
        go_ret
        exact ⟨by rw [HN.out]; rfl, (boxed1 HB2.out).2⟩
      · go_wp2_with fail
        refine (HP2.out _ (boxed1 HB2.out).2).mono ?_
        rintro e w3 ⟨rfl, hb⟩
        have HB3 := Lib.hid (HB2.out.trans (hb.mono HB2.out.size))
        clear hb c2
        have c3 := (boxed1 HB3.out).1
        cases r4
        · have HN : Hid (nodeE xn x0 x1 x2 ls ts = 4) := HE.out
          go_wp2
          go_ret
          exact ⟨by rw [HN.out]; rfl, (boxed1 HB3.out).2⟩
        · have HN : Hid (nodeE xn x0 x1 x2 ls ts = 0) := HE.out
          go_wp2
          go_ret
          exact ⟨by rw [HN.out]; rfl, (boxed1 HB3.out).2⟩
set_option maxRecDepth 100000 in
set_option maxHeartbeats 2000000 in
theorem node_ref (xn : ByteArray) (x0 x1 x2 : Int) (xla xta : Option Addr) (xln xlc xtn xtc : Nat) (ls ts : List Pr) (w : World) (hs : xn.size ≤ maxLen) (h1 : Pairs w w.heap.size (.slice xla xln xlc) ls) (h2 : Pairs w w.heap.size (.slice xta xtn xtc) ts) :
    Calls Tryz.prog 150 #[.agg #[.string xn, .int .i64 x0, .int .i64 x1, .int .i64 x2, .slice xla xln xlc, .slice xta xtn xtc]] w fun e w' => e = .returned (.int .i64 (nodeE xn x0 x1 x2 ls ts : Nat)) ∧ Below w.heap.size w w' := by
  have H1 := Lib.hid (fun w => name_ref xn w hs)
  have HU : Hid (∀ w, Calls Tryz.prog 198 #[.agg #[.int .i64 x0, .int .i64 x1, .int .i64 x2], .int .i64 1] w fun e w' => e = .returned (.bool (uptoB x0 x1 x2 1099511627776)) ∧ Below w.heap.size w w') := fun w => amounts_1 x0 x1 x2 w
  have HP1 : Hid (∀ x, Below w.heap.size w x → Calls Tryz.prog 199 #[.slice xla xln xlc] x fun e w' => e = .returned (.bool (prB ls)) ∧ Below x.heap.size x w') := fun x hb => pairs_ref _ _ x (h1.ovr hb)
  have HP2 : Hid (∀ x, Below w.heap.size w x → Calls Tryz.prog 199 #[.slice xta xtn xtc] x fun e w' => e = .returned (.bool (prB ts)) ∧ Below x.heap.size x w') := fun x hb => pairs_ref _ _ x (h2.ovr hb)
  have HE : Hid (nodeE xn x0 x1 x2 ls ts = if nameB xn = true then (if uptoB x0 x1 x2 1099511627776 = true then (if prB ls = true then (if prB ts = true then 0 else 4) else 4) else 1) else 5) := rfl
  have HB0 := Lib.hid (Below.refl (w.alloc (.cells #[.string xn, .int .i64 x0, .int .i64 x1, .int .i64 x2, .slice xla xln xlc, .slice xta xtn xtc] 45)).heap.size (w.alloc (.cells #[.string xn, .int .i64 x0, .int .i64 x1, .int .i64 x2, .slice xla xln xlc, .slice xta xtn xtc] 45)))
  clear h1 h2
  generalize nameB xn = r1 at *
  generalize uptoB x0 x1 x2 1099511627776 = r2 at *
  generalize prB ls = r3 at *
  generalize prB ts = r4 at *
  go_enter Tryz.func150, Tryz.ntmps150
  go_wp2_with fail
  refine (H1.out _).mono ?_
  rintro e w' ⟨rfl, rfl⟩
  cases r1
  · have HN : Hid (nodeE xn x0 x1 x2 ls ts = 5) := HE.out
    go_wp2
    go_ret
    exact ⟨by rw [HN.out]; rfl, (boxed1 HB0.out).2⟩
  · go_wp2_with fail
    refine (HU.out _).mono ?_
    rintro e w1 ⟨rfl, hb⟩
    have HB1 := Lib.hid (HB0.out.trans (hb.mono HB0.out.size))
    clear hb
    have c1 := (boxed1 HB1.out).1
    cases r2
    · have HN : Hid (nodeE xn x0 x1 x2 ls ts = 1) := HE.out
      go_wp2
      go_ret
      exact ⟨by rw [HN.out]; rfl, (boxed1 HB1.out).2⟩
    · go_wp2_with fail
      refine (HP1.out _ (boxed1 HB1.out).2).mono ?_
      rintro e w2 ⟨rfl, hb⟩
      have HB2 := Lib.hid (HB1.out.trans (hb.mono HB1.out.size))
      clear hb c1
      have c2 := (boxed1 HB2.out).1
      cases r3
      · have HN : Hid (nodeE xn x0 x1 x2 ls ts = 4) := HE.out
        go_wp2
        go_ret
        exact ⟨by rw [HN.out]; rfl, (boxed1 HB2.out).2⟩
      · go_wp2_with fail
        refine (HP2.out _ (boxed1 HB2.out).2).mono ?_
        rintro e w3 ⟨rfl, hb⟩
        have HB3 := Lib.hid (HB2.out.trans (hb.mono HB2.out.size))
        clear hb c2
        have c3 := (boxed1 HB3.out).1
        cases r4
        · have HN : Hid (nodeE xn x0 x1 x2 ls ts = 4) := HE.out
          go_wp2
          go_ret
          exact ⟨by rw [HN.out]; rfl, (boxed1 HB3.out).2⟩
        · have HN : Hid (nodeE xn x0 x1 x2 ls ts = 0) := HE.out
          go_wp2
          go_ret
          exact ⟨by rw [HN.out]; rfl, (boxed1 HB3.out).2⟩
set_option maxRecDepth 100000 in
set_option maxHeartbeats 4000000 in
theorem task_any (xn xg xa : ByteArray) (x0 x1 x2 xr : Int) (xwa xba : Option Addr) (xwn xwc xbn xbc : Nat) (ws bs : List Pr) (w : World) (hs : xn.size ≤ maxLen ∧ xg.size ≤ maxLen ∧ xa.size ≤ maxLen) (h1 : Pairs w w.heap.size (.slice xwa xwn xwc) ws) (h2 : Pairs w w.heap.size (.slice xba xbn xbc) bs) :
    Calls Tryz.prog 64 #[.agg #[.string xn, .int .i64 x0, .int .i64 x1, .int .i64 x2, .slice xwa xwn xwc, .slice xba xbn xbc, .string xg, .string xa, .int .i64 xr]] w fun e w' => e = .returned (.int .i64 (taskE xn xg xa x0 x1 x2 xr ws bs : Nat)) ∧ Below w.heap.size w w' := by
  have H1 := Lib.hid (fun w => name_any xn w hs.1)
  have HG := Lib.hid (fun w => noe_any xg w hs.2.1)
  have HA := Lib.hid (fun w => noe_any xa w hs.2.2)
  have HU : Hid (∀ w, Calls Tryz.prog 118 #[.agg #[.int .i64 x0, .int .i64 x1, .int .i64 x2], .int .i64 1099511627776] w fun e w' => e = .returned (.bool (uptoB x0 x1 x2 1099511627776)) ∧ Below w.heap.size w w') := fun w => upto_any x0 x1 x2 _ w
  have HP1 : Hid (∀ x, Below w.heap.size w x → Calls Tryz.prog 119 #[.slice xwa xwn xwc] x fun e w' => e = .returned (.bool (prB ws)) ∧ Below x.heap.size x w') := fun x hb => right_any _ _ x (h1.ovr hb)
  have HP2 : Hid (∀ x, Below w.heap.size w x → Calls Tryz.prog 119 #[.slice xba xbn xbc] x fun e w' => e = .returned (.bool (prB bs)) ∧ Below x.heap.size x w') := fun x hb => right_any _ _ x (h2.ovr hb)
  have HE : Hid (taskE xn xg xa x0 x1 x2 xr ws bs = if nameB xn = true then (if uptoB x0 x1 x2 1099511627776 = true then (if xr < -1000 then 1 else if 1000 < xr then 1 else if prB ws = true then (if prB bs = true then (if noeB xg = true then (if noeB xa = true then 0 else 4) else 4) else 4) else 4) else 1) else 5) := rfl
  have HB0 := Lib.hid (Below.refl (w.alloc (.cells #[.string xn, .int .i64 x0, .int .i64 x1, .int .i64 x2, .slice xwa xwn xwc, .slice xba xbn xbc, .string xg, .string xa, .int .i64 xr] 42)).heap.size (w.alloc (.cells #[.string xn, .int .i64 x0, .int .i64 x1, .int .i64 x2, .slice xwa xwn xwc, .slice xba xbn xbc, .string xg, .string xa, .int .i64 xr] 42)))
  clear h1 h2 hs
  generalize nameB xn = r1 at *
  generalize uptoB x0 x1 x2 1099511627776 = r2 at *
  generalize prB ws = r3 at *
  generalize prB bs = r4 at *
  generalize noeB xg = r5 at *
  generalize noeB xa = r6 at *
  go_enter Tryz.func64, Tryz.ntmps64
  go_wp2_with fail
  refine (H1.out _).mono ?_
  rintro e w' ⟨rfl, rfl⟩
  cases r1
  · have HN : Hid (taskE xn xg xa x0 x1 x2 xr ws bs = 5) := HE.out
    go_wp2
    go_ret
    exact ⟨by rw [HN.out]; rfl, (boxed1 HB0.out).2⟩
  · go_wp2_with fail
    refine (HU.out _).mono ?_
    rintro e w1 ⟨rfl, hb⟩
    have HB1 := Lib.hid (HB0.out.trans (hb.mono HB0.out.size))
    clear hb
    have c1 := (boxed1 HB1.out).1
    cases r2
    · have HN : Hid (taskE xn xg xa x0 x1 x2 xr ws bs = 1) := HE.out
      go_wp2
      go_ret
      exact ⟨by rw [HN.out]; rfl, (boxed1 HB1.out).2⟩
    · by_cases hr : xr < -1000
      · have HN : Hid (taskE xn xg xa x0 x1 x2 xr ws bs = 1) := HE.out.trans (if_pos hr)
        go_wp2
        go_ret
        exact ⟨by rw [HN.out]; rfl, (boxed1 HB1.out).2⟩
      · have hr2 : decide (xr < -1000) = false := by simpa using hr
        have HE2 := Lib.hid (HE.out.trans (if_neg hr))
        by_cases hq : 1000 < xr
        · have HN : Hid (taskE xn xg xa x0 x1 x2 xr ws bs = 1) := HE2.out.trans (if_pos hq)
          go_wp2
          go_ret
          exact ⟨by rw [HN.out]; rfl, (boxed1 HB1.out).2⟩
        · have hq2 : decide (1000 < xr) = false := by simpa using hq
          have HE3 := Lib.hid (HE2.out.trans (if_neg hq))
          clear HE2 HE hr hq
          go_wp2_with fail
          refine (HP1.out _ (boxed1 HB1.out).2).mono ?_
          rintro e w2 ⟨rfl, hb⟩
          have HB2 := Lib.hid (HB1.out.trans (hb.mono HB1.out.size))
          clear hb c1
          have c2 := (boxed1 HB2.out).1
          cases r3
          · have HN : Hid (taskE xn xg xa x0 x1 x2 xr ws bs = 4) := HE3.out
            go_wp2
            go_ret
            exact ⟨by rw [HN.out]; rfl, (boxed1 HB2.out).2⟩
          · go_wp2_with fail
            refine (HP2.out _ (boxed1 HB2.out).2).mono ?_
            rintro e w3 ⟨rfl, hb⟩
            have HB3 := Lib.hid (HB2.out.trans (hb.mono HB2.out.size))
            clear hb c2
            have c3 := (boxed1 HB3.out).1
            cases r4
            · have HN : Hid (taskE xn xg xa x0 x1 x2 xr ws bs = 4) := HE3.out
              go_wp2
              go_ret
              exact ⟨by rw [HN.out]; rfl, (boxed1 HB3.out).2⟩
            · go_wp2_with fail
              refine (HG.out _).mono ?_
              rintro e w' ⟨rfl, rfl⟩
              cases r5
              · have HN : Hid (taskE xn xg xa x0 x1 x2 xr ws bs = 4) := HE3.out
                go_wp2
                go_ret
                exact ⟨by rw [HN.out]; rfl, (boxed1 HB3.out).2⟩
              · go_wp2_with fail
                refine (HA.out _).mono ?_
                rintro e w' ⟨rfl, rfl⟩
                cases r6
                · have HN : Hid (taskE xn xg xa x0 x1 x2 xr ws bs = 4) := HE3.out
                  go_wp2
                  go_ret
                  exact ⟨by rw [HN.out]; rfl, (boxed1 HB3.out).2⟩
                · have HN : Hid (taskE xn xg xa x0 x1 x2 xr ws bs = 0) := HE3.out
                  go_wp2
                  go_ret
                  exact ⟨by rw [HN.out]; rfl, (boxed1 HB3.out).2⟩
end Rg
end Go.Proofs.YthbmnkeigmbbdaaGreat
