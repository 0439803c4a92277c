/-
  A SCORE, second part: the document's Score.
-/
import Derived.Test.YthnajkpnchaciaaScoreChkR
import Derived.Test.YthnajkpnchaciaaScoreSco
namespace Go.Proofs.Ythnajkpnchaciaa
open Go.RowKit
namespace Rg
set_option maxRecDepth 100000 in
set_option maxHeartbeats 8000000 in
theorem score_ref (yn yg ya : ByteArray) (y0 y1 y2 yr : Int) (ywa yba : Option Addr) (ywn ywc ybn ybc : Nat) (xn : ByteArray) (x0 x1 x2 : Int) (xla xta : Option Addr) (xln xlc xtn xtc : Nat) (xu0 xu1 xu2 : Int) (ws bs ls ts : List Pr) (w : World) (hx : xn.size ≤ maxLen) (hy : yn.size ≤ maxLen ∧ yg.size ≤ maxLen ∧ ya.size ≤ maxLen)
    (h1 : Pairs w w.heap.size (.slice ywa ywn ywc) ws) (h2 : Pairs w w.heap.size (.slice yba ybn ybc) bs) (h3 : Pairs w w.heap.size (.slice xla xln xlc) ls) (h4 : Pairs w w.heap.size (.slice xta xtn xtc) ts) :
    Calls Try.prog 10 #[.agg #[.string yn, .int .i64 y0, .int .i64 y1, .int .i64 y2, .slice ywa ywn ywc, .slice yba ybn ybc, .string yg, .string ya, .int .i64 yr], .agg #[.string xn, .int .i64 x0, .int .i64 x1, .int .i64 x2, .slice xla xln xlc, .slice xta xtn xtc, .int .i64 xu0, .int .i64 xu1, .int .i64 xu2]] w fun e w' => ScoreIs (fitE (taskE yn yg ya y0 y1 y2 yr ws bs) (loadE xn x0 x1 x2 ls ts xu0 xu1 xu2) (suitB ws ls ts bs) (roomB x0 x1 x2 xu0 xu1 xu2 y0 y1 y2)) (sumS x0 x1 x2 xu0 xu1 xu2 y0 y1 y2) e ∧ Below w.heap.size w w' := by
  have K1 : Hid (∀ z, Below w.heap.size w z → Calls Try.prog 20 #[.agg #[.string yn, .int .i64 y0, .int .i64 y1, .int .i64 y2, .slice ywa ywn ywc, .slice yba ybn ybc, .string yg, .string ya, .int .i64 yr]] z fun e w' => e = .returned (.int .i64 (taskE yn yg ya y0 y1 y2 yr ws bs : Nat)) ∧ Below z.heap.size z w') := fun z hb => task_ref yn yg ya y0 y1 y2 yr ywa yba ywn ywc ybn ybc ws bs z hy (h1.ovr hb) (h2.ovr hb)
  have K2 : Hid (∀ z, Below w.heap.size w z → Calls Try.prog 13 #[.agg #[.string xn, .int .i64 x0, .int .i64 x1, .int .i64 x2, .slice xla xln xlc, .slice xta xtn xtc, .int .i64 xu0, .int .i64 xu1, .int .i64 xu2]] z fun e w' => e = .returned (.int .i64 (loadE xn x0 x1 x2 ls ts xu0 xu1 xu2 : Nat)) ∧ Below z.heap.size z w') := fun z hb => lcheck_ref xn x0 x1 x2 xla xta xln xlc xtn xtc xu0 xu1 xu2 ls ts z hx (h3.ovr hb) (h4.ovr hb)
  have K3 : Hid (∀ z, Below w.heap.size w z → Calls Try.prog 21 #[.agg #[.string yn, .int .i64 y0, .int .i64 y1, .int .i64 y2, .slice ywa ywn ywc, .slice yba ybn ybc, .string yg, .string ya, .int .i64 yr], .agg #[.string xn, .int .i64 x0, .int .i64 x1, .int .i64 x2, .slice xla xln xlc, .slice xta xtn xtc]] z fun e w' => e = .returned (.bool (suitB ws ls ts bs)) ∧ Below z.heap.size z w') := fun z hb => suits_ref yn yg ya y0 y1 y2 yr ywa yba ywn ywc ybn ybc xn x0 x1 x2 xla xta xln xlc xtn xtc ws bs ls ts z (h1.ovr hb) (h2.ovr hb) (h3.ovr hb) (h4.ovr hb)
  have K4 : Hid (∀ z, Calls Try.prog 22 #[.agg #[.string xn, .int .i64 x0, .int .i64 x1, .int .i64 x2, .slice xla xln xlc, .slice xta xtn xtc], .agg #[.int .i64 xu0, .int .i64 xu1, .int .i64 xu2], .agg #[.int .i64 y0, .int .i64 y1, .int .i64 y2]] z fun e w' => e = .returned (.bool (roomB x0 x1 x2 xu0 xu1 xu2 y0 y1 y2)) ∧ Below z.heap.size z w') := fun z => room_ref xn x0 x1 x2 xla xta xln xlc xtn xtc xu0 xu1 xu2 y0 y1 y2 z
  have K5 : Hid (roomB x0 x1 x2 xu0 xu1 xu2 y0 y1 y2 = true → ((0 ≤ xu0 ∧ 0 ≤ y0 ∧ xu0 + y0 ≤ x0 ∧ x0 ≤ 1099511627776) ∧ (0 ≤ xu1 ∧ 0 ≤ y1 ∧ xu1 + y1 ≤ x1 ∧ x1 ≤ 1099511627776) ∧ (0 ≤ xu2 ∧ 0 ≤ y2 ∧ xu2 + y2 ≤ x2 ∧ x2 ≤ 1099511627776)) ∧
      (0 ≤ kS x0 xu0 y0 ∧ kS x0 xu0 y0 ≤ 1000) ∧ (0 ≤ kS x1 xu1 y1 ∧ kS x1 xu1 y1 ≤ 1000) ∧ (0 ≤ kS x2 xu2 y2 ∧ kS x2 xu2 y2 ≤ 1000)) := by
    intro h
    have hin := room_in _ _ _ _ _ _ _ _ _ h
    exact ⟨hin, kS_in x0 xu0 y0 (by omega) (by omega), kS_in x1 xu1 y1 (by omega) (by omega), kS_in x2 xu2 y2 (by omega) (by omega)⟩
  have HE : Hid (∀ te le s r, fitE te le s r = if te = 0 then (if le = 0 then (if s = true then (if r = true then 0 else 13) else 13) else le) else te) := fun _ _ _ _ => rfl
  have HB0 := Lib.hid (Below.refl ((w.alloc (.cells #[.string yn, .int .i64 y0, .int .i64 y1, .int .i64 y2, .slice ywa ywn ywc, .slice yba ybn ybc, .string yg, .string ya, .int .i64 yr] 25)).alloc (.cells #[.string xn, .int .i64 x0, .int .i64 x1, .int .i64 x2, .slice xla xln xlc, .slice xta xtn xtc, .int .i64 xu0, .int .i64 xu1, .int .i64 xu2] 29)).heap.size ((w.alloc (.cells #[.string yn, .int .i64 y0, .int .i64 y1, .int .i64 y2, .slice ywa ywn ywc, .slice yba ybn ybc, .string yg, .string ya, .int .i64 yr] 25)).alloc (.cells #[.string xn, .int .i64 x0, .int .i64 x1, .int .i64 x2, .slice xla xln xlc, .slice xta xtn xtc, .int .i64 xu0, .int .i64 xu1, .int .i64 xu2] 29)))
  have HS : Hid (sumS x0 x1 x2 xu0 xu1 xu2 y0 y1 y2 = kS x0 xu0 y0 + kS x1 xu1 y1 + kS x2 xu2 y2) := rfl
  have T0 : Hid (sumT x0 x1 x2 xu0 xu1 xu2 y0 y1 y2 0 = 0) := rfl
  have T1 : Hid (sumT x0 x1 x2 xu0 xu1 xu2 y0 y1 y2 1 = kS x0 xu0 y0) := rfl
  have T2 : Hid (sumT x0 x1 x2 xu0 xu1 xu2 y0 y1 y2 2 = kS x0 xu0 y0 + kS x1 xu1 y1) := rfl
  have T3 : Hid (sumT x0 x1 x2 xu0 xu1 xu2 y0 y1 y2 3 = sumS x0 x1 x2 xu0 xu1 xu2 y0 y1 y2) := rfl
  have P0 := Lib.hid (kS_pos x0 xu0 y0)
  have P1 := Lib.hid (kS_pos x1 xu1 y1)
  have P2 := Lib.hid (kS_pos x2 xu2 y2)
  have Q0 := Lib.hid (kS_no x0 xu0 y0)
  have Q1 := Lib.hid (kS_no x1 xu1 y1)
  have Q2 := Lib.hid (kS_no x2 xu2 y2)
  clear h1 h2 h3 h4 hx hy
  generalize kS x0 xu0 y0 = s0 at *
  generalize kS x1 xu1 y1 = s1 at *
  generalize kS x2 xu2 y2 = s2 at *
  generalize taskE yn yg ya y0 y1 y2 yr ws bs = te at *
  generalize loadE xn x0 x1 x2 ls ts xu0 xu1 xu2 = le at *
  generalize suitB ws ls ts bs = s at *
  generalize roomB x0 x1 x2 xu0 xu1 xu2 y0 y1 y2 = r at *
  have A0 := arr0 x0 x1 x2
  have A1 := arr1 x0 x1 x2
  have A2 := arr2 x0 x1 x2
  go_enter Try.func10, Try.ntmps10
  go_wp2_with fail
  refine (K1.out _ (boxedL HB0.out).2.2).mono ?_
  rintro e w1 ⟨rfl, hb⟩
  have HB1 := Lib.hid (HB0.out.trans (hb.mono HB0.out.size))
  clear hb
  obtain ⟨c0, c1, -⟩ := boxedL HB1.out
  by_cases ht : te = 0
  · subst ht
    go_wp2_with fail
    refine (K2.out _ (boxedL HB1.out).2.2).mono ?_
    rintro e w2 ⟨rfl, hb⟩
    have HB2 := Lib.hid (HB1.out.trans (hb.mono HB1.out.size))
    clear hb c0 c1
    obtain ⟨c0, c1, -⟩ := boxedL HB2.out
    by_cases hl : le = 0
    · subst hl
      go_wp2_with fail
      refine (K3.out _ (boxedL HB2.out).2.2).mono ?_
      rintro e w3 ⟨rfl, hb⟩
      have HB3 := Lib.hid (HB2.out.trans (hb.mono HB2.out.size))
      clear hb c0 c1
      obtain ⟨c0, c1, -⟩ := boxedL HB3.out
      cases s
      · have HN : Hid (fitE 0 0 false r = 13) := HE.out _ _ _ _
        go_wp2
        go_ret2
        exact ⟨by rw [HN.out]; exact ScoreIs.no (by decide), (boxedL HB3.out).2.2⟩
      · go_wp2_with fail
        refine (K4.out _).mono ?_
        rintro e w4 ⟨rfl, hb⟩
        have HB4 := Lib.hid (HB3.out.trans (hb.mono HB3.out.size))
        clear hb c0 c1
        obtain ⟨c0, c1, -⟩ := boxedL HB4.out
        cases r
        · have HN : Hid (fitE 0 0 true false = 13) := HE.out _ _ _ _
          go_wp2
          go_ret2
          exact ⟨by rw [HN.out]; exact ScoreIs.no (by decide), (boxedL HB4.out).2.2⟩
        · have HN : Hid (fitE 0 0 true true = 0) := HE.out _ _ _ _
          have HW := Lib.hid (boxedL HB4.out).2.2
          obtain ⟨⟨⟨p0, q0, r0, m0⟩, ⟨p1, q1, r1, m1⟩, p2, q2, r2, m2⟩, ⟨i0, j0⟩, ⟨i1, j1⟩, i2, j2⟩ := K5.out (by first | rfl | trivial)
          clear K1 K2 K3 K4 K5 HE HB0 HB1 HB2 HB3 HB4
          go_wp2
          go_loopg [7, 40] 3 (fun g s i wx => (∃ n, wx = w4.drewN n) ∧ ∃ k : Nat, k + g = 3 ∧ i = .int .i64 k ∧ s = .int .i64 (sumT x0 x1 x2 xu0 xu1 xu2 y0 y1 y2 k))
          case atStart => exact ⟨⟨0, rfl⟩, 0, by omega, rfl, by rw [T0.out]⟩
          case round =>
            obtain ⟨⟨n, rfl⟩, k, hkg, rfl, rfl⟩ := hrel
            cases gk with
            | zero =>
              obtain rfl : k = 3 := by omega
              clear hkg
              go_wp2
              go_ret2
              exact ⟨by rw [T3.out, HN.out]; exact ScoreIs.yes, bdN HW.out _⟩
            | succ g =>
              have HG := Lib.hid hkg
              have h3 : k = 0 ∨ k = 1 ∨ k = 2 := by omega
              clear hkg
              rcases h3 with rfl | rfl | rfl
              · rw [T0.out]
                by_cases hh : 0 < x0
                · have HP := Lib.hid (P0.out hh)
                  have t0 : IntKind.i64.wrap (xu0 + y0) = xu0 + y0 := by rw [IntKind.wrap_i64]; omega
                  have t1 : IntKind.i64.wrap (1000 * (xu0 + y0)) = 1000 * (xu0 + y0) := by rw [IntKind.wrap_i64]; omega
                  have t2 : IntKind.i64.wrap s0 = s0 := by rw [IntKind.wrap_i64]; omega
                  have t4 : 0 ≤ 1000 * (xu0 + y0) := by omega
                  rw [HP.out] at t2
                  go_wp2
                  go_quiet (fail)
                  go_wp2
                  go_roundg g
                  case measure => omega
                  case rel => exact ⟨⟨_, rfl⟩, 1, by have := HG.out; omega, rfl, by rw [T1.out, HP.out]⟩
                · have HP := Lib.hid (Q0.out (Int.not_lt.1 hh))
                  have hh' : decide (0 < x0) = false := by simpa using hh
                  go_wp2
                  go_roundg g
                  case measure => omega
                  case rel => exact ⟨⟨_, rfl⟩, 1, by have := HG.out; omega, rfl, by rw [T1.out, HP.out]⟩
              · rw [T1.out]
                by_cases hh : 0 < x1
                · have HP := Lib.hid (P1.out hh)
                  have t0 : IntKind.i64.wrap (xu1 + y1) = xu1 + y1 := by rw [IntKind.wrap_i64]; omega
                  have t1 : IntKind.i64.wrap (1000 * (xu1 + y1)) = 1000 * (xu1 + y1) := by rw [IntKind.wrap_i64]; omega
                  have t2 : IntKind.i64.wrap (s0 + s1) = s0 + s1 := by rw [IntKind.wrap_i64]; omega
                  have t4 : 0 ≤ 1000 * (xu1 + y1) := by omega
                  rw [HP.out] at t2
                  go_wp2
                  go_quiet (fail)
                  go_wp2
                  go_roundg g
                  case measure => omega
                  case rel => exact ⟨⟨_, rfl⟩, 2, by have := HG.out; omega, rfl, by rw [T2.out, HP.out]⟩
                · have HP := Lib.hid (Q1.out (Int.not_lt.1 hh))
                  have hh' : decide (0 < x1) = false := by simpa using hh
                  go_wp2
                  go_roundg g
                  case measure => omega
                  case rel => exact ⟨⟨_, rfl⟩, 2, by have := HG.out; omega, rfl, by rw [T2.out, HP.out]; go_num⟩
              · rw [T2.out]
                by_cases hh : 0 < x2
                · have HP := Lib.hid (P2.out hh)
                  have t0 : IntKind.i64.wrap (xu2 + y2) = xu2 + y2 := by rw [IntKind.wrap_i64]; omega
                  have t1 : IntKind.i64.wrap (1000 * (xu2 + y2)) = 1000 * (xu2 + y2) := by rw [IntKind.wrap_i64]; omega
                  have t2 : IntKind.i64.wrap ((s0 + s1) + s2) = (s0 + s1) + s2 := by rw [IntKind.wrap_i64]; omega
                  have t4 : 0 ≤ 1000 * (xu2 + y2) := by omega
                  rw [HP.out] at t2
                  go_wp2
                  go_quiet (fail)
                  go_wp2
                  go_roundg g
                  case measure => omega
                  case rel => exact ⟨⟨_, rfl⟩, 3, by have := HG.out; omega, rfl, by rw [T3.out, HS.out, HP.out]⟩
                · have HP := Lib.hid (Q2.out (Int.not_lt.1 hh))
                  have hh' : decide (0 < x2) = false := by simpa using hh
                  go_wp2
                  go_roundg g
                  case measure => omega
                  case rel => exact ⟨⟨_, rfl⟩, 3, by have := HG.out; omega, rfl, by rw [T3.out, HS.out, HP.out]; go_num⟩
    · have HN : Hid (fitE 0 le s r = le) := (HE.out _ _ _ _).trans ((if_pos rfl).trans (if_neg hl))
      have hl2 : ¬ (le : Int) = 0 := by omega
      go_wp2
      go_ret2
      exact ⟨by rw [HN.out]; exact ScoreIs.no hl, (boxedL HB2.out).2.2⟩
  · have HN : Hid (fitE te le s r = te) := (HE.out _ _ _ _).trans (if_neg ht)
    have ht2 : ¬ (te : Int) = 0 := by omega
    go_wp2
    go_ret2
    exact ⟨by rw [HN.out]; exact ScoreIs.no ht, (boxedL HB1.out).2.2⟩
end Rg
end Go.Proofs.Ythnajkpnchaciaa
