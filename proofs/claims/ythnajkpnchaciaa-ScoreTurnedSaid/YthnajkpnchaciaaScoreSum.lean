/-
  WHAT A SCORE IS: score.sum.
-/
import Derived.Test.YthnajkpnchaciaaScoreMath
namespace Go.Proofs.Ythnajkpnchaciaa
open Go.RowKit
namespace Rg
theorem kS_pos (h u n : Int) (hp : 0 < h) : kS h u n = 1000 * (u + n) / h := if_pos hp
theorem kS_no (h u n : Int) (hp : ¬ 0 < h) : kS h u n = 0 := if_neg hp
set_option maxRecDepth 100000 in
set_option maxHeartbeats 4000000 in
theorem sum_of (yn yg ya : ByteArray) (y0 y1 y2 yr : Int) (ywa yba : Option Addr) (ywn ywc ybn ybc : Nat) (xn : ByteArray) (x0 x1 x2 : Int) (xla xta : Option Addr) (xln xlc xtn xtc : Nat) (xu0 xu1 xu2 : Int) (w : World) (hr : roomB x0 x1 x2 xu0 xu1 xu2 y0 y1 y2 = true) :
    Calls Try.prog 19 #[.agg #[.string yn, .int .i64 y0, .int .i64 y1, .int .i64 y2, .slice ywa ywn ywc, .slice yba ybn ybc, .string yg, .string ya, .int .i64 yr], .agg #[.string xn, .int .i64 x0, .int .i64 x1, .int .i64 x2, .slice xla xln xlc, .slice xta xtn xtc, .int .i64 xu0, .int .i64 xu1, .int .i64 xu2]] w fun e w' => e = .returned (.int .i64 (sumS x0 x1 x2 xu0 xu1 xu2 y0 y1 y2)) ∧ Below w.heap.size w w' := by
  have hin := room_in _ _ _ _ _ _ _ _ _ hr
  have b0 := kS_in x0 xu0 y0 (by omega) (by omega)
  have b1 := kS_in x1 xu1 y1 (by omega) (by omega)
  have b2 := kS_in x2 xu2 y2 (by omega) (by omega)
  have HS : Hid (sumS x0 x1 x2 xu0 xu1 xu2 y0 y1 y2 = kS x0 xu0 y0 + kS x1 xu1 y1 + kS x2 xu2 y2) := rfl
  have T0 : Hid (sumT x0 x1 x2 xu0 xu1 xu2 y0 y1 y2 0 = 0) := rfl
  have T1 : Hid (sumT x0 x1 x2 xu0 xu1 xu2 y0 y1 y2 1 = kS x0 xu0 y0) := rfl
  have T2 : Hid (sumT x0 x1 x2 xu0 xu1 xu2 y0 y1 y2 2 = kS x0 xu0 y0 + kS x1 xu1 y1) := rfl
  have T3 : Hid (sumT x0 x1 x2 xu0 xu1 xu2 y0 y1 y2 3 = sumS x0 x1 x2 xu0 xu1 xu2 y0 y1 y2) := rfl
  have P0 := Lib.hid (kS_pos x0 xu0 y0)
  have P1 := Lib.hid (kS_pos x1 xu1 y1)
  have P2 := Lib.hid (kS_pos x2 xu2 y2)
  have Q0 := Lib.hid (kS_no x0 xu0 y0)
  have Q1 := Lib.hid (kS_no x1 xu1 y1)
  have Q2 := Lib.hid (kS_no x2 xu2 y2)
  generalize kS x0 xu0 y0 = s0 at *
  generalize kS x1 xu1 y1 = s1 at *
  generalize kS x2 xu2 y2 = s2 at *
  clear hr
  obtain ⟨⟨p0, q0, r0, m0⟩, ⟨p1, q1, r1, m1⟩, p2, q2, r2, m2⟩ := hin
  obtain ⟨i0, j0⟩ := b0
  obtain ⟨i1, j1⟩ := b1
  obtain ⟨i2, j2⟩ := b2
  have A0 := arr0 x0 x1 x2
  have A1 := arr1 x0 x1 x2
  have A2 := arr2 x0 x1 x2
  have HW := Lib.hid (two w (.cells #[.string yn, .int .i64 y0, .int .i64 y1, .int .i64 y2, .slice ywa ywn ywc, .slice yba ybn ybc, .string yg, .string ya, .int .i64 yr] 25) (.cells #[.string xn, .int .i64 x0, .int .i64 x1, .int .i64 x2, .slice xla xln xlc, .slice xta xtn xtc, .int .i64 xu0, .int .i64 xu1, .int .i64 xu2] 29))
  go_enter Try.func19, Try.ntmps19
  go_wp2
  go_loopg [5, 11] 3 (fun g s i wx => (∃ n, wx = ((w.alloc (.cells #[.string yn, .int .i64 y0, .int .i64 y1, .int .i64 y2, .slice ywa ywn ywc, .slice yba ybn ybc, .string yg, .string ya, .int .i64 yr] 25)).alloc (.cells #[.string xn, .int .i64 x0, .int .i64 x1, .int .i64 x2, .slice xla xln xlc, .slice xta xtn xtc, .int .i64 xu0, .int .i64 xu1, .int .i64 xu2] 29)).drewN n) ∧ ∃ k : Nat, k + g = 3 ∧ i = .int .i64 k ∧ s = .int .i64 (sumT x0 x1 x2 xu0 xu1 xu2 y0 y1 y2 k))
  case atStart => exact ⟨⟨0, rfl⟩, 0, by omega, rfl, by rw [T0.out]⟩
  case round =>
    obtain ⟨⟨n, rfl⟩, k, hkg, rfl, rfl⟩ := hrel
    cases gk with
    | zero =>
      obtain rfl : k = 3 := by omega
      clear hkg
      go_wp2
      go_ret
      exact ⟨by rw [T3.out]; rfl, bdN HW.out _⟩
    | succ g =>
      have HG := Lib.hid hkg
      have h3 : k = 0 ∨ k = 1 ∨ k = 2 := by omega
      clear hkg
      rcases h3 with rfl | rfl | rfl
      · rw [T0.out]
        by_cases hh : 0 < x0
        · have HP := Lib.hid (P0.out hh)
          have t0 : IntKind.i64.wrap (xu0 + y0) = xu0 + y0 := by rw [IntKind.wrap_i64]; omega
          have t1 : IntKind.i64.wrap (1000 * (xu0 + y0)) = 1000 * (xu0 + y0) := by rw [IntKind.wrap_i64]; omega
          have t2 : IntKind.i64.wrap s0 = s0 := by rw [IntKind.wrap_i64]; omega
          have t4 : 0 ≤ 1000 * (xu0 + y0) := by omega
          rw [HP.out] at t2
          go_wp2
          go_quiet (fail)
          go_wp2
          go_roundg g
          case measure => omega
          case rel => exact ⟨⟨_, rfl⟩, 1, by have := HG.out; omega, rfl, by rw [T1.out, HP.out]⟩
        · have HP := Lib.hid (Q0.out (Int.not_lt.1 hh))
          have hh' : decide (0 < x0) = false := by simpa using hh
          go_wp2
          go_roundg g
          case measure => omega
          case rel => exact ⟨⟨_, rfl⟩, 1, by have := HG.out; omega, rfl, by rw [T1.out, HP.out]⟩
      · rw [T1.out]
        by_cases hh : 0 < x1
        · have HP := Lib.hid (P1.out hh)
          have t0 : IntKind.i64.wrap (xu1 + y1) = xu1 + y1 := by rw [IntKind.wrap_i64]; omega
          have t1 : IntKind.i64.wrap (1000 * (xu1 + y1)) = 1000 * (xu1 + y1) := by rw [IntKind.wrap_i64]; omega
          have t2 : IntKind.i64.wrap (s0 + s1) = s0 + s1 := by rw [IntKind.wrap_i64]; omega
          have t4 : 0 ≤ 1000 * (xu1 + y1) := by omega
          rw [HP.out] at t2
          go_wp2
          go_quiet (fail)
          go_wp2
          go_roundg g
          case measure => omega
          case rel => exact ⟨⟨_, rfl⟩, 2, by have := HG.out; omega, rfl, by rw [T2.out, HP.out]⟩
        · have HP := Lib.hid (Q1.out (Int.not_lt.1 hh))
          have hh' : decide (0 < x1) = false := by simpa using hh
          go_wp2
          go_roundg g
          case measure => omega
          case rel => exact ⟨⟨_, rfl⟩, 2, by have := HG.out; omega, rfl, by rw [T2.out, HP.out]; go_num⟩
      · rw [T2.out]
        by_cases hh : 0 < x2
        · have HP := Lib.hid (P2.out hh)
          have t0 : IntKind.i64.wrap (xu2 + y2) = xu2 + y2 := by rw [IntKind.wrap_i64]; omega
          have t1 : IntKind.i64.wrap (1000 * (xu2 + y2)) = 1000 * (xu2 + y2) := by rw [IntKind.wrap_i64]; omega
          have t2 : IntKind.i64.wrap ((s0 + s1) + s2) = (s0 + s1) + s2 := by rw [IntKind.wrap_i64]; omega
          have t4 : 0 ≤ 1000 * (xu2 + y2) := by omega
          rw [HP.out] at t2
          go_wp2
          go_quiet (fail)
          go_wp2
          go_roundg g
          case measure => omega
          case rel => exact ⟨⟨_, rfl⟩, 3, by have := HG.out; omega, rfl, by rw [T3.out, HS.out, HP.out]⟩
        · have HP := Lib.hid (Q2.out (Int.not_lt.1 hh))
          have hh' : decide (0 < x2) = false := by simpa using hh
          go_wp2
          go_roundg g
          case measure => omega
          case rel => exact ⟨⟨_, rfl⟩, 3, by have := HG.out; omega, rfl, by rw [T3.out, HS.out, HP.out]; go_num⟩
end Rg
end Go.Proofs.Ythnajkpnchaciaa
