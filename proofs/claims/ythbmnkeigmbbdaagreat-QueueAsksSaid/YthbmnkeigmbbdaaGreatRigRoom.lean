/-
  ROOM: rig.Room and the document's Room, and the examples.
-/
import Derived.Test.YthbmnkeigmbbdaaGreatRgA
namespace Go.Proofs.YthbmnkeigmbbdaaGreat
open Go.RowKit
namespace Rg
def fitsB (x0 x1 x2 u0 u1 u2 n0 n1 n2 : Int) : Bool := decide (u0 + n0 ≤ x0) && (decide (u1 + n1 ≤ x1) && decide (u2 + n2 ≤ x2))
def fitsT (x0 x1 x2 u0 u1 u2 n0 n1 n2 : Int) : Nat → Bool
  | 0 => true
  | 1 => decide (u0 + n0 ≤ x0)
  | 2 => decide (u0 + n0 ≤ x0) && decide (u1 + n1 ≤ x1)
  | _ => fitsB x0 x1 x2 u0 u1 u2 n0 n1 n2
def roomB (x0 x1 x2 u0 u1 u2 n0 n1 n2 : Int) : Bool := uptoB x0 x1 x2 1099511627776 && (uptoB u0 u1 u2 35184372088832 && (uptoB n0 n1 n2 1099511627776 && fitsB x0 x1 x2 u0 u1 u2 n0 n1 n2))
theorem fits_no0 (x0 x1 x2 u0 u1 u2 n0 n1 n2 : Int) (h : x0 < u0 + n0) : fitsB x0 x1 x2 u0 u1 u2 n0 n1 n2 = false := by unfold fitsB; rw [decide_eq_false (by omega)]; rfl
theorem fits_no1 (x0 x1 x2 u0 u1 u2 n0 n1 n2 : Int) (h : x1 < u1 + n1) : fitsB x0 x1 x2 u0 u1 u2 n0 n1 n2 = false := by unfold fitsB; rw [decide_eq_false (p := u1 + n1 ≤ x1) (by omega)]; simp
theorem fits_no2 (x0 x1 x2 u0 u1 u2 n0 n1 n2 : Int) (h : x2 < u2 + n2) : fitsB x0 x1 x2 u0 u1 u2 n0 n1 n2 = false := by unfold fitsB; rw [decide_eq_false (p := u2 + n2 ≤ x2) (by omega)]; simp
theorem inB_in (z m : Int) (h : inB z m = true) : 0 ≤ z ∧ z ≤ m := by unfold inB at h; simpa using h
theorem upto_in (z0 z1 z2 m : Int) (h : uptoB z0 z1 z2 m = true) : (0 ≤ z0 ∧ z0 ≤ m) ∧ (0 ≤ z1 ∧ z1 ≤ m) ∧ (0 ≤ z2 ∧ z2 ≤ m) := by
  unfold uptoB at h
  simp only [Bool.and_eq_true] at h
  exact ⟨inB_in _ _ h.1, inB_in _ _ h.2.1, inB_in _ _ h.2.2⟩
theorem boxed3 {w w1 : World} {xn : ByteArray} {x0 x1 x2 : Int} {xla xta : Option Addr} {xln xlc xtn xtc : Nat} {u0 u1 u2 n0 n1 n2 : Int} {t u v : TypeId} (hb : Below (((w.alloc (.cells #[.string xn, .int .i64 x0, .int .i64 x1, .int .i64 x2, .slice xla xln xlc, .slice xta xtn xtc] t)).alloc (.cells #[.int .i64 u0, .int .i64 u1, .int .i64 u2] u)).alloc (.cells #[.int .i64 n0, .int .i64 n1, .int .i64 n2] v)).heap.size (((w.alloc (.cells #[.string xn, .int .i64 x0, .int .i64 x1, .int .i64 x2, .slice xla xln xlc, .slice xta xtn xtc] t)).alloc (.cells #[.int .i64 u0, .int .i64 u1, .int .i64 u2] u)).alloc (.cells #[.int .i64 n0, .int .i64 n1, .int .i64 n2] v)) w1) :
    w1.cell? ⟨w.heap.size, 1, none⟩ = some (.int .i64 x0) ∧ w1.cell? ⟨w.heap.size, 2, none⟩ = some (.int .i64 x1) ∧ w1.cell? ⟨w.heap.size, 3, none⟩ = some (.int .i64 x2) ∧
    w1.cell? ⟨w.heap.size + 1, 0, none⟩ = some (.int .i64 u0) ∧ w1.cell? ⟨w.heap.size + 1, 1, none⟩ = some (.int .i64 u1) ∧ w1.cell? ⟨w.heap.size + 1, 2, none⟩ = some (.int .i64 u2) ∧
    w1.cell? ⟨w.heap.size + 2, 0, none⟩ = some (.int .i64 n0) ∧ w1.cell? ⟨w.heap.size + 2, 1, none⟩ = some (.int .i64 n1) ∧ w1.cell? ⟨w.heap.size + 2, 2, none⟩ = some (.int .i64 n2) ∧ w.heap.size + 3 ≤ w1.heap.size ∧ Below w.heap.size w w1 := by
  refine ⟨?_, ?_, ?_, ?_, ?_, ?_, ?_, ?_, ?_, ?_, ?_⟩
  · rw [hb.cell (by simp <;> omega)]; simp [go_sem]
  · rw [hb.cell (by simp <;> omega)]; simp [go_sem]
  · rw [hb.cell (by simp <;> omega)]; simp [go_sem]
  · rw [hb.cell (by simp <;> omega)]; simp [go_sem]
  · rw [hb.cell (by simp <;> omega)]; simp [go_sem]
  · rw [hb.cell (by simp <;> omega)]; simp [go_sem]
  · rw [hb.cell (by simp)]; simp [go_sem]
  · rw [hb.cell (by simp)]; simp [go_sem]
  · rw [hb.cell (by simp)]; simp [go_sem]
  · have := hb.size; simp at this; omega
  · exact ((two w _ _).alloc (by simp; omega) _).trans (hb.mono (by simp; omega))
set_option maxRecDepth 100000 in
set_option maxHeartbeats 4000000 in
theorem room_any (xn : ByteArray) (x0 x1 x2 : Int) (xla xta : Option Addr) (xln xlc xtn xtc : Nat) (u0 u1 u2 n0 n1 n2 : Int) (w : World) :
    Calls Tryz.prog 127 #[.agg #[.string xn, .int .i64 x0, .int .i64 x1, .int .i64 x2, .slice xla xln xlc, .slice xta xtn xtc], .agg #[.int .i64 u0, .int .i64 u1, .int .i64 u2], .agg #[.int .i64 n0, .int .i64 n1, .int .i64 n2]] w fun e w' => e = .returned (.bool (roomB x0 x1 x2 u0 u1 u2 n0 n1 n2)) ∧ Below w.heap.size w w' := by
  have U1 : Hid (∀ w, Calls Tryz.prog 118 #[.agg #[.int .i64 x0, .int .i64 x1, .int .i64 x2], .int .i64 1099511627776] w fun e w' => e = .returned (.bool (uptoB x0 x1 x2 1099511627776)) ∧ Below w.heap.size w w') := fun w => upto_any x0 x1 x2 _ w
  have U2 : Hid (∀ w, Calls Tryz.prog 118 #[.agg #[.int .i64 u0, .int .i64 u1, .int .i64 u2], .int .i64 35184372088832] w fun e w' => e = .returned (.bool (uptoB u0 u1 u2 35184372088832)) ∧ Below w.heap.size w w') := fun w => upto_any u0 u1 u2 _ w
  have U3 : Hid (∀ w, Calls Tryz.prog 118 #[.agg #[.int .i64 n0, .int .i64 n1, .int .i64 n2], .int .i64 1099511627776] w fun e w' => e = .returned (.bool (uptoB n0 n1 n2 1099511627776)) ∧ Below w.heap.size w w') := fun w => upto_any n0 n1 n2 _ w
  have HN : Hid (roomB x0 x1 x2 u0 u1 u2 n0 n1 n2 = (uptoB x0 x1 x2 1099511627776 && (uptoB u0 u1 u2 35184372088832 && (uptoB n0 n1 n2 1099511627776 && fitsB x0 x1 x2 u0 u1 u2 n0 n1 n2)))) := rfl
  have HV : Hid (uptoB u0 u1 u2 35184372088832 = true → uptoB n0 n1 n2 1099511627776 = true → (0 ≤ u0 ∧ u0 ≤ 35184372088832) ∧ (0 ≤ u1 ∧ u1 ≤ 35184372088832) ∧ (0 ≤ u2 ∧ u2 ≤ 35184372088832) ∧ (0 ≤ n0 ∧ n0 ≤ 1099511627776) ∧ (0 ≤ n1 ∧ n1 ≤ 1099511627776) ∧ (0 ≤ n2 ∧ n2 ≤ 1099511627776)) := by
    intro h1 h2
    have e1 := upto_in _ _ _ _ h1
    have e2 := upto_in _ _ _ _ h2
    exact ⟨e1.1, e1.2.1, e1.2.2, e2.1, e2.2.1, e2.2.2⟩
  generalize uptoB x0 x1 x2 1099511627776 = r1 at *
  generalize uptoB u0 u1 u2 35184372088832 = r2 at *
  generalize uptoB n0 n1 n2 1099511627776 = r3 at *
  have I0 := arr0 x0 x1 x2
  have I1 := arr1 x0 x1 x2
  have I2 := arr2 x0 x1 x2
  go_enter Tryz.func127, Tryz.ntmps127
  go_wp2_with fail
  refine (U1.out _).mono ?_
  rintro e w1 ⟨rfl, hb⟩
  have HB := Lib.hid hb
  obtain ⟨a0, a1, a2, b0, b1, b2, c0, c1, c2, hz, hbw⟩ := boxed3 hb
  have HW := Lib.hid hbw
  clear hb hbw
  cases r1
  · go_wp2
    go_ret
    exact ⟨by rw [HN.out]; rfl, HW.out⟩
  · go_wp2_with fail
    refine (U2.out _).mono ?_
    rintro e w2 ⟨rfl, hb⟩
    clear a0 a1 a2 b0 b1 b2 c0 c1 c2 hz HW
    have HB2 := Lib.hid (HB.out.trans (hb.mono HB.out.size))
    obtain ⟨a0, a1, a2, b0, b1, b2, c0, c1, c2, hz, hbw⟩ := boxed3 HB2.out
    have HW := Lib.hid hbw
    clear hb hbw
    cases r2
    · go_wp2
      go_ret
      exact ⟨by rw [HN.out]; rfl, HW.out⟩
    · go_wp2_with fail
      refine (U3.out _).mono ?_
      rintro e w3 ⟨rfl, hb⟩
      clear a0 a1 a2 b0 b1 b2 c0 c1 c2 hz HW
      have HB3 := Lib.hid (HB2.out.trans (hb.mono HB2.out.size))
      obtain ⟨a0, a1, a2, b0, b1, b2, c0, c1, c2, hz, hbw⟩ := boxed3 HB3.out
      have HW := Lib.hid hbw
      clear hb hbw
      cases r3
      · go_wp2
        go_ret
        exact ⟨by rw [HN.out]; rfl, HW.out⟩
      · have HF : Hid (roomB x0 x1 x2 u0 u1 u2 n0 n1 n2 = fitsB x0 x1 x2 u0 u1 u2 n0 n1 n2) := HN.out
        obtain ⟨⟨p0, q0⟩, ⟨p1, q1⟩, ⟨p2, q2⟩, ⟨s0, v0⟩, ⟨s1, v1⟩, s2, v2⟩ := (by first | exact HV.out rfl rfl | exact HV.out trivial trivial | exact HV.out rfl trivial | exact HV.out trivial rfl)
        have t0 : IntKind.i64.wrap (u0 + n0) = u0 + n0 := by rw [IntKind.wrap_i64]; omega
        have t1 : IntKind.i64.wrap (u1 + n1) = u1 + n1 := by rw [IntKind.wrap_i64]; omega
        have t2 : IntKind.i64.wrap (u2 + n2) = u2 + n2 := by rw [IntKind.wrap_i64]; omega
        clear U1 U2 U3 HN HV
        go_wp2
        go_loopg [25] 3 (fun g i wx => (∃ n, wx = w3.drewN n) ∧ ∃ k : Nat, k + g = 3 ∧ i = .int .i64 k ∧ Aside (fitsT x0 x1 x2 u0 u1 u2 n0 n1 n2 k = true))
        case atStart => exact ⟨⟨0, rfl⟩, 0, by omega, rfl, by show _ = _; rfl⟩
        case round =>
          obtain ⟨⟨n, rfl⟩, k, hkg, rfl, HA⟩ := hrel
          cases gk with
          | zero =>
            obtain rfl : k = 3 := by omega
            clear hkg
            go_wp2
            go_ret
            exact ⟨by rw [HF.out, show fitsB x0 x1 x2 u0 u1 u2 n0 n1 n2 = true from HA.out]; rfl, bdN HW.out _⟩
          | succ g =>
            have HG := Lib.hid hkg
            have h3 : k = 0 ∨ k = 1 ∨ k = 2 := by omega
            clear hkg
            rcases h3 with rfl | rfl | rfl
            · by_cases hn : x0 < u0 + n0
              · have HR := Lib.hid (fits_no0 x0 x1 x2 u0 u1 u2 n0 n1 n2 hn)
                go_wp2
                go_quiet (fail)
                go_wp2
                go_ret
                exact ⟨by rw [HF.out, HR.out]; rfl, by first | exact bdN HW.out _ | exact bdN (bdN HW.out _) _⟩
              · have HY := Lib.hid (show fitsT x0 x1 x2 u0 u1 u2 n0 n1 n2 1 = true by show decide _ = true; simp; omega)
                have hn' : decide (x0 < u0 + n0) = false := by simpa using hn
                go_wp2
                go_quiet (fail)
                go_wp2
                go_roundg g
                case measure => omega
                case rel => exact ⟨⟨_, rfl⟩, 1, by have := HG.out; omega, rfl, HY.out⟩
            · by_cases hn : x1 < u1 + n1
              · have HR := Lib.hid (fits_no1 x0 x1 x2 u0 u1 u2 n0 n1 n2 hn)
                go_wp2
                go_quiet (fail)
                go_wp2
                go_ret
                exact ⟨by rw [HF.out, HR.out]; rfl, by first | exact bdN HW.out _ | exact bdN (bdN HW.out _) _⟩
              · have HY := Lib.hid (show fitsT x0 x1 x2 u0 u1 u2 n0 n1 n2 2 = true by
                  have h : decide (u0 + n0 ≤ x0) = true := HA.out
                  show (decide (u0 + n0 ≤ x0) && decide (u1 + n1 ≤ x1)) = true
                  rw [h]; simp; omega)
                have hn' : decide (x1 < u1 + n1) = false := by simpa using hn
                go_wp2
                go_quiet (fail)
                go_wp2
                go_roundg g
                case measure => omega
                case rel => exact ⟨⟨_, rfl⟩, 2, by have := HG.out; omega, rfl, HY.out⟩
            · by_cases hn : x2 < u2 + n2
              · have HR := Lib.hid (fits_no2 x0 x1 x2 u0 u1 u2 n0 n1 n2 hn)
                go_wp2
                go_quiet (fail)
                go_wp2
                go_ret
                exact ⟨by rw [HF.out, HR.out]; rfl, by first | exact bdN HW.out _ | exact bdN (bdN HW.out _) _⟩
              · have HY := Lib.hid (show fitsT x0 x1 x2 u0 u1 u2 n0 n1 n2 3 = true by
                  have h : (decide (u0 + n0 ≤ x0) && decide (u1 + n1 ≤ x1)) = true := HA.out
                  show (decide (u0 + n0 ≤ x0) && (decide (u1 + n1 ≤ x1) && decide (u2 + n2 ≤ x2))) = true
                  rw [← Bool.and_assoc, h]; simp; omega)
                have hn' : decide (x2 < u2 + n2) = false := by simpa using hn
                go_wp2
                go_quiet (fail)
                go_wp2
                go_roundg g
                case measure => omega
                case rel => exact ⟨⟨_, rfl⟩, 3, by have := HG.out; omega, rfl, HY.out⟩
set_option maxRecDepth 100000 in
set_option maxHeartbeats 4000000 in
theorem room_ref (xn : ByteArray) (x0 x1 x2 : Int) (xla xta : Option Addr) (xln xlc xtn xtc : Nat) (u0 u1 u2 n0 n1 n2 : Int) (w : World) :
    Calls Tryz.prog 157 #[.agg #[.string xn, .int .i64 x0, .int .i64 x1, .int .i64 x2, .slice xla xln xlc, .slice xta xtn xtc], .agg #[.int .i64 u0, .int .i64 u1, .int .i64 u2], .agg #[.int .i64 n0, .int .i64 n1, .int .i64 n2]] w fun e w' => e = .returned (.bool (roomB x0 x1 x2 u0 u1 u2 n0 n1 n2)) ∧ Below w.heap.size w w' := by
  have U1 : Hid (∀ w, Calls Tryz.prog 198 #[.agg #[.int .i64 x0, .int .i64 x1, .int .i64 x2], .int .i64 1] w fun e w' => e = .returned (.bool (uptoB x0 x1 x2 1099511627776)) ∧ Below w.heap.size w w') := fun w => amounts_1 x0 x1 x2 w
  have U2 : Hid (∀ w, Calls Tryz.prog 198 #[.agg #[.int .i64 u0, .int .i64 u1, .int .i64 u2], .int .i64 32] w fun e w' => e = .returned (.bool (uptoB u0 u1 u2 35184372088832)) ∧ Below w.heap.size w w') := fun w => amounts_32 u0 u1 u2 w
  have U3 : Hid (∀ w, Calls Tryz.prog 198 #[.agg #[.int .i64 n0, .int .i64 n1, .int .i64 n2], .int .i64 1] w fun e w' => e = .returned (.bool (uptoB n0 n1 n2 1099511627776)) ∧ Below w.heap.size w w') := fun w => amounts_1 n0 n1 n2 w
  have HN : Hid (roomB x0 x1 x2 u0 u1 u2 n0 n1 n2 = (uptoB x0 x1 x2 1099511627776 && (uptoB u0 u1 u2 35184372088832 && (uptoB n0 n1 n2 1099511627776 && fitsB x0 x1 x2 u0 u1 u2 n0 n1 n2)))) := rfl
  have HV : Hid (uptoB u0 u1 u2 35184372088832 = true → uptoB n0 n1 n2 1099511627776 = true → (0 ≤ u0 ∧ u0 ≤ 35184372088832) ∧ (0 ≤ u1 ∧ u1 ≤ 35184372088832) ∧ (0 ≤ u2 ∧ u2 ≤ 35184372088832) ∧ (0 ≤ n0 ∧ n0 ≤ 1099511627776) ∧ (0 ≤ n1 ∧ n1 ≤ 1099511627776) ∧ (0 ≤ n2 ∧ n2 ≤ 1099511627776)) := by
    intro h1 h2
    have e1 := upto_in _ _ _ _ h1
    have e2 := upto_in _ _ _ _ h2
    exact ⟨e1.1, e1.2.1, e1.2.2, e2.1, e2.2.1, e2.2.2⟩
  generalize uptoB x0 x1 x2 1099511627776 = r1 at *
  generalize uptoB u0 u1 u2 35184372088832 = r2 at *
  generalize uptoB n0 n1 n2 1099511627776 = r3 at *
  have I0 := arr0 x0 x1 x2
  have I1 := arr1 x0 x1 x2
  have I2 := arr2 x0 x1 x2
  go_enter Tryz.func157, Tryz.ntmps157
  go_wp2_with fail
  refine (U1.out _).mono ?_
  rintro e w1 ⟨rfl, hb⟩
  have HB := Lib.hid hb
  obtain ⟨a0, a1, a2, b0, b1, b2, c0, c1, c2, hz, hbw⟩ := boxed3 hb
  have HW := Lib.hid hbw
  clear hb hbw
  cases r1
  · go_wp2
    go_ret
    exact ⟨by rw [HN.out]; rfl, HW.out⟩
  · go_wp2_with fail
    refine (U2.out _).mono ?_
    rintro e w2 ⟨rfl, hb⟩
    clear a0 a1 a2 b0 b1 b2 c0 c1 c2 hz HW
    have HB2 := Lib.hid (HB.out.trans (hb.mono HB.out.size))
    obtain ⟨a0, a1, a2, b0, b1, b2, c0, c1, c2, hz, hbw⟩ := boxed3 HB2.out
    have HW := Lib.hid hbw
    clear hb hbw
    cases r2
    · go_wp2
      go_ret
      exact ⟨by rw [HN.out]; rfl, HW.out⟩
    · go_wp2_with fail
      refine (U3.out _).mono ?_
      rintro e w3 ⟨rfl, hb⟩
      clear a0 a1 a2 b0 b1 b2 c0 c1 c2 hz HW
      have HB3 := Lib.hid (HB2.out.trans (hb.mono HB2.out.size))
      obtain ⟨a0, a1, a2, b0, b1, b2, c0, c1, c2, hz, hbw⟩ := boxed3 HB3.out
      have HW := Lib.hid hbw
      clear hb hbw
      cases r3
      · go_wp2
        go_ret
        exact ⟨by rw [HN.out]; rfl, HW.out⟩
      · have HF : Hid (roomB x0 x1 x2 u0 u1 u2 n0 n1 n2 = fitsB x0 x1 x2 u0 u1 u2 n0 n1 n2) := HN.out
        obtain ⟨⟨p0, q0⟩, ⟨p1, q1⟩, ⟨p2, q2⟩, ⟨s0, v0⟩, ⟨s1, v1⟩, s2, v2⟩ := (by first | exact HV.out rfl rfl | exact HV.out trivial trivial | exact HV.out rfl trivial | exact HV.out trivial rfl)
        have t0 : IntKind.i64.wrap (u0 + n0) = u0 + n0 := by rw [IntKind.wrap_i64]; omega
        have t1 : IntKind.i64.wrap (u1 + n1) = u1 + n1 := by rw [IntKind.wrap_i64]; omega
        have t2 : IntKind.i64.wrap (u2 + n2) = u2 + n2 := by rw [IntKind.wrap_i64]; omega
        clear U1 U2 U3 HN HV
        go_wp2
        go_loopg [25] 3 (fun g i wx => (∃ n, wx = w3.drewN n) ∧ ∃ k : Nat, k + g = 3 ∧ i = .int .i64 k ∧ Aside (fitsT x0 x1 x2 u0 u1 u2 n0 n1 n2 k = true))
        case atStart => exact ⟨⟨0, rfl⟩, 0, by omega, rfl, by show _ = _; rfl⟩
        case round =>
          obtain ⟨⟨n, rfl⟩, k, hkg, rfl, HA⟩ := hrel
          cases gk with
          | zero =>
            obtain rfl : k = 3 := by omega
            clear hkg
            go_wp2
            go_ret
            exact ⟨by rw [HF.out, show fitsB x0 x1 x2 u0 u1 u2 n0 n1 n2 = true from HA.out]; rfl, bdN HW.out _⟩
          | succ g =>
            have HG := Lib.hid hkg
            have h3 : k = 0 ∨ k = 1 ∨ k = 2 := by omega
            clear hkg
            rcases h3 with rfl | rfl | rfl
            · by_cases hn : x0 < u0 + n0
              · have HR := Lib.hid (fits_no0 x0 x1 x2 u0 u1 u2 n0 n1 n2 hn)
                go_wp2
                go_quiet (fail)
                go_wp2
                go_ret
                exact ⟨by rw [HF.out, HR.out]; rfl, by first | exact bdN HW.out _ | exact bdN (bdN HW.out _) _⟩
              · have HY := Lib.hid (show fitsT x0 x1 x2 u0 u1 u2 n0 n1 n2 1 = true by show decide _ = true; simp; omega)
                have hn' : decide (x0 < u0 + n0) = false := by simpa using hn
                go_wp2
                go_quiet (fail)
                go_wp2
                go_roundg g
                case measure => omega
                case rel => exact ⟨⟨_, rfl⟩, 1, by have := HG.out; omega, rfl, HY.out⟩
            · by_cases hn : x1 < u1 + n1
              · have HR := Lib.hid (fits_no1 x0 x1 x2 u0 u1 u2 n0 n1 n2 hn)
                go_wp2
                go_quiet (fail)
                go_wp2
                go_ret
                exact ⟨by rw [HF.out, HR.out]; rfl, by first | exact bdN HW.out _ | exact bdN (bdN HW.out _) _⟩
              · have HY := Lib.hid (show fitsT x0 x1 x2 u0 u1 u2 n0 n1 n2 2 = true by
                  have h : decide (u0 + n0 ≤ x0) = true := HA.out
                  show (decide (u0 + n0 ≤ x0) && decide (u1 + n1 ≤ x1)) = true
                  rw [h]; simp; omega)
                have hn' : decide (x1 < u1 + n1) = false := by simpa using hn
                go_wp2
                go_quiet (fail)
                go_wp2
                go_roundg g
                case measure => omega
                case rel => exact ⟨⟨_, rfl⟩, 2, by have := HG.out; omega, rfl, HY.out⟩
            · by_cases hn : x2 < u2 + n2
              · have HR := Lib.hid (fits_no2 x0 x1 x2 u0 u1 u2 n0 n1 n2 hn)
                go_wp2
                go_quiet (fail)
                go_wp2
                go_ret
                exact ⟨by rw [HF.out, HR.out]; rfl, by first | exact bdN HW.out _ | exact bdN (bdN HW.out _) _⟩
              · have HY := Lib.hid (show fitsT x0 x1 x2 u0 u1 u2 n0 n1 n2 3 = true by
                  have h : (decide (u0 + n0 ≤ x0) && decide (u1 + n1 ≤ x1)) = true := HA.out
                  show (decide (u0 + n0 ≤ x0) && (decide (u1 + n1 ≤ x1) && decide (u2 + n2 ≤ x2))) = true
                  rw [← Bool.and_assoc, h]; simp; omega)
                have hn' : decide (x2 < u2 + n2) = false := by simpa using hn
                go_wp2
                go_quiet (fail)
                go_wp2
                go_roundg g
                case measure => omega
                case rel => exact ⟨⟨_, rfl⟩, 3, by have := HG.out; omega, rfl, HY.out⟩
theorem room_at {xn : ByteArray} {x0 x1 x2 : Int} {xla xta : Option Addr} {xln xlc xtn xtc : Nat} {u0 u1 u2 n0 n1 n2 : Int} {r : Bool} (h : roomB x0 x1 x2 u0 u1 u2 n0 n1 n2 = r) (w : World) :
    Calls Tryz.prog 127 #[.agg #[.string xn, .int .i64 x0, .int .i64 x1, .int .i64 x2, .slice xla xln xlc, .slice xta xtn xtc], .agg #[.int .i64 u0, .int .i64 u1, .int .i64 u2], .agg #[.int .i64 n0, .int .i64 n1, .int .i64 n2]] w fun e w' => e = .returned (.bool r) ∧ Below w.heap.size w w' := by
  subst h
  exact room_any xn x0 x1 x2 xla xta xln xlc xtn xtc u0 u1 u2 n0 n1 n2 w
end Rg
end Go.Proofs.YthbmnkeigmbbdaaGreat
