/-
  Merged: ScoreMath, ScoreChk, ScoreSum, ScoreSco.
-/
import Derived.Test.YthbmnkeigmbbdaaGreatRigCheckR
import Derived.Test.YthbmnkeigmbbdaaGreatRigRoom
import Derived.Test.YthbmnkeigmbbdaaGreatRigSuit2
/-
  SCORES: the plain mathematics: which load is right, what a score is, which one is the best.
-/
namespace Go.Proofs.YthbmnkeigmbbdaaGreat
open Go.RowKit
namespace Rg
def usedB (x0 x1 x2 u0 u1 u2 : Int) : Bool := inB u0 x0 && (inB u1 x1 && inB u2 x2)
def usedT (x0 x1 x2 u0 u1 u2 : Int) : Nat → Bool
  | 0 => true
  | 1 => inB u0 x0
  | 2 => inB u0 x0 && inB u1 x1
  | _ => usedB x0 x1 x2 u0 u1 u2
def usedE (x0 x1 x2 u0 u1 u2 : Int) : Nat := if usedB x0 x1 x2 u0 u1 u2 = true then 0 else 1
theorem used_no0 (x0 x1 x2 u0 u1 u2 : Int) (h : u0 < 0 ∨ x0 < u0) : usedB x0 x1 x2 u0 u1 u2 = false := by unfold usedB; rw [inB_no _ _ h]; rfl
theorem used_no1 (x0 x1 x2 u0 u1 u2 : Int) (h : u1 < 0 ∨ x1 < u1) : usedB x0 x1 x2 u0 u1 u2 = false := by unfold usedB; rw [inB_no u1 _ h]; simp
theorem used_no2 (x0 x1 x2 u0 u1 u2 : Int) (h : u2 < 0 ∨ x2 < u2) : usedB x0 x1 x2 u0 u1 u2 = false := by unfold usedB; rw [inB_no u2 _ h]; simp
def loadE (n : ByteArray) (x0 x1 x2 : Int) (ls ts : List Pr) (u0 u1 u2 : Int) : Nat := if nodeE n x0 x1 x2 ls ts = 0 then usedE x0 x1 x2 u0 u1 u2 else nodeE n x0 x1 x2 ls ts
theorem nodeE_lt (n : ByteArray) (x0 x1 x2 : Int) (ls ts : List Pr) : nodeE n x0 x1 x2 ls ts ≤ 5 := by unfold nodeE; (repeat' split) <;> omega
theorem usedE_lt (x0 x1 x2 u0 u1 u2 : Int) : usedE x0 x1 x2 u0 u1 u2 ≤ 1 := by unfold usedE; split <;> omega
theorem loadE_lt (n : ByteArray) (x0 x1 x2 : Int) (ls ts : List Pr) (u0 u1 u2 : Int) : loadE n x0 x1 x2 ls ts u0 u1 u2 ≤ 5 := by
  unfold loadE
  have := nodeE_lt n x0 x1 x2 ls ts
  have := usedE_lt x0 x1 x2 u0 u1 u2
  split <;> omega
/-- What one kind is worth. -/
def kS (h u n : Int) : Int := if 0 < h then 1000 * (u + n) / h else 0
def sumS (x0 x1 x2 u0 u1 u2 n0 n1 n2 : Int) : Int := kS x0 u0 n0 + kS x1 u1 n1 + kS x2 u2 n2
def sumT (x0 x1 x2 u0 u1 u2 n0 n1 n2 : Int) : Nat → Int
  | 0 => 0
  | 1 => kS x0 u0 n0
  | 2 => kS x0 u0 n0 + kS x1 u1 n1
  | _ => sumS x0 x1 x2 u0 u1 u2 n0 n1 n2
theorem kS_in (h u n : Int) (h0 : 0 ≤ u + n) (h1 : u + n ≤ h) : 0 ≤ kS h u n ∧ kS h u n ≤ 1000 := by
  unfold kS
  split
  · rename_i hp
    refine ⟨Int.ediv_nonneg (by omega) (by omega), ?_⟩
    have : 1000 * (u + n) / h ≤ 1000 * h / h := Int.ediv_le_ediv hp (by omega)
    rwa [Int.mul_ediv_cancel _ (by omega)] at this
  · omega
theorem room_in (x0 x1 x2 u0 u1 u2 n0 n1 n2 : Int) (h : roomB x0 x1 x2 u0 u1 u2 n0 n1 n2 = true) :
    (0 ≤ u0 ∧ 0 ≤ n0 ∧ u0 + n0 ≤ x0 ∧ x0 ≤ 1099511627776) ∧ (0 ≤ u1 ∧ 0 ≤ n1 ∧ u1 + n1 ≤ x1 ∧ x1 ≤ 1099511627776) ∧ (0 ≤ u2 ∧ 0 ≤ n2 ∧ u2 + n2 ≤ x2 ∧ x2 ≤ 1099511627776) := by
  unfold roomB fitsB at h
  simp only [Bool.and_eq_true, decide_eq_true_eq] at h
  obtain ⟨h1, h2, h3, h4, h5, h6⟩ := h
  have a := upto_in _ _ _ _ h1
  have b := upto_in _ _ _ _ h2
  have c := upto_in _ _ _ _ h3
  omega
theorem sumS_in (x0 x1 x2 u0 u1 u2 n0 n1 n2 : Int) (h : roomB x0 x1 x2 u0 u1 u2 n0 n1 n2 = true) : 0 ≤ sumS x0 x1 x2 u0 u1 u2 n0 n1 n2 ∧ sumS x0 x1 x2 u0 u1 u2 n0 n1 n2 ≤ 3000 := by
  have := room_in _ _ _ _ _ _ _ _ _ h
  have a := kS_in x0 u0 n0 (by omega) (by omega)
  have b := kS_in x1 u1 n1 (by omega) (by omega)
  have c := kS_in x2 u2 n2 (by omega) (by omega)
  unfold sumS
  omega
/-- The error of a score: te the task's, le the load's. -/
def fitE (te le : Nat) (s r : Bool) : Nat := if te = 0 then (if le = 0 then (if s = true then (if r = true then 0 else 13) else 13) else le) else te
theorem fitE_0 (te le : Nat) (s r : Bool) : fitE te le s r = 0 ↔ te = 0 ∧ le = 0 ∧ s = true ∧ r = true := by
  unfold fitE
  cases s <;> cases r <;> by_cases h1 : te = 0 <;> by_cases h2 : le = 0 <;> simp [h1, h2]
def fitV (e : Nat) (v : Int) : Int := if e = 0 then v else 0
/-- The best of the first k: ok whether one has a place, v its score, lt whose name is less. -/
def bestK (ok : Nat → Bool) (v : Nat → Int) (lt : Nat → Nat → Bool) : Nat → Option Nat
  | 0 => none
  | k + 1 => if ok k = true then (match bestK ok v lt k with
    | none => some k
    | some b => if v b < v k ∨ (v k = v b ∧ lt k b = true) then some k else some b) else bestK ok v lt k
theorem bestK_lt (ok : Nat → Bool) (v : Nat → Int) (lt : Nat → Nat → Bool) : ∀ k b, bestK ok v lt k = some b → b < k ∧ ok b = true
  | 0, b, h => by cases h
  | k + 1, b, h => by
    unfold bestK at h
    by_cases hk : ok k = true
    · rw [if_pos hk] at h
      cases hb : bestK ok v lt k with
      | none => rw [hb] at h; cases h; exact ⟨by omega, hk⟩
      | some c =>
        rw [hb] at h
        simp only at h
        split at h
        · cases h; exact ⟨by omega, hk⟩
        · cases h
          have := bestK_lt ok v lt k _ hb
          exact ⟨by omega, this.2⟩
    · rw [if_neg hk] at h
      have := bestK_lt ok v lt k b h
      exact ⟨by omega, this.2⟩
end Rg
end Go.Proofs.YthbmnkeigmbbdaaGreat

/-
  WHICH LOAD IS RIGHT: score.Check and the document's.
-/
namespace Go.Proofs.YthbmnkeigmbbdaaGreat
open Go.RowKit
namespace Rg
set_option maxRecDepth 100000 in
set_option maxHeartbeats 4000000 in
theorem lcheck_any (xn : ByteArray) (x0 x1 x2 : Int) (xla xta : Option Addr) (xln xlc xtn xtc : Nat) (xu0 xu1 xu2 : Int) (ls ts : List Pr) (w : World) (hs : xn.size ≤ maxLen) (h1 : Pairs w w.heap.size (.slice xla xln xlc) ls) (h2 : Pairs w w.heap.size (.slice xta xtn xtc) ts) :
    Calls Tryz.prog 136 #[.agg #[.string xn, .int .i64 x0, .int .i64 x1, .int .i64 x2, .slice xla xln xlc, .slice xta xtn xtc, .int .i64 xu0, .int .i64 xu1, .int .i64 xu2]] w fun e w' => e = .returned (.int .i64 (loadE xn x0 x1 x2 ls ts xu0 xu1 xu2 : Nat)) ∧ Below w.heap.size w w' := by
  have H1 : Hid (∀ x, Below w.heap.size w x → Calls Tryz.prog 61 #[.agg #[.string xn, .int .i64 x0, .int .i64 x1, .int .i64 x2, .slice xla xln xlc, .slice xta xtn xtc]] x fun e w' => e = .returned (.int .i64 (nodeE xn x0 x1 x2 ls ts : Nat)) ∧ Below x.heap.size x w') := fun x hb => node_any xn x0 x1 x2 xla xta xln xlc xtn xtc ls ts x hs (h1.ovr hb) (h2.ovr hb)
  have HE : Hid (loadE xn x0 x1 x2 ls ts xu0 xu1 xu2 = if nodeE xn x0 x1 x2 ls ts = 0 then usedE x0 x1 x2 xu0 xu1 xu2 else nodeE xn x0 x1 x2 ls ts) := rfl
  have HB0 := Lib.hid (one_ w (.cells #[.string xn, .int .i64 x0, .int .i64 x1, .int .i64 x2, .slice xla xln xlc, .slice xta xtn xtc, .int .i64 xu0, .int .i64 xu1, .int .i64 xu2] 47))
  clear h1 h2
  generalize nodeE xn x0 x1 x2 ls ts = r at *
  have A0 := arr0 xu0 xu1 xu2
  have A1 := arr1 xu0 xu1 xu2
  have A2 := arr2 xu0 xu1 xu2
  go_enter Tryz.func136, Tryz.ntmps136
  go_wp2_with fail
  refine (H1.out _ HB0.out).mono ?_
  rintro e w1 ⟨rfl, hb⟩
  have c1 := (boxed1 hb).1
  have HW := Lib.hid (boxed1 hb).2
  clear hb
  by_cases hr : r = 0
  · subst hr
    have HN : Hid (loadE xn x0 x1 x2 ls ts xu0 xu1 xu2 = usedE x0 x1 x2 xu0 xu1 xu2) := HE.out
    clear HE H1
    go_wp2
    go_loopg [14] 3 (fun g i wx => wx = w1 ∧ ∃ k : Nat, k + g = 3 ∧ i = .int .i64 k ∧ Aside (usedT x0 x1 x2 xu0 xu1 xu2 k = true))
    case atStart => exact ⟨rfl, 0, by omega, rfl, by show _ = _; rfl⟩
    case round =>
      obtain ⟨rfl, k, hkg, rfl, HA⟩ := hrel
      cases gk with
      | zero =>
        obtain rfl : k = 3 := by omega
        clear hkg
        go_wp2
        go_ret
        exact ⟨by rw [HN.out, usedE, show usedB x0 x1 x2 xu0 xu1 xu2 = true from HA.out]; rfl, HW.out⟩
      | succ g =>
        have HG := Lib.hid hkg
        have h3 : k = 0 ∨ k = 1 ∨ k = 2 := by omega
        clear hkg
        rcases h3 with rfl | rfl | rfl
        · by_cases hn : xu0 < 0
          · have HR := Lib.hid (used_no0 x0 x1 x2 xu0 xu1 xu2 (.inl hn))
            go_wp2
            go_ret
            exact ⟨by rw [HN.out, usedE, HR.out]; rfl, HW.out⟩
          · by_cases hm : x0 < xu0
            · have HR := Lib.hid (used_no0 x0 x1 x2 xu0 xu1 xu2 (.inr hm))
              have hn' : decide (xu0 < 0) = false := by simpa using hn
              go_wp2
              go_ret
              exact ⟨by rw [HN.out, usedE, HR.out]; rfl, HW.out⟩
            · have HY := Lib.hid (inB_yes _ _ hn hm)
              have hn' : decide (xu0 < 0) = false := by simpa using hn
              have hm' : decide (x0 < xu0) = false := by simpa using hm
              go_wp2
              go_roundg g
              case measure => omega
              case rel => exact ⟨rfl, 1, by have := HG.out; omega, rfl, HY.out⟩
        · by_cases hn : xu1 < 0
          · have HR := Lib.hid (used_no1 x0 x1 x2 xu0 xu1 xu2 (.inl hn))
            go_wp2
            go_ret
            exact ⟨by rw [HN.out, usedE, HR.out]; rfl, HW.out⟩
          · by_cases hm : x1 < xu1
            · have HR := Lib.hid (used_no1 x0 x1 x2 xu0 xu1 xu2 (.inr hm))
              have hn' : decide (xu1 < 0) = false := by simpa using hn
              go_wp2
              go_ret
              exact ⟨by rw [HN.out, usedE, HR.out]; rfl, HW.out⟩
            · have HY := Lib.hid (inB_yes _ _ hn hm)
              have hn' : decide (xu1 < 0) = false := by simpa using hn
              have hm' : decide (x1 < xu1) = false := by simpa using hm
              go_wp2
              go_roundg g
              case measure => omega
              case rel => exact ⟨rfl, 2, by have := HG.out; omega, rfl, by show (inB xu0 x0 && inB xu1 x1) = true; rw [show inB xu0 x0 = true from HA.out, HY.out]; rfl⟩
        · by_cases hn : xu2 < 0
          · have HR := Lib.hid (used_no2 x0 x1 x2 xu0 xu1 xu2 (.inl hn))
            go_wp2
            go_ret
            exact ⟨by rw [HN.out, usedE, HR.out]; rfl, HW.out⟩
          · by_cases hm : x2 < xu2
            · have HR := Lib.hid (used_no2 x0 x1 x2 xu0 xu1 xu2 (.inr hm))
              have hn' : decide (xu2 < 0) = false := by simpa using hn
              go_wp2
              go_ret
              exact ⟨by rw [HN.out, usedE, HR.out]; rfl, HW.out⟩
            · have HY := Lib.hid (inB_yes _ _ hn hm)
              have hn' : decide (xu2 < 0) = false := by simpa using hn
              have hm' : decide (x2 < xu2) = false := by simpa using hm
              go_wp2
              go_roundg g
              case measure => omega
              case rel => exact ⟨rfl, 3, by have := HG.out; omega, rfl, by
              have h : (inB xu0 x0 && inB xu1 x1) = true := HA.out
              show (inB xu0 x0 && (inB xu1 x1 && inB xu2 x2)) = true
              rw [← Bool.and_assoc, h, HY.out]; rfl⟩
  · have HN : Hid (loadE xn x0 x1 x2 ls ts xu0 xu1 xu2 = r) := HE.out.trans (if_neg hr)
    have hr2 : ¬ (r : Int) = 0 := by omega
    go_wp2
    go_ret
    exact ⟨by rw [HN.out]; rfl, HW.out⟩
end Rg
end Go.Proofs.YthbmnkeigmbbdaaGreat

/-
  WHAT A SCORE IS: score.sum.
-/
namespace Go.Proofs.YthbmnkeigmbbdaaGreat
open Go.RowKit
namespace Rg
theorem kS_pos (h u n : Int) (hp : 0 < h) : kS h u n = 1000 * (u + n) / h := if_pos hp
theorem kS_no (h u n : Int) (hp : ¬ 0 < h) : kS h u n = 0 := if_neg hp
set_option maxRecDepth 100000 in
set_option maxHeartbeats 4000000 in
theorem sum_of (yn yg ya : ByteArray) (y0 y1 y2 yr : Int) (ywa yba : Option Addr) (ywn ywc ybn ybc : Nat) (xn : ByteArray) (x0 x1 x2 : Int) (xla xta : Option Addr) (xln xlc xtn xtc : Nat) (xu0 xu1 xu2 : Int) (w : World) (hr : roomB x0 x1 x2 xu0 xu1 xu2 y0 y1 y2 = true) :
    Calls Tryz.prog 137 #[.agg #[.string yn, .int .i64 y0, .int .i64 y1, .int .i64 y2, .slice ywa ywn ywc, .slice yba ybn ybc, .string yg, .string ya, .int .i64 yr], .agg #[.string xn, .int .i64 x0, .int .i64 x1, .int .i64 x2, .slice xla xln xlc, .slice xta xtn xtc, .int .i64 xu0, .int .i64 xu1, .int .i64 xu2]] w fun e w' => e = .returned (.int .i64 (sumS x0 x1 x2 xu0 xu1 xu2 y0 y1 y2)) ∧ Below w.heap.size w w' := by
  have hin := room_in _ _ _ _ _ _ _ _ _ hr
  have b0 := kS_in x0 xu0 y0 (by omega) (by omega)
  have b1 := kS_in x1 xu1 y1 (by omega) (by omega)
  have b2 := kS_in x2 xu2 y2 (by omega) (by omega)
  have HS : Hid (sumS x0 x1 x2 xu0 xu1 xu2 y0 y1 y2 = kS x0 xu0 y0 + kS x1 xu1 y1 + kS x2 xu2 y2) := rfl
  have T0 : Hid (sumT x0 x1 x2 xu0 xu1 xu2 y0 y1 y2 0 = 0) := rfl
  have T1 : Hid (sumT x0 x1 x2 xu0 xu1 xu2 y0 y1 y2 1 = kS x0 xu0 y0) := rfl
  have T2 : Hid (sumT x0 x1 x2 xu0 xu1 xu2 y0 y1 y2 2 = kS x0 xu0 y0 + kS x1 xu1 y1) := rfl
  have T3 : Hid (sumT x0 x1 x2 xu0 xu1 xu2 y0 y1 y2 3 = sumS x0 x1 x2 xu0 xu1 xu2 y0 y1 y2) := rfl
  have P0 := Lib.hid (kS_pos x0 xu0 y0)
  have P1 := Lib.hid (kS_pos x1 xu1 y1)
  have P2 := Lib.hid (kS_pos x2 xu2 y2)
  have Q0 := Lib.hid (kS_no x0 xu0 y0)
  have Q1 := Lib.hid (kS_no x1 xu1 y1)
  have Q2 := Lib.hid (kS_no x2 xu2 y2)
  generalize kS x0 xu0 y0 = s0 at *
  generalize kS x1 xu1 y1 = s1 at *
  generalize kS x2 xu2 y2 = s2 at *
  clear hr
  obtain ⟨⟨p0, q0, r0, m0⟩, ⟨p1, q1, r1, m1⟩, p2, q2, r2, m2⟩ := hin
  obtain ⟨i0, j0⟩ := b0
  obtain ⟨i1, j1⟩ := b1
  obtain ⟨i2, j2⟩ := b2
  have A0 := arr0 x0 x1 x2
  have A1 := arr1 x0 x1 x2
  have A2 := arr2 x0 x1 x2
  have HW := Lib.hid (two w (.cells #[.string yn, .int .i64 y0, .int .i64 y1, .int .i64 y2, .slice ywa ywn ywc, .slice yba ybn ybc, .string yg, .string ya, .int .i64 yr] 42) (.cells #[.string xn, .int .i64 x0, .int .i64 x1, .int .i64 x2, .slice xla xln xlc, .slice xta xtn xtc, .int .i64 xu0, .int .i64 xu1, .int .i64 xu2] 47))
  go_enter Tryz.func137, Tryz.ntmps137
  go_wp2
  go_loopg [5, 11] 3 (fun g s i wx => (∃ n, wx = ((w.alloc (.cells #[.string yn, .int .i64 y0, .int .i64 y1, .int .i64 y2, .slice ywa ywn ywc, .slice yba ybn ybc, .string yg, .string ya, .int .i64 yr] 42)).alloc (.cells #[.string xn, .int .i64 x0, .int .i64 x1, .int .i64 x2, .slice xla xln xlc, .slice xta xtn xtc, .int .i64 xu0, .int .i64 xu1, .int .i64 xu2] 47)).drewN n) ∧ ∃ k : Nat, k + g = 3 ∧ i = .int .i64 k ∧ s = .int .i64 (sumT x0 x1 x2 xu0 xu1 xu2 y0 y1 y2 k))
  case atStart => exact ⟨⟨0, rfl⟩, 0, by omega, rfl, by rw [T0.out]⟩
  case round =>
    obtain ⟨⟨n, rfl⟩, k, hkg, rfl, rfl⟩ := hrel
    cases gk with
    | zero =>
      obtain rfl : k = 3 := by omega
      clear hkg
      go_wp2
      go_ret
      exact ⟨by rw [T3.out]; rfl, bdN HW.out _⟩
    | succ g =>
      have HG := Lib.hid hkg
      have h3 : k = 0 ∨ k = 1 ∨ k = 2 := by omega
      clear hkg
      rcases h3 with rfl | rfl | rfl
      · rw [T0.out]
        by_cases hh : 0 < x0
        · have HP := Lib.hid (P0.out hh)
          have t0 : IntKind.i64.wrap (xu0 + y0) = xu0 + y0 := by rw [IntKind.wrap_i64]; omega
          have t1 : IntKind.i64.wrap (1000 * (xu0 + y0)) = 1000 * (xu0 + y0) := by rw [IntKind.wrap_i64]; omega
          have t2 : IntKind.i64.wrap s0 = s0 := by rw [IntKind.wrap_i64]; omega
          have t4 : 0 ≤ 1000 * (xu0 + y0) := by omega
          rw [HP.out] at t2
          go_wp2
          go_quiet (fail)
          go_wp2
          go_roundg g
          case measure => omega
          case rel => exact ⟨⟨_, rfl⟩, 1, by have := HG.out; omega, rfl, by rw [T1.out, HP.out]⟩
        · have HP := Lib.hid (Q0.out (Int.not_lt.1 hh))
          have hh' : decide (0 < x0) = false := by simpa using hh
          go_wp2
          go_roundg g
          case measure => omega
          case rel => exact ⟨⟨_, rfl⟩, 1, by have := HG.out; omega, rfl, by rw [T1.out, HP.out]⟩
      · rw [T1.out]
        by_cases hh : 0 < x1
        · have HP := Lib.hid (P1.out hh)
          have t0 : IntKind.i64.wrap (xu1 + y1) = xu1 + y1 := by rw [IntKind.wrap_i64]; omega
          have t1 : IntKind.i64.wrap (1000 * (xu1 + y1)) = 1000 * (xu1 + y1) := by rw [IntKind.wrap_i64]; omega
          have t2 : IntKind.i64.wrap (s0 + s1) = s0 + s1 := by rw [IntKind.wrap_i64]; omega
          have t4 : 0 ≤ 1000 * (xu1 + y1) := by omega
          rw [HP.out] at t2
          go_wp2
          go_quiet (fail)
          go_wp2
          go_roundg g
          case measure => omega
          case rel => exact ⟨⟨_, rfl⟩, 2, by have := HG.out; omega, rfl, by rw [T2.out, HP.out]⟩
        · have HP := Lib.hid (Q1.out (Int.not_lt.1 hh))
          have hh' : decide (0 < x1) = false := by simpa using hh
          go_wp2
          go_roundg g
          case measure => omega
          case rel => exact ⟨⟨_, rfl⟩, 2, by have := HG.out; omega, rfl, by rw [T2.out, HP.out]; go_num⟩
      · rw [T2.out]
        by_cases hh : 0 < x2
        · have HP := Lib.hid (P2.out hh)
          have t0 : IntKind.i64.wrap (xu2 + y2) = xu2 + y2 := by rw [IntKind.wrap_i64]; omega
          have t1 : IntKind.i64.wrap (1000 * (xu2 + y2)) = 1000 * (xu2 + y2) := by rw [IntKind.wrap_i64]; omega
          have t2 : IntKind.i64.wrap ((s0 + s1) + s2) = (s0 + s1) + s2 := by rw [IntKind.wrap_i64]; omega
          have t4 : 0 ≤ 1000 * (xu2 + y2) := by omega
          rw [HP.out] at t2
          go_wp2
          go_quiet (fail)
          go_wp2
          go_roundg g
          case measure => omega
          case rel => exact ⟨⟨_, rfl⟩, 3, by have := HG.out; omega, rfl, by rw [T3.out, HS.out, HP.out]⟩
        · have HP := Lib.hid (Q2.out (Int.not_lt.1 hh))
          have hh' : decide (0 < x2) = false := by simpa using hh
          go_wp2
          go_roundg g
          case measure => omega
          case rel => exact ⟨⟨_, rfl⟩, 3, by have := HG.out; omega, rfl, by rw [T3.out, HS.out, HP.out]; go_num⟩
end Rg
end Go.Proofs.YthbmnkeigmbbdaaGreat

/-
  A SCORE: score.Score.
-/
namespace Go.Proofs.YthbmnkeigmbbdaaGreat
open Go.RowKit
namespace Rg
/-- What Score answers: the score v, if the error is none. -/
def ScoreIs (er : Nat) (v : Int) (e : Ending) : Prop := e = .returned (.tuple #[.int .i64 (fitV er v), .int .i64 (er : Nat)])
theorem ScoreIs.no {er : Nat} {v : Int} (h : ¬ er = 0) : ScoreIs er v (.returned (.tuple #[.int .i64 0, .int .i64 (er : Nat)])) := by unfold ScoreIs fitV; rw [if_neg h]
theorem ScoreIs.yes {v : Int} : ScoreIs 0 v (.returned (.tuple #[.int .i64 v, .int .i64 0])) := by unfold ScoreIs fitV; rw [if_pos rfl]; rfl
theorem boxedL {w w1 : World} {a b : Array Value} {t u : TypeId} (hb : Below ((w.alloc (.cells a t)).alloc (.cells b u)).heap.size ((w.alloc (.cells a t)).alloc (.cells b u)) w1) :
    (∀ i, w1.cell? ⟨w.heap.size, i, none⟩ = a[i]?) ∧ (∀ i, w1.cell? ⟨w.heap.size + 1, i, none⟩ = b[i]?) ∧ Below w.heap.size w w1 := by
  refine ⟨fun i => ?_, fun i => ?_, (two w _ _).trans (hb.mono (by simp; omega))⟩
  · rw [hb.cell (by simp; omega)]
    simp [go_sem]
  · rw [hb.cell (by simp)]
    simp [go_sem]
set_option maxRecDepth 100000 in
set_option maxHeartbeats 4000000 in
theorem score_any (yn yg ya : ByteArray) (y0 y1 y2 yr : Int) (ywa yba : Option Addr) (ywn ywc ybn ybc : Nat) (xn : ByteArray) (x0 x1 x2 : Int) (xla xta : Option Addr) (xln xlc xtn xtc : Nat) (xu0 xu1 xu2 : Int) (ws bs ls ts : List Pr) (w : World) (hx : xn.size ≤ maxLen) (hy : yn.size ≤ maxLen ∧ yg.size ≤ maxLen ∧ ya.size ≤ maxLen)
    (h1 : Pairs w w.heap.size (.slice ywa ywn ywc) ws) (h2 : Pairs w w.heap.size (.slice yba ybn ybc) bs) (h3 : Pairs w w.heap.size (.slice xla xln xlc) ls) (h4 : Pairs w w.heap.size (.slice xta xtn xtc) ts) :
    Calls Tryz.prog 75 #[.agg #[.string yn, .int .i64 y0, .int .i64 y1, .int .i64 y2, .slice ywa ywn ywc, .slice yba ybn ybc, .string yg, .string ya, .int .i64 yr], .agg #[.string xn, .int .i64 x0, .int .i64 x1, .int .i64 x2, .slice xla xln xlc, .slice xta xtn xtc, .int .i64 xu0, .int .i64 xu1, .int .i64 xu2]] w fun e w' => ScoreIs (fitE (taskE yn yg ya y0 y1 y2 yr ws bs) (loadE xn x0 x1 x2 ls ts xu0 xu1 xu2) (suitB ws ls ts bs) (roomB x0 x1 x2 xu0 xu1 xu2 y0 y1 y2)) (sumS x0 x1 x2 xu0 xu1 xu2 y0 y1 y2) e ∧ Below w.heap.size w w' := by
  have K1 : Hid (∀ z, Below w.heap.size w z → Calls Tryz.prog 64 #[.agg #[.string yn, .int .i64 y0, .int .i64 y1, .int .i64 y2, .slice ywa ywn ywc, .slice yba ybn ybc, .string yg, .string ya, .int .i64 yr]] z fun e w' => e = .returned (.int .i64 (taskE yn yg ya y0 y1 y2 yr ws bs : Nat)) ∧ Below z.heap.size z w') := fun z hb => task_any yn yg ya y0 y1 y2 yr ywa yba ywn ywc ybn ybc ws bs z hy (h1.ovr hb) (h2.ovr hb)
  have K2 : Hid (∀ z, Below w.heap.size w z → Calls Tryz.prog 136 #[.agg #[.string xn, .int .i64 x0, .int .i64 x1, .int .i64 x2, .slice xla xln xlc, .slice xta xtn xtc, .int .i64 xu0, .int .i64 xu1, .int .i64 xu2]] z fun e w' => e = .returned (.int .i64 (loadE xn x0 x1 x2 ls ts xu0 xu1 xu2 : Nat)) ∧ Below z.heap.size z w') := fun z hb => lcheck_any xn x0 x1 x2 xla xta xln xlc xtn xtc xu0 xu1 xu2 ls ts z hx (h3.ovr hb) (h4.ovr hb)
  have K3 : Hid (∀ z, Below w.heap.size w z → Calls Tryz.prog 126 #[.agg #[.string yn, .int .i64 y0, .int .i64 y1, .int .i64 y2, .slice ywa ywn ywc, .slice yba ybn ybc, .string yg, .string ya, .int .i64 yr], .agg #[.string xn, .int .i64 x0, .int .i64 x1, .int .i64 x2, .slice xla xln xlc, .slice xta xtn xtc]] z fun e w' => e = .returned (.bool (suitB ws ls ts bs)) ∧ Below z.heap.size z w') := fun z hb => suits_any yn yg ya y0 y1 y2 yr ywa yba ywn ywc ybn ybc xn x0 x1 x2 xla xta xln xlc xtn xtc ws bs ls ts z (h1.ovr hb) (h2.ovr hb) (h3.ovr hb) (h4.ovr hb)
  have K4 : Hid (∀ z, Calls Tryz.prog 127 #[.agg #[.string xn, .int .i64 x0, .int .i64 x1, .int .i64 x2, .slice xla xln xlc, .slice xta xtn xtc], .agg #[.int .i64 xu0, .int .i64 xu1, .int .i64 xu2], .agg #[.int .i64 y0, .int .i64 y1, .int .i64 y2]] z fun e w' => e = .returned (.bool (roomB x0 x1 x2 xu0 xu1 xu2 y0 y1 y2)) ∧ Below z.heap.size z w') := fun z => room_any xn x0 x1 x2 xla xta xln xlc xtn xtc xu0 xu1 xu2 y0 y1 y2 z
  have K5 : Hid (roomB x0 x1 x2 xu0 xu1 xu2 y0 y1 y2 = true → ∀ z, Calls Tryz.prog 137 #[.agg #[.string yn, .int .i64 y0, .int .i64 y1, .int .i64 y2, .slice ywa ywn ywc, .slice yba ybn ybc, .string yg, .string ya, .int .i64 yr], .agg #[.string xn, .int .i64 x0, .int .i64 x1, .int .i64 x2, .slice xla xln xlc, .slice xta xtn xtc, .int .i64 xu0, .int .i64 xu1, .int .i64 xu2]] z fun e w' => e = .returned (.int .i64 (sumS x0 x1 x2 xu0 xu1 xu2 y0 y1 y2)) ∧ Below z.heap.size z w') := fun h z => sum_of yn yg ya y0 y1 y2 yr ywa yba ywn ywc ybn ybc xn x0 x1 x2 xla xta xln xlc xtn xtc xu0 xu1 xu2 z h
  have HE : Hid (∀ te le s r, fitE te le s r = if te = 0 then (if le = 0 then (if s = true then (if r = true then 0 else 13) else 13) else le) else te) := fun _ _ _ _ => rfl
  have HB0 := Lib.hid (Below.refl ((w.alloc (.cells #[.string yn, .int .i64 y0, .int .i64 y1, .int .i64 y2, .slice ywa ywn ywc, .slice yba ybn ybc, .string yg, .string ya, .int .i64 yr] 42)).alloc (.cells #[.string xn, .int .i64 x0, .int .i64 x1, .int .i64 x2, .slice xla xln xlc, .slice xta xtn xtc, .int .i64 xu0, .int .i64 xu1, .int .i64 xu2] 47)).heap.size ((w.alloc (.cells #[.string yn, .int .i64 y0, .int .i64 y1, .int .i64 y2, .slice ywa ywn ywc, .slice yba ybn ybc, .string yg, .string ya, .int .i64 yr] 42)).alloc (.cells #[.string xn, .int .i64 x0, .int .i64 x1, .int .i64 x2, .slice xla xln xlc, .slice xta xtn xtc, .int .i64 xu0, .int .i64 xu1, .int .i64 xu2] 47)))
  clear h1 h2 h3 h4 hx hy
  generalize taskE yn yg ya y0 y1 y2 yr ws bs = te at *
  generalize loadE xn x0 x1 x2 ls ts xu0 xu1 xu2 = le at *
  generalize suitB ws ls ts bs = s at *
  generalize roomB x0 x1 x2 xu0 xu1 xu2 y0 y1 y2 = r at *
  generalize sumS x0 x1 x2 xu0 xu1 xu2 y0 y1 y2 = sv at *
  go_enter Tryz.func75, Tryz.ntmps75
  go_wp2_with fail
  refine (K1.out _ (boxedL HB0.out).2.2).mono ?_
  rintro e w1 ⟨rfl, hb⟩
  have HB1 := Lib.hid (HB0.out.trans (hb.mono HB0.out.size))
  clear hb
  obtain ⟨c0, c1, -⟩ := boxedL HB1.out
  by_cases ht : te = 0
  · subst ht
    go_wp2_with fail
    refine (K2.out _ (boxedL HB1.out).2.2).mono ?_
    rintro e w2 ⟨rfl, hb⟩
    have HB2 := Lib.hid (HB1.out.trans (hb.mono HB1.out.size))
    clear hb c0 c1
    obtain ⟨c0, c1, -⟩ := boxedL HB2.out
    by_cases hl : le = 0
    · subst hl
      go_wp2_with fail
      refine (K3.out _ (boxedL HB2.out).2.2).mono ?_
      rintro e w3 ⟨rfl, hb⟩
      have HB3 := Lib.hid (HB2.out.trans (hb.mono HB2.out.size))
      clear hb c0 c1
      obtain ⟨c0, c1, -⟩ := boxedL HB3.out
      cases s
      · have HN : Hid (fitE 0 0 false r = 13) := HE.out _ _ _ _
        go_wp2
        go_ret2
        exact ⟨by rw [HN.out]; exact ScoreIs.no (by decide), (boxedL HB3.out).2.2⟩
      · go_wp2_with fail
        refine (K4.out _).mono ?_
        rintro e w4 ⟨rfl, hb⟩
        have HB4 := Lib.hid (HB3.out.trans (hb.mono HB3.out.size))
        clear hb c0 c1
        obtain ⟨c0, c1, -⟩ := boxedL HB4.out
        cases r
        · have HN : Hid (fitE 0 0 true false = 13) := HE.out _ _ _ _
          go_wp2
          go_ret2
          exact ⟨by rw [HN.out]; exact ScoreIs.no (by decide), (boxedL HB4.out).2.2⟩
        · have HN : Hid (fitE 0 0 true true = 0) := HE.out _ _ _ _
          go_wp2_with fail
          refine (K5.out (by first | rfl | trivial) _).mono ?_
          rintro e w5 ⟨rfl, hb⟩
          have HB5 := Lib.hid (HB4.out.trans (hb.mono HB4.out.size))
          clear hb c0 c1
          go_wp2
          go_ret2
          exact ⟨by rw [HN.out]; exact ScoreIs.yes, (boxedL HB5.out).2.2⟩
    · have HN : Hid (fitE 0 le s r = le) := (HE.out _ _ _ _).trans ((if_pos rfl).trans (if_neg hl))
      have hl2 : ¬ (le : Int) = 0 := by omega
      go_wp2
      go_ret2
      exact ⟨by rw [HN.out]; exact ScoreIs.no hl, (boxedL HB2.out).2.2⟩
  · have HN : Hid (fitE te le s r = te) := (HE.out _ _ _ _).trans (if_neg ht)
    have ht2 : ¬ (te : Int) = 0 := by omega
    go_wp2
    go_ret2
    exact ⟨by rw [HN.out]; exact ScoreIs.no ht, (boxedL HB1.out).2.2⟩
end Rg
end Go.Proofs.YthbmnkeigmbbdaaGreat
