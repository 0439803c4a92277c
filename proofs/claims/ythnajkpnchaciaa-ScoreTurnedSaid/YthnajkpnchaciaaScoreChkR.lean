/-
  WHICH LOAD IS RIGHT, second part: the document's Check.
-/
import Derived.Test.YthnajkpnchaciaaScoreMath
namespace Go.Proofs.Ythnajkpnchaciaa
open Go.RowKit
namespace Rg
theorem used_stay (x0 x1 x2 u0 u1 u2 : Int) (k q : Nat) (hq : ¬ q = 0) (h : q = (if usedT x0 x1 x2 u0 u1 u2 k = true then 0 else 1)) : q = (if usedT x0 x1 x2 u0 u1 u2 (k + 1) = true then 0 else 1) := by
  by_cases hu : usedT x0 x1 x2 u0 u1 u2 k = true
  · rw [if_pos hu] at h; exact absurd h hq
  · rw [if_neg hu] at h
    have : usedT x0 x1 x2 u0 u1 u2 (k + 1) = false := by
      match k with
      | 0 => exact absurd rfl hu
      | 1 => show (inB u0 x0 && inB u1 x1) = false; have h9 : inB u0 x0 = false := Bool.eq_false_iff.2 hu
             rw [h9]; rfl
      | 2 => show (inB u0 x0 && (inB u1 x1 && inB u2 x2)) = false; have h9 : (inB u0 x0 && inB u1 x1) = false := Bool.eq_false_iff.2 hu
             rw [← Bool.and_assoc, h9]; rfl
      | k + 3 => exact Bool.eq_false_iff.2 hu
    rw [this]; exact h
theorem used_all (x0 x1 x2 u0 u1 u2 : Int) (k : Nat) (h : 0 = (if usedT x0 x1 x2 u0 u1 u2 k = true then 0 else 1)) : usedT x0 x1 x2 u0 u1 u2 k = true := by
  by_cases hu : usedT x0 x1 x2 u0 u1 u2 k = true
  · exact hu
  · rw [if_neg hu] at h; cases h
theorem used_go (x0 x1 x2 u0 u1 u2 : Int) (k : Nat) (u m : Int) (h : usedT x0 x1 x2 u0 u1 u2 (k + 1) = (usedT x0 x1 x2 u0 u1 u2 k && inB u m)) (hk : 0 = (if usedT x0 x1 x2 u0 u1 u2 k = true then 0 else 1)) :
    (u < 0 ∨ m < u → 1 = (if usedT x0 x1 x2 u0 u1 u2 (k + 1) = true then 0 else 1)) ∧ (¬ u < 0 → ¬ m < u → 0 = (if usedT x0 x1 x2 u0 u1 u2 (k + 1) = true then 0 else 1)) := by
  rw [h, used_all _ _ _ _ _ _ _ hk]
  exact ⟨fun h => by rw [inB_no _ _ h]; rfl, fun h1 h2 => by rw [inB_yes _ _ h1 h2]; rfl⟩
theorem usedT1 (x0 x1 x2 u0 u1 u2 : Int) : usedT x0 x1 x2 u0 u1 u2 1 = (usedT x0 x1 x2 u0 u1 u2 0 && inB u0 x0) := by show inB u0 x0 = (true && inB u0 x0); rfl
theorem usedT2 (x0 x1 x2 u0 u1 u2 : Int) : usedT x0 x1 x2 u0 u1 u2 2 = (usedT x0 x1 x2 u0 u1 u2 1 && inB u1 x1) := rfl
theorem usedT3 (x0 x1 x2 u0 u1 u2 : Int) : usedT x0 x1 x2 u0 u1 u2 3 = (usedT x0 x1 x2 u0 u1 u2 2 && inB u2 x2) := by show (inB u0 x0 && (inB u1 x1 && inB u2 x2)) = ((inB u0 x0 && inB u1 x1) && inB u2 x2); rw [Bool.and_assoc]
set_option maxRecDepth 100000 in
set_option maxHeartbeats 4000000 in
theorem lcheck_ref (xn : ByteArray) (x0 x1 x2 : Int) (xla xta : Option Addr) (xln xlc xtn xtc : Nat) (xu0 xu1 xu2 : Int) (ls ts : List Pr) (w : World) (hs : xn.size ≤ maxLen) (h1 : Pairs w w.heap.size (.slice xla xln xlc) ls) (h2 : Pairs w w.heap.size (.slice xta xtn xtc) ts) :
    Calls Try.prog 13 #[.agg #[.string xn, .int .i64 x0, .int .i64 x1, .int .i64 x2, .slice xla xln xlc, .slice xta xtn xtc, .int .i64 xu0, .int .i64 xu1, .int .i64 xu2]] w fun e w' => e = .returned (.int .i64 (loadE xn x0 x1 x2 ls ts xu0 xu1 xu2 : Nat)) ∧ Below w.heap.size w w' := by
  have H1 : Hid (∀ x, Below w.heap.size w x → Calls Try.prog 24 #[.agg #[.string xn, .int .i64 x0, .int .i64 x1, .int .i64 x2, .slice xla xln xlc, .slice xta xtn xtc]] x fun e w' => e = .returned (.int .i64 (nodeE xn x0 x1 x2 ls ts : Nat)) ∧ Below x.heap.size x w') := fun x hb => node_ref xn x0 x1 x2 xla xta xln xlc xtn xtc ls ts x hs (h1.ovr hb) (h2.ovr hb)
  have HE : Hid (loadE xn x0 x1 x2 ls ts xu0 xu1 xu2 = if nodeE xn x0 x1 x2 ls ts = 0 then usedE x0 x1 x2 xu0 xu1 xu2 else nodeE xn x0 x1 x2 ls ts) := rfl
  have HB0 := Lib.hid (one_ w (.cells #[.string xn, .int .i64 x0, .int .i64 x1, .int .i64 x2, .slice xla xln xlc, .slice xta xtn xtc, .int .i64 xu0, .int .i64 xu1, .int .i64 xu2] 29))
  clear h1 h2
  generalize nodeE xn x0 x1 x2 ls ts = r at *
  have A0 := arr0 xu0 xu1 xu2
  have A1 := arr1 xu0 xu1 xu2
  have A2 := arr2 xu0 xu1 xu2
  go_enter Try.func13, Try.ntmps13
  go_wp2_with fail
  refine (H1.out _ HB0.out).mono ?_
  rintro e w1 ⟨rfl, hb⟩
  have c1 := (boxed1 hb).1
  have HW := Lib.hid (boxed1 hb).2
  clear hb
  by_cases hr : r = 0
  · subst hr
    have HN : Hid (loadE xn x0 x1 x2 ls ts xu0 xu1 xu2 = usedE x0 x1 x2 xu0 xu1 xu2) := HE.out
    clear HE H1
    go_wp2
    go_loopg [3, 11] 3 (fun g why i wx => wx = w1 ∧ ∃ (k q : Nat), k + g = 3 ∧ i = .int .i64 k ∧ why = .int .i64 q ∧ Aside (q = (if usedT x0 x1 x2 xu0 xu1 xu2 k = true then 0 else 1)))
    case atStart => exact ⟨rfl, 0, 0, by omega, rfl, rfl, by show _ = _; rfl⟩
    case round =>
      obtain ⟨rfl, k, q, hkg, rfl, rfl, HA⟩ := hrel
      cases gk with
      | zero =>
        obtain rfl : k = 3 := by omega
        clear hkg
        go_wp2
        go_ret
        exact ⟨by rw [HN.out, usedE, HA.out]; rfl, HW.out⟩
      | succ g =>
        have HG := Lib.hid hkg
        have h3 : k = 0 ∨ k = 1 ∨ k = 2 := by omega
        clear hkg
        by_cases hq : q = 0
        · subst hq
          rcases h3 with rfl | rfl | rfl
          · have HU := Lib.hid (used_go x0 x1 x2 xu0 xu1 xu2 0 xu0 x0 (usedT1 _ _ _ _ _ _) HA.out)
            by_cases hn : xu0 < 0
            · have HR := Lib.hid (HU.out.1 (.inl hn))
              clear HA HU
              go_wp2
              go_roundg g
              case measure => omega
              case rel => exact ⟨rfl, 1, 1, by have := HG.out; omega, rfl, rfl, HR.out⟩
            · by_cases hm : x0 < xu0
              · have HR := Lib.hid (HU.out.1 (.inr hm))
                have hn' : decide (xu0 < 0) = false := by simpa using hn
                clear HA HU
                go_wp2
                go_roundg g
                case measure => omega
                case rel => exact ⟨rfl, 1, 1, by have := HG.out; omega, rfl, rfl, HR.out⟩
              · have HR := Lib.hid (HU.out.2 hn hm)
                have hn' : decide (xu0 < 0) = false := by simpa using hn
                have hm' : decide (x0 < xu0) = false := by simpa using hm
                clear HA HU
                go_wp2
                go_roundg g
                case measure => omega
                case rel => exact ⟨rfl, 1, 0, by have := HG.out; omega, rfl, rfl, HR.out⟩
          · have HU := Lib.hid (used_go x0 x1 x2 xu0 xu1 xu2 1 xu1 x1 (usedT2 _ _ _ _ _ _) HA.out)
            by_cases hn : xu1 < 0
            · have HR := Lib.hid (HU.out.1 (.inl hn))
              clear HA HU
              go_wp2
              go_roundg g
              case measure => omega
              case rel => exact ⟨rfl, 2, 1, by have := HG.out; omega, rfl, rfl, HR.out⟩
            · by_cases hm : x1 < xu1
              · have HR := Lib.hid (HU.out.1 (.inr hm))
                have hn' : decide (xu1 < 0) = false := by simpa using hn
                clear HA HU
                go_wp2
                go_roundg g
                case measure => omega
                case rel => exact ⟨rfl, 2, 1, by have := HG.out; omega, rfl, rfl, HR.out⟩
              · have HR := Lib.hid (HU.out.2 hn hm)
                have hn' : decide (xu1 < 0) = false := by simpa using hn
                have hm' : decide (x1 < xu1) = false := by simpa using hm
                clear HA HU
                go_wp2
                go_roundg g
                case measure => omega
                case rel => exact ⟨rfl, 2, 0, by have := HG.out; omega, rfl, rfl, HR.out⟩
          · have HU := Lib.hid (used_go x0 x1 x2 xu0 xu1 xu2 2 xu2 x2 (usedT3 _ _ _ _ _ _) HA.out)
            by_cases hn : xu2 < 0
            · have HR := Lib.hid (HU.out.1 (.inl hn))
              clear HA HU
              go_wp2
              go_roundg g
              case measure => omega
              case rel => exact ⟨rfl, 3, 1, by have := HG.out; omega, rfl, rfl, HR.out⟩
            · by_cases hm : x2 < xu2
              · have HR := Lib.hid (HU.out.1 (.inr hm))
                have hn' : decide (xu2 < 0) = false := by simpa using hn
                clear HA HU
                go_wp2
                go_roundg g
                case measure => omega
                case rel => exact ⟨rfl, 3, 1, by have := HG.out; omega, rfl, rfl, HR.out⟩
              · have HR := Lib.hid (HU.out.2 hn hm)
                have hn' : decide (xu2 < 0) = false := by simpa using hn
                have hm' : decide (x2 < xu2) = false := by simpa using hm
                clear HA HU
                go_wp2
                go_roundg g
                case measure => omega
                case rel => exact ⟨rfl, 3, 0, by have := HG.out; omega, rfl, rfl, HR.out⟩
        · have hq2 : ¬ (q : Int) = 0 := by omega
          have HQ := Lib.hid hq
          have HU := Lib.hid (used_stay x0 x1 x2 xu0 xu1 xu2 k q hq HA.out)
          rcases h3 with rfl | rfl | rfl
          · go_wp2
            go_roundg g
            case measure => omega
            case rel => exact ⟨rfl, 1, q, by have := HG.out; omega, rfl, rfl, HU.out⟩
          · go_wp2
            go_roundg g
            case measure => omega
            case rel => exact ⟨rfl, 2, q, by have := HG.out; omega, rfl, rfl, HU.out⟩
          · go_wp2
            go_roundg g
            case measure => omega
            case rel => exact ⟨rfl, 3, q, by have := HG.out; omega, rfl, rfl, HU.out⟩
  · have HN : Hid (loadE xn x0 x1 x2 ls ts xu0 xu1 xu2 = r) := HE.out.trans (if_neg hr)
    have hr2 : ¬ (r : Int) = 0 := by omega
    clear HE H1
    go_wp2
    go_loopg [3, 11] 3 (fun g why i wx => wx = w1 ∧ why = .int .i64 r ∧ ∃ k : Nat, k + g = 3 ∧ i = .int .i64 k)
    case atStart => exact ⟨rfl, rfl, 0, by omega, rfl⟩
    case round =>
      obtain ⟨rfl, rfl, k, hkg, rfl⟩ := hrel
      cases gk with
      | zero =>
        obtain rfl : k = 3 := by omega
        clear hkg
        go_wp2
        go_ret
        exact ⟨by rw [HN.out]; rfl, HW.out⟩
      | succ g =>
        have HG := Lib.hid hkg
        have h3 : k = 0 ∨ k = 1 ∨ k = 2 := by omega
        clear hkg
        rcases h3 with rfl | rfl | rfl
        · go_wp2
          go_roundg g
          case measure => omega
          case rel => exact ⟨rfl, rfl, 1, by have := HG.out; omega, rfl⟩
        · go_wp2
          go_roundg g
          case measure => omega
          case rel => exact ⟨rfl, rfl, 2, by have := HG.out; omega, rfl⟩
        · go_wp2
          go_roundg g
          case measure => omega
          case rel => exact ⟨rfl, rfl, 3, by have := HG.out; omega, rfl⟩
end Rg
end Go.Proofs.Ythnajkpnchaciaa
