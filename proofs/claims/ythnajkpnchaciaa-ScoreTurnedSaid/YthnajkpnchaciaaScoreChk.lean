/-
  WHICH LOAD IS RIGHT: score.Check and the document's.
-/
import Derived.Test.YthnajkpnchaciaaScoreMath
namespace Go.Proofs.Ythnajkpnchaciaa
open Go.RowKit
namespace Rg
set_option maxRecDepth 100000 in
set_option maxHeartbeats 4000000 in
theorem lcheck_any (xn : ByteArray) (x0 x1 x2 : Int) (xla xta : Option Addr) (xln xlc xtn xtc : Nat) (xu0 xu1 xu2 : Int) (ls ts : List Pr) (w : World) (hs : xn.size ≤ maxLen) (h1 : Pairs w w.heap.size (.slice xla xln xlc) ls) (h2 : Pairs w w.heap.size (.slice xta xtn xtc) ts) :
    Calls Try.prog 12 #[.agg #[.string xn, .int .i64 x0, .int .i64 x1, .int .i64 x2, .slice xla xln xlc, .slice xta xtn xtc, .int .i64 xu0, .int .i64 xu1, .int .i64 xu2]] w fun e w' => e = .returned (.int .i64 (loadE xn x0 x1 x2 ls ts xu0 xu1 xu2 : Nat)) ∧ Below w.heap.size w w' := by
  have H1 : Hid (∀ x, Below w.heap.size w x → Calls Try.prog 23 #[.agg #[.string xn, .int .i64 x0, .int .i64 x1, .int .i64 x2, .slice xla xln xlc, .slice xta xtn xtc]] x fun e w' => e = .returned (.int .i64 (nodeE xn x0 x1 x2 ls ts : Nat)) ∧ Below x.heap.size x w') := fun x hb => node_any xn x0 x1 x2 xla xta xln xlc xtn xtc ls ts x hs (h1.ovr hb) (h2.ovr hb)
  have HE : Hid (loadE xn x0 x1 x2 ls ts xu0 xu1 xu2 = if nodeE xn x0 x1 x2 ls ts = 0 then usedE x0 x1 x2 xu0 xu1 xu2 else nodeE xn x0 x1 x2 ls ts) := rfl
  have HB0 := Lib.hid (one_ w (.cells #[.string xn, .int .i64 x0, .int .i64 x1, .int .i64 x2, .slice xla xln xlc, .slice xta xtn xtc, .int .i64 xu0, .int .i64 xu1, .int .i64 xu2] 29))
  clear h1 h2
  generalize nodeE xn x0 x1 x2 ls ts = r at *
  have A0 := arr0 xu0 xu1 xu2
  have A1 := arr1 xu0 xu1 xu2
  have A2 := arr2 xu0 xu1 xu2
  go_enter Try.func12, Try.ntmps12
  go_wp2_with fail
  refine (H1.out _ HB0.out).mono ?_
  rintro e w1 ⟨rfl, hb⟩
  have c1 := (boxed1 hb).1
  have HW := Lib.hid (boxed1 hb).2
  clear hb
  by_cases hr : r = 0
  · subst hr
    have HN : Hid (loadE xn x0 x1 x2 ls ts xu0 xu1 xu2 = usedE x0 x1 x2 xu0 xu1 xu2) := HE.out
    clear HE H1
    go_wp2
    go_loopg [14] 3 (fun g i wx => wx = w1 ∧ ∃ k : Nat, k + g = 3 ∧ i = .int .i64 k ∧ Aside (usedT x0 x1 x2 xu0 xu1 xu2 k = true))
    case atStart => exact ⟨rfl, 0, by omega, rfl, by show _ = _; rfl⟩
    case round =>
      obtain ⟨rfl, k, hkg, rfl, HA⟩ := hrel
      cases gk with
      | zero =>
        obtain rfl : k = 3 := by omega
        clear hkg
        go_wp2
        go_ret
        exact ⟨by rw [HN.out, usedE, show usedB x0 x1 x2 xu0 xu1 xu2 = true from HA.out]; rfl, HW.out⟩
      | succ g =>
        have HG := Lib.hid hkg
        have h3 : k = 0 ∨ k = 1 ∨ k = 2 := by omega
        clear hkg
        rcases h3 with rfl | rfl | rfl
        · by_cases hn : xu0 < 0
          · have HR := Lib.hid (used_no0 x0 x1 x2 xu0 xu1 xu2 (.inl hn))
            go_wp2
            go_ret
            exact ⟨by rw [HN.out, usedE, HR.out]; rfl, HW.out⟩
          · by_cases hm : x0 < xu0
            · have HR := Lib.hid (used_no0 x0 x1 x2 xu0 xu1 xu2 (.inr hm))
              have hn' : decide (xu0 < 0) = false := by simpa using hn
              go_wp2
              go_ret
              exact ⟨by rw [HN.out, usedE, HR.out]; rfl, HW.out⟩
            · have HY := Lib.hid (inB_yes _ _ hn hm)
              have hn' : decide (xu0 < 0) = false := by simpa using hn
              have hm' : decide (x0 < xu0) = false := by simpa using hm
              go_wp2
              go_roundg g
              case measure => omega
              case rel => exact ⟨rfl, 1, by have := HG.out; omega, rfl, HY.out⟩
        · by_cases hn : xu1 < 0
          · have HR := Lib.hid (used_no1 x0 x1 x2 xu0 xu1 xu2 (.inl hn))
            go_wp2
            go_ret
            exact ⟨by rw [HN.out, usedE, HR.out]; rfl, HW.out⟩
          · by_cases hm : x1 < xu1
            · have HR := Lib.hid (used_no1 x0 x1 x2 xu0 xu1 xu2 (.inr hm))
              have hn' : decide (xu1 < 0) = false := by simpa using hn
              go_wp2
              go_ret
              exact ⟨by rw [HN.out, usedE, HR.out]; rfl, HW.out⟩
            · have HY := Lib.hid (inB_yes _ _ hn hm)
              have hn' : decide (xu1 < 0) = false := by simpa using hn
              have hm' : decide (x1 < xu1) = false := by simpa using hm
              go_wp2
              go_roundg g
              case measure => omega
              case rel => exact ⟨rfl, 2, by have := HG.out; omega, rfl, by show (inB xu0 x0 && inB xu1 x1) = true; rw [show inB xu0 x0 = true from HA.out, HY.out]; rfl⟩
        · by_cases hn : xu2 < 0
          · have HR := Lib.hid (used_no2 x0 x1 x2 xu0 xu1 xu2 (.inl hn))
            go_wp2
            go_ret
            exact ⟨by rw [HN.out, usedE, HR.out]; rfl, HW.out⟩
          · by_cases hm : x2 < xu2
            · have HR := Lib.hid (used_no2 x0 x1 x2 xu0 xu1 xu2 (.inr hm))
              have hn' : decide (xu2 < 0) = false := by simpa using hn
              go_wp2
              go_ret
              exact ⟨by rw [HN.out, usedE, HR.out]; rfl, HW.out⟩
            · have HY := Lib.hid (inB_yes _ _ hn hm)
              have hn' : decide (xu2 < 0) = false := by simpa using hn
              have hm' : decide (x2 < xu2) = false := by simpa using hm
              go_wp2
              go_roundg g
              case measure => omega
              case rel => exact ⟨rfl, 3, by have := HG.out; omega, rfl, by
              have h : (inB xu0 x0 && inB xu1 x1) = true := HA.out
              show (inB xu0 x0 && (inB xu1 x1 && inB xu2 x2)) = true
              rw [← Bool.and_assoc, h, HY.out]; rfl⟩
  · have HN : Hid (loadE xn x0 x1 x2 ls ts xu0 xu1 xu2 = r) := HE.out.trans (if_neg hr)
    have hr2 : ¬ (r : Int) = 0 := by omega
    go_wp2
    go_ret
    exact ⟨by rw [HN.out]; rfl, HW.out⟩
end Rg
end Go.Proofs.Ythnajkpnchaciaa
