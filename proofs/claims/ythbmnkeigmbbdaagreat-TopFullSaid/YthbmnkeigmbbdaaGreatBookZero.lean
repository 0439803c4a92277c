/-
  NOTHING of a node, of a task: book.zeroNode, book.zeroTask.
-/
import Derived.Test.YthbmnkeigmbbdaaGreatRgA
import Derived.Test.YthbmnkeigmbbdaaGreatPkQ
namespace Go.Proofs.YthbmnkeigmbbdaaGreat
open Go.RowKit
namespace Rg
theorem ba_size0 {s : ByteArray} (h : s.size = 0) : s = ⟨#[]⟩ := by
  rcases s with ⟨⟨l⟩⟩
  cases l with
  | nil => rfl
  | cons a r => simp [ByteArray.size] at h
theorem ba_ne {s : ByteArray} (h : ¬ s.size = 0) : ¬ s.toList = [] ∧ s.toList.isEmpty = false := by
  have h1 : ¬ s.toList = [] := by
    intro e
    apply h
    rw [ByteArray.toList_eq] at e
    show s.data.size = 0
    rw [← Array.length_toList, e]
    rfl
  refine ⟨h1, ?_⟩
  rw [← Bool.not_eq_true, List.isEmpty_iff]
  exact h1
theorem andT {a b r : Bool} (h : a = true) (k : b = r) : (a && b) = r := by rw [h, k]; rfl
theorem andF {a b : Bool} (h : a = false) : (a && b) = false := by rw [h]; rfl
def zB (s : ByteArray) : Bool := decide (s.size = 0)
def zL (n : Nat) : Bool := decide (n = 0)
def zZ (n : Int) : Bool := decide (n = 0)
def zN (n : ByteArray) (z0 z1 z2 : Int) (ln tn : Nat) : Bool := zB n && (eqA z0 z1 z2 0 0 0 && (zL ln && zL tn))
def zT (n : ByteArray) (z0 z1 z2 : Int) (ln tn : Nat) (g a : ByteArray) (r : Int) : Bool := zB n && (eqA z0 z1 z2 0 0 0 && (zL ln && (zL tn && (zB g && (zB a && zZ r)))))
set_option maxRecDepth 100000 in
set_option maxHeartbeats 2000000 in
theorem zero_node (n : ByteArray) (z0 z1 z2 : Int) (la ta : Option Addr) (ln lc tn tc : Nat) (w : World) : Calls Tryz.prog 95 #[.agg #[.string n, .int .i64 z0, .int .i64 z1, .int .i64 z2, .slice la ln lc, .slice ta tn tc]] w fun e w' => e = .returned (.bool (zN n z0 z1 z2 ln tn)) ∧ Below w.heap.size w w' := by
  have gf := guard_arr
  have hq : ∀ w, (binOp .eql 39 (.agg #[.int .i64 z0, .int .i64 z1, .int .i64 z2]) (.agg #[.int .i64 0, .int .i64 0, .int .i64 0])).run Tryz.prog w = .ok (.bool (eqA z0 z1 z2 0 0 0)) w := fun w => eql_arr _ _ _ _ _ _ w
  obtain ⟨r, hr⟩ : ∃ r, r = zN n z0 z1 z2 ln tn := ⟨_, rfl⟩
  unfold zN at hr
  have HR := Lib.hid hr
  clear hr
  have HX : Hid (zN n z0 z1 z2 ln tn = r) := HR.out.symm
  by_cases h0 : n.size = 0
  · have k0 : zB n = true := by unfold zB; exact decide_eq_true h0
    obtain rfl := ba_size0 h0
    have K0 := Lib.hid k0
    clear k0 h0
    cases h1 : eqA z0 z1 z2 0 0 0
    · rw [h1] at hq
      have K1 := Lib.hid h1
      clear h1
      have HN : Hid (r = false) := HR.out.trans (andT K0.out (andF K1.out))
      go_enter Tryz.func95, Tryz.ntmps95
      go_wp2
      go_ret
      exact ⟨by rw [HX.out, HN.out]; rfl, (Below.refl _ _).alloc (Nat.le_refl _) _⟩
    · rw [h1] at hq
      have K1 := Lib.hid h1
      clear h1
      by_cases h2 : ln = 0
      · have k2 : zL ln = true := by unfold zL; exact decide_eq_true h2
        subst h2
        have K2 := Lib.hid k2
        clear k2
        by_cases h3 : tn = 0
        · have k3 : zL tn = true := by unfold zL; exact decide_eq_true h3
          subst h3
          have K3 := Lib.hid k3
          clear k3
          have HN : Hid (r = true) := HR.out.trans (andT K0.out (andT K1.out (andT K2.out (K3.out))))
          go_enter Tryz.func95, Tryz.ntmps95
          go_wp2
          go_ret
          exact ⟨by rw [HX.out, HN.out]; rfl, (Below.refl _ _).alloc (Nat.le_refl _) _⟩
        · have k3 : zL tn = false := by unfold zL; exact decide_eq_false h3
          have m3 : ¬ ((tn : Nat) : Int) = 0 := by omega
          have n3 : (((tn : Nat) : Int) == 0) = false := by simpa using m3
          have K3 := Lib.hid k3
          clear k3
          have HN : Hid (r = false) := HR.out.trans (andT K0.out (andT K1.out (andT K2.out (K3.out))))
          go_enter Tryz.func95, Tryz.ntmps95
          go_wp2
          go_ret
          exact ⟨by rw [HX.out, HN.out]; rfl, (Below.refl _ _).alloc (Nat.le_refl _) _⟩
      · have k2 : zL ln = false := by unfold zL; exact decide_eq_false h2
        have m2 : ¬ ((ln : Nat) : Int) = 0 := by omega
        have n2 : (((ln : Nat) : Int) == 0) = false := by simpa using m2
        have K2 := Lib.hid k2
        clear k2
        have HN : Hid (r = false) := HR.out.trans (andT K0.out (andT K1.out (andF K2.out)))
        go_enter Tryz.func95, Tryz.ntmps95
        go_wp2
        go_ret
        exact ⟨by rw [HX.out, HN.out]; rfl, (Below.refl _ _).alloc (Nat.le_refl _) _⟩
  · have k0 : zB n = false := by unfold zB; exact decide_eq_false h0
    obtain ⟨m0, n0⟩ := ba_ne h0
    have K0 := Lib.hid k0
    clear k0 h0
    have HN : Hid (r = false) := HR.out.trans (andF K0.out)
    go_enter Tryz.func95, Tryz.ntmps95
    go_wp2
    go_ret
    exact ⟨by rw [HX.out, HN.out]; rfl, (Below.refl _ _).alloc (Nat.le_refl _) _⟩
set_option maxRecDepth 100000 in
set_option maxHeartbeats 2000000 in
theorem zero_task (n : ByteArray) (z0 z1 z2 : Int) (la ta : Option Addr) (ln lc tn tc : Nat) (g a : ByteArray) (k : Int) (w : World) : Calls Tryz.prog 96 #[.agg #[.string n, .int .i64 z0, .int .i64 z1, .int .i64 z2, .slice la ln lc, .slice ta tn tc, .string g, .string a, .int .i64 k]] w fun e w' => e = .returned (.bool (zT n z0 z1 z2 ln tn g a k)) ∧ Below w.heap.size w w' := by
  have gf := guard_arr
  have hq : ∀ w, (binOp .eql 39 (.agg #[.int .i64 z0, .int .i64 z1, .int .i64 z2]) (.agg #[.int .i64 0, .int .i64 0, .int .i64 0])).run Tryz.prog w = .ok (.bool (eqA z0 z1 z2 0 0 0)) w := fun w => eql_arr _ _ _ _ _ _ w
  obtain ⟨r, hr⟩ : ∃ r, r = zT n z0 z1 z2 ln tn g a k := ⟨_, rfl⟩
  unfold zT at hr
  have HR := Lib.hid hr
  clear hr
  have HX : Hid (zT n z0 z1 z2 ln tn g a k = r) := HR.out.symm
  by_cases h0 : n.size = 0
  · have k0 : zB n = true := by unfold zB; exact decide_eq_true h0
    obtain rfl := ba_size0 h0
    have K0 := Lib.hid k0
    clear k0 h0
    cases h1 : eqA z0 z1 z2 0 0 0
    · rw [h1] at hq
      have K1 := Lib.hid h1
      clear h1
      have HN : Hid (r = false) := HR.out.trans (andT K0.out (andF K1.out))
      go_enter Tryz.func96, Tryz.ntmps96
      go_wp2
      go_ret
      exact ⟨by rw [HX.out, HN.out]; rfl, (Below.refl _ _).alloc (Nat.le_refl _) _⟩
    · rw [h1] at hq
      have K1 := Lib.hid h1
      clear h1
      by_cases h2 : ln = 0
      · have k2 : zL ln = true := by unfold zL; exact decide_eq_true h2
        subst h2
        have K2 := Lib.hid k2
        clear k2
        by_cases h3 : tn = 0
        · have k3 : zL tn = true := by unfold zL; exact decide_eq_true h3
          subst h3
          have K3 := Lib.hid k3
          clear k3
          by_cases h4 : g.size = 0
          · have k4 : zB g = true := by unfold zB; exact decide_eq_true h4
            obtain rfl := ba_size0 h4
            have K4 := Lib.hid k4
            clear k4 h4
            by_cases h5 : a.size = 0
            · have k5 : zB a = true := by unfold zB; exact decide_eq_true h5
              obtain rfl := ba_size0 h5
              have K5 := Lib.hid k5
              clear k5 h5
              by_cases h6 : k = 0
              · have k6 : zZ k = true := by unfold zZ; exact decide_eq_true h6
                subst h6
                have K6 := Lib.hid k6
                clear k6
                have HN : Hid (r = true) := HR.out.trans (andT K0.out (andT K1.out (andT K2.out (andT K3.out (andT K4.out (andT K5.out (K6.out)))))))
                go_enter Tryz.func96, Tryz.ntmps96
                go_wp2
                go_ret
                exact ⟨by rw [HX.out, HN.out]; rfl, (Below.refl _ _).alloc (Nat.le_refl _) _⟩
              · have k6 : zZ k = false := by unfold zZ; exact decide_eq_false h6
                have n6 : (k == 0) = false := by simpa using h6
                have K6 := Lib.hid k6
                clear k6
                have HN : Hid (r = false) := HR.out.trans (andT K0.out (andT K1.out (andT K2.out (andT K3.out (andT K4.out (andT K5.out (K6.out)))))))
                go_enter Tryz.func96, Tryz.ntmps96
                go_wp2
                go_ret
                exact ⟨by rw [HX.out, HN.out]; rfl, (Below.refl _ _).alloc (Nat.le_refl _) _⟩
            · have k5 : zB a = false := by unfold zB; exact decide_eq_false h5
              obtain ⟨m5, n5⟩ := ba_ne h5
              have K5 := Lib.hid k5
              clear k5 h5
              have HN : Hid (r = false) := HR.out.trans (andT K0.out (andT K1.out (andT K2.out (andT K3.out (andT K4.out (andF K5.out))))))
              go_enter Tryz.func96, Tryz.ntmps96
              go_wp2
              go_ret
              exact ⟨by rw [HX.out, HN.out]; rfl, (Below.refl _ _).alloc (Nat.le_refl _) _⟩
          · have k4 : zB g = false := by unfold zB; exact decide_eq_false h4
            obtain ⟨m4, n4⟩ := ba_ne h4
            have K4 := Lib.hid k4
            clear k4 h4
            have HN : Hid (r = false) := HR.out.trans (andT K0.out (andT K1.out (andT K2.out (andT K3.out (andF K4.out)))))
            go_enter Tryz.func96, Tryz.ntmps96
            go_wp2
            go_ret
            exact ⟨by rw [HX.out, HN.out]; rfl, (Below.refl _ _).alloc (Nat.le_refl _) _⟩
        · have k3 : zL tn = false := by unfold zL; exact decide_eq_false h3
          have m3 : ¬ ((tn : Nat) : Int) = 0 := by omega
          have n3 : (((tn : Nat) : Int) == 0) = false := by simpa using m3
          have K3 := Lib.hid k3
          clear k3
          have HN : Hid (r = false) := HR.out.trans (andT K0.out (andT K1.out (andT K2.out (andF K3.out))))
          go_enter Tryz.func96, Tryz.ntmps96
          go_wp2
          go_ret
          exact ⟨by rw [HX.out, HN.out]; rfl, (Below.refl _ _).alloc (Nat.le_refl _) _⟩
      · have k2 : zL ln = false := by unfold zL; exact decide_eq_false h2
        have m2 : ¬ ((ln : Nat) : Int) = 0 := by omega
        have n2 : (((ln : Nat) : Int) == 0) = false := by simpa using m2
        have K2 := Lib.hid k2
        clear k2
        have HN : Hid (r = false) := HR.out.trans (andT K0.out (andT K1.out (andF K2.out)))
        go_enter Tryz.func96, Tryz.ntmps96
        go_wp2
        go_ret
        exact ⟨by rw [HX.out, HN.out]; rfl, (Below.refl _ _).alloc (Nat.le_refl _) _⟩
  · have k0 : zB n = false := by unfold zB; exact decide_eq_false h0
    obtain ⟨m0, n0⟩ := ba_ne h0
    have K0 := Lib.hid k0
    clear k0 h0
    have HN : Hid (r = false) := HR.out.trans (andF K0.out)
    go_enter Tryz.func96, Tryz.ntmps96
    go_wp2
    go_ret
    exact ⟨by rw [HX.out, HN.out]; rfl, (Below.refl _ _).alloc (Nat.le_refl _) _⟩
end Rg
end Go.Proofs.YthbmnkeigmbbdaaGreat
