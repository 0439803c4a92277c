/-
  gafferref08.CheckOrder: whether an order has no others than its kind's, by the document.
-/
import Derived.Test.YthlchdlgafincaaBookCo
import Derived.Test.YthlchdlgafincaaOrdChk
namespace Go.Proofs.Ythlchdlgafincaa
open Go.RowKit
namespace Rg
set_option maxHeartbeats 400000 in
theorem no_pairs (la : Option Addr) (ln lc : Nat) (w : World) : Calls Try.prog 89 #[.slice la ln lc] w fun e w' => e = .returned (.bool (zL ln)) ∧ w = w' := by
  by_cases h : ln = 0
  · subst h
    go_enter Try.func89, Try.ntmps89
    go_wp2
    go_ret
    exact ⟨rfl, rfl⟩
  · have HZ : Hid (zL ln = false) := decide_eq_false h
    have m1 : ¬ ((ln : Nat) : Int) = 0 := by omega
    have m2 : (((ln : Nat) : Int) == 0) = false := by simpa using m1
    clear h
    go_enter Try.func89, Try.ntmps89
    go_wp2
    go_ret
    exact ⟨by rw [HZ.out]; rfl, rfl⟩
set_option maxRecDepth 100000 in
set_option maxHeartbeats 2000000 in
theorem no_node (n : ByteArray) (z0 z1 z2 : Int) (la ta : Option Addr) (ln lc tn tc : Nat) (w : World) : Calls Try.prog 68 #[.agg #[.string n, .int .i64 z0, .int .i64 z1, .int .i64 z2, .slice la ln lc, .slice ta tn tc]] w fun e w' => e = .returned (.bool (zN n z0 z1 z2 ln tn)) ∧ Below w.heap.size w w' := by
  have NP1 := Lib.hid (fun z => no_pairs la ln lc z)
  have NP2 := Lib.hid (fun z => no_pairs ta tn tc z)
  have gf := guard_arr
  have hq : ∀ w, (binOp .eql 24 (.agg #[.int .i64 z0, .int .i64 z1, .int .i64 z2]) (.agg #[.int .i64 0, .int .i64 0, .int .i64 0])).run Try.prog w = .ok (.bool (eqA z0 z1 z2 0 0 0)) w := fun w => eql_arr _ _ _ _ _ _ w
  obtain ⟨r, hr⟩ : ∃ r, r = zN n z0 z1 z2 ln tn := ⟨_, rfl⟩
  unfold zN at hr
  have HR := Lib.hid hr
  clear hr
  have HX : Hid (zN n z0 z1 z2 ln tn = r) := HR.out.symm
  by_cases h0 : n.size = 0
  · have k0 : zB n = true := by unfold zB; exact decide_eq_true h0
    obtain rfl := ba_size0 h0
    have K0 := Lib.hid k0
    clear k0 h0
    cases h1 : eqA z0 z1 z2 0 0 0
    · rw [h1] at hq
      have K1 := Lib.hid h1
      clear h1
      have HN : Hid (r = false) := HR.out.trans (andT K0.out (andF K1.out))
      go_enter Try.func68, Try.ntmps68
      go_wp2_with (first | (go_at_call 89; (with_reducible refine (NP1.out _).mono ?_); rintro e w7 ⟨rfl, rfl⟩) | (go_at_call 89; (with_reducible refine (NP2.out _).mono ?_); rintro e w7 ⟨rfl, rfl⟩))
      go_ret
      exact ⟨by rw [HX.out, HN.out]; rfl, (Below.refl _ _).alloc (Nat.le_refl _) _⟩
    · rw [h1] at hq
      have K1 := Lib.hid h1
      clear h1
      cases h2 : zL ln
      · rw [h2] at NP1
        have K2 := Lib.hid h2
        clear h2
        have HN : Hid (r = false) := HR.out.trans (andT K0.out (andT K1.out (andF K2.out)))
        go_enter Try.func68, Try.ntmps68
        go_wp2_with (first | (go_at_call 89; (with_reducible refine (NP1.out _).mono ?_); rintro e w7 ⟨rfl, rfl⟩) | (go_at_call 89; (with_reducible refine (NP2.out _).mono ?_); rintro e w7 ⟨rfl, rfl⟩))
        go_ret
        exact ⟨by rw [HX.out, HN.out]; rfl, (Below.refl _ _).alloc (Nat.le_refl _) _⟩
      · rw [h2] at NP1
        have K2 := Lib.hid h2
        clear h2
        cases h3 : zL tn
        · rw [h3] at NP2
          have K3 := Lib.hid h3
          clear h3
          have HN : Hid (r = false) := HR.out.trans (andT K0.out (andT K1.out (andT K2.out (K3.out))))
          go_enter Try.func68, Try.ntmps68
          go_wp2_with (first | (go_at_call 89; (with_reducible refine (NP1.out _).mono ?_); rintro e w7 ⟨rfl, rfl⟩) | (go_at_call 89; (with_reducible refine (NP2.out _).mono ?_); rintro e w7 ⟨rfl, rfl⟩))
          go_ret
          exact ⟨by rw [HX.out, HN.out]; rfl, (Below.refl _ _).alloc (Nat.le_refl _) _⟩
        · rw [h3] at NP2
          have K3 := Lib.hid h3
          clear h3
          have HN : Hid (r = true) := HR.out.trans (andT K0.out (andT K1.out (andT K2.out (K3.out))))
          go_enter Try.func68, Try.ntmps68
          go_wp2_with (first | (go_at_call 89; (with_reducible refine (NP1.out _).mono ?_); rintro e w7 ⟨rfl, rfl⟩) | (go_at_call 89; (with_reducible refine (NP2.out _).mono ?_); rintro e w7 ⟨rfl, rfl⟩))
          go_ret
          exact ⟨by rw [HX.out, HN.out]; rfl, (Below.refl _ _).alloc (Nat.le_refl _) _⟩
  · have k0 : zB n = false := by unfold zB; exact decide_eq_false h0
    obtain ⟨m0, n0⟩ := ba_ne h0
    have K0 := Lib.hid k0
    clear k0 h0
    have HN : Hid (r = false) := HR.out.trans (andF K0.out)
    go_enter Try.func68, Try.ntmps68
    go_wp2_with (first | (go_at_call 89; (with_reducible refine (NP1.out _).mono ?_); rintro e w7 ⟨rfl, rfl⟩) | (go_at_call 89; (with_reducible refine (NP2.out _).mono ?_); rintro e w7 ⟨rfl, rfl⟩))
    go_ret
    exact ⟨by rw [HX.out, HN.out]; rfl, (Below.refl _ _).alloc (Nat.le_refl _) _⟩
set_option maxRecDepth 100000 in
set_option maxHeartbeats 2000000 in
theorem no_task (n : ByteArray) (z0 z1 z2 : Int) (la ta : Option Addr) (ln lc tn tc : Nat) (g a : ByteArray) (k : Int) (w : World) : Calls Try.prog 69 #[.agg #[.string n, .int .i64 z0, .int .i64 z1, .int .i64 z2, .slice la ln lc, .slice ta tn tc, .string g, .string a, .int .i64 k]] w fun e w' => e = .returned (.bool (zT n z0 z1 z2 ln tn g a k)) ∧ Below w.heap.size w w' := by
  have NP1 := Lib.hid (fun z => no_pairs la ln lc z)
  have NP2 := Lib.hid (fun z => no_pairs ta tn tc z)
  have gf := guard_arr
  have hq : ∀ w, (binOp .eql 24 (.agg #[.int .i64 z0, .int .i64 z1, .int .i64 z2]) (.agg #[.int .i64 0, .int .i64 0, .int .i64 0])).run Try.prog w = .ok (.bool (eqA z0 z1 z2 0 0 0)) w := fun w => eql_arr _ _ _ _ _ _ w
  obtain ⟨r, hr⟩ : ∃ r, r = zT n z0 z1 z2 ln tn g a k := ⟨_, rfl⟩
  unfold zT at hr
  have HR := Lib.hid hr
  clear hr
  have HX : Hid (zT n z0 z1 z2 ln tn g a k = r) := HR.out.symm
  by_cases h0 : n.size = 0
  · have k0 : zB n = true := by unfold zB; exact decide_eq_true h0
    obtain rfl := ba_size0 h0
    have K0 := Lib.hid k0
    clear k0 h0
    cases h1 : eqA z0 z1 z2 0 0 0
    · rw [h1] at hq
      have K1 := Lib.hid h1
      clear h1
      have HN : Hid (r = false) := HR.out.trans (andT K0.out (andF K1.out))
      go_enter Try.func69, Try.ntmps69
      go_wp2_with (first | (go_at_call 89; (with_reducible refine (NP1.out _).mono ?_); rintro e w7 ⟨rfl, rfl⟩) | (go_at_call 89; (with_reducible refine (NP2.out _).mono ?_); rintro e w7 ⟨rfl, rfl⟩))
      go_ret
      exact ⟨by rw [HX.out, HN.out]; rfl, (Below.refl _ _).alloc (Nat.le_refl _) _⟩
    · rw [h1] at hq
      have K1 := Lib.hid h1
      clear h1
      cases h2 : zL ln
      · rw [h2] at NP1
        have K2 := Lib.hid h2
        clear h2
        have HN : Hid (r = false) := HR.out.trans (andT K0.out (andT K1.out (andF K2.out)))
        go_enter Try.func69, Try.ntmps69
        go_wp2_with (first | (go_at_call 89; (with_reducible refine (NP1.out _).mono ?_); rintro e w7 ⟨rfl, rfl⟩) | (go_at_call 89; (with_reducible refine (NP2.out _).mono ?_); rintro e w7 ⟨rfl, rfl⟩))
        go_ret
        exact ⟨by rw [HX.out, HN.out]; rfl, (Below.refl _ _).alloc (Nat.le_refl _) _⟩
      · rw [h2] at NP1
        have K2 := Lib.hid h2
        clear h2
        cases h3 : zL tn
        · rw [h3] at NP2
          have K3 := Lib.hid h3
          clear h3
          have HN : Hid (r = false) := HR.out.trans (andT K0.out (andT K1.out (andT K2.out (andF K3.out))))
          go_enter Try.func69, Try.ntmps69
          go_wp2_with (first | (go_at_call 89; (with_reducible refine (NP1.out _).mono ?_); rintro e w7 ⟨rfl, rfl⟩) | (go_at_call 89; (with_reducible refine (NP2.out _).mono ?_); rintro e w7 ⟨rfl, rfl⟩))
          go_ret
          exact ⟨by rw [HX.out, HN.out]; rfl, (Below.refl _ _).alloc (Nat.le_refl _) _⟩
        · rw [h3] at NP2
          have K3 := Lib.hid h3
          clear h3
          by_cases h4 : g.size = 0
          · have k4 : zB g = true := by unfold zB; exact decide_eq_true h4
            obtain rfl := ba_size0 h4
            have K4 := Lib.hid k4
            clear k4 h4
            by_cases h5 : a.size = 0
            · have k5 : zB a = true := by unfold zB; exact decide_eq_true h5
              obtain rfl := ba_size0 h5
              have K5 := Lib.hid k5
              clear k5 h5
              by_cases h6 : k = 0
              · have k6 : zZ k = true := by unfold zZ; exact decide_eq_true h6
                subst h6
                have K6 := Lib.hid k6
                clear k6
                have HN : Hid (r = true) := HR.out.trans (andT K0.out (andT K1.out (andT K2.out (andT K3.out (andT K4.out (andT K5.out (K6.out)))))))
                go_enter Try.func69, Try.ntmps69
                go_wp2_with (first | (go_at_call 89; (with_reducible refine (NP1.out _).mono ?_); rintro e w7 ⟨rfl, rfl⟩) | (go_at_call 89; (with_reducible refine (NP2.out _).mono ?_); rintro e w7 ⟨rfl, rfl⟩))
                go_ret
                exact ⟨by rw [HX.out, HN.out]; rfl, (Below.refl _ _).alloc (Nat.le_refl _) _⟩
              · have k6 : zZ k = false := by unfold zZ; exact decide_eq_false h6
                have n6 : (k == 0) = false := by simpa using h6
                have K6 := Lib.hid k6
                clear k6
                have HN : Hid (r = false) := HR.out.trans (andT K0.out (andT K1.out (andT K2.out (andT K3.out (andT K4.out (andT K5.out (K6.out)))))))
                go_enter Try.func69, Try.ntmps69
                go_wp2_with (first | (go_at_call 89; (with_reducible refine (NP1.out _).mono ?_); rintro e w7 ⟨rfl, rfl⟩) | (go_at_call 89; (with_reducible refine (NP2.out _).mono ?_); rintro e w7 ⟨rfl, rfl⟩))
                go_ret
                exact ⟨by rw [HX.out, HN.out]; rfl, (Below.refl _ _).alloc (Nat.le_refl _) _⟩
            · have k5 : zB a = false := by unfold zB; exact decide_eq_false h5
              obtain ⟨m5, n5⟩ := ba_ne h5
              have K5 := Lib.hid k5
              clear k5 h5
              have HN : Hid (r = false) := HR.out.trans (andT K0.out (andT K1.out (andT K2.out (andT K3.out (andT K4.out (andF K5.out))))))
              go_enter Try.func69, Try.ntmps69
              go_wp2_with (first | (go_at_call 89; (with_reducible refine (NP1.out _).mono ?_); rintro e w7 ⟨rfl, rfl⟩) | (go_at_call 89; (with_reducible refine (NP2.out _).mono ?_); rintro e w7 ⟨rfl, rfl⟩))
              go_ret
              exact ⟨by rw [HX.out, HN.out]; rfl, (Below.refl _ _).alloc (Nat.le_refl _) _⟩
          · have k4 : zB g = false := by unfold zB; exact decide_eq_false h4
            obtain ⟨m4, n4⟩ := ba_ne h4
            have K4 := Lib.hid k4
            clear k4 h4
            have HN : Hid (r = false) := HR.out.trans (andT K0.out (andT K1.out (andT K2.out (andT K3.out (andF K4.out)))))
            go_enter Try.func69, Try.ntmps69
            go_wp2_with (first | (go_at_call 89; (with_reducible refine (NP1.out _).mono ?_); rintro e w7 ⟨rfl, rfl⟩) | (go_at_call 89; (with_reducible refine (NP2.out _).mono ?_); rintro e w7 ⟨rfl, rfl⟩))
            go_ret
            exact ⟨by rw [HX.out, HN.out]; rfl, (Below.refl _ _).alloc (Nat.le_refl _) _⟩
  · have k0 : zB n = false := by unfold zB; exact decide_eq_false h0
    obtain ⟨m0, n0⟩ := ba_ne h0
    have K0 := Lib.hid k0
    clear k0 h0
    have HN : Hid (r = false) := HR.out.trans (andF K0.out)
    go_enter Try.func69, Try.ntmps69
    go_wp2_with (first | (go_at_call 89; (with_reducible refine (NP1.out _).mono ?_); rintro e w7 ⟨rfl, rfl⟩) | (go_at_call 89; (with_reducible refine (NP2.out _).mono ?_); rintro e w7 ⟨rfl, rfl⟩))
    go_ret
    exact ⟨by rw [HX.out, HN.out]; rfl, (Below.refl _ _).alloc (Nat.le_refl _) _⟩
end Rg
namespace Hd
open PM Hc Rg
set_option maxRecDepth 100000 in
set_option maxHeartbeats 4000000 in
theorem cor_node (C : Cd) (a2 a3 a4 a5 : Option Addr) (c2 c3 c4 c5 : Nat) (w : World) (hk : C.k = 1) (r : Bool) (hr : r = (zTd C.td && (zB C.na && (zB C.on && (zF C.fe))))) : Calls Try.prog 36 #[.agg (orC C (.slice a2 C.nd.ls.length c2) (.slice a3 C.nd.ts.length c3) (.slice a4 C.td.ws.length c4) (.slice a5 C.td.bs.length c5)).toArray] w fun e w' => e = .returned (.int .i64 (coE r : Nat)) ∧ Below w.heap.size w w' := by
  have HR := Lib.hid hr
  clear hr
  have hx : Bxn (w.alloc (.cells (orC C (.slice a2 C.nd.ls.length c2) (.slice a3 C.nd.ts.length c3) (.slice a4 C.td.ws.length c4) (.slice a5 C.td.bs.length c5)).toArray 31)) w.heap.size (orC C (.slice a2 C.nd.ls.length c2) (.slice a3 C.nd.ts.length c3) (.slice a4 C.td.ws.length c4) (.slice a5 C.td.bs.length c5)) := Bxn.made w _ _
  have HB0 : Hid (Below w.heap.size w (w.alloc (.cells (orC C (.slice a2 C.nd.ls.length c2) (.slice a3 C.nd.ts.length c3) (.slice a4 C.td.ws.length c4) (.slice a5 C.td.bs.length c5)).toArray 31))) := (Below.refl _ _).alloc (Nat.le_refl _) _
  have HX0 : Hid (Bxn (w.alloc (.cells (orC C (.slice a2 C.nd.ls.length c2) (.slice a3 C.nd.ts.length c3) (.slice a4 C.td.ws.length c4) (.slice a5 C.td.bs.length c5)).toArray 31)) w.heap.size [.int .u8 1, .string C.nd.n, .int .i64 C.nd.z0, .int .i64 C.nd.z1, .int .i64 C.nd.z2, .slice a2 C.nd.ls.length c2, .slice a3 C.nd.ts.length c3, .string C.td.n, .int .i64 C.td.z0, .int .i64 C.td.z1, .int .i64 C.td.z2, .slice a4 C.td.ws.length c4, .slice a5 C.td.bs.length c5, .string C.td.g, .string C.td.a, .int .i64 C.td.r, .string C.na, .string C.on, .int .u64 (C.fe : Nat)]) := by
    have e : orC C (.slice a2 C.nd.ls.length c2) (.slice a3 C.nd.ts.length c3) (.slice a4 C.td.ws.length c4) (.slice a5 C.td.bs.length c5) = [.int .u8 1, .string C.nd.n, .int .i64 C.nd.z0, .int .i64 C.nd.z1, .int .i64 C.nd.z2, .slice a2 C.nd.ls.length c2, .slice a3 C.nd.ts.length c3, .string C.td.n, .int .i64 C.td.z0, .int .i64 C.td.z1, .int .i64 C.td.z2, .slice a4 C.td.ws.length c4, .slice a5 C.td.bs.length c5, .string C.td.g, .string C.td.a, .int .i64 C.td.r, .string C.na, .string C.on, .int .u64 (C.fe : Nat)] := by
      unfold orC cdC
      rw [hk]; rfl
    show Bxn _ _ _
    rw [← e]
    exact hx
  clear hx
  obtain ⟨CS, hCS⟩ : ∃ CS, CS = (orC C (.slice a2 C.nd.ls.length c2) (.slice a3 C.nd.ts.length c3) (.slice a4 C.td.ws.length c4) (.slice a5 C.td.bs.length c5)).toArray := ⟨_, rfl⟩
  rw [← hCS] at HB0 HX0 ⊢
  clear hCS
  go_enter Try.func36, Try.ntmps36
  go_upto_region 1 with fail
  generalize w.alloc (.cells CS 31) = W0 at *
  have k0 : W0.cell? ⟨w.heap.size, 0, none⟩ = some (.int .u8 1) := HX0.out.cell 0
  go_upto_region 3 with fail
  have HX1 := HX0
  have HB1 := HB0
  clear k0
  obtain ⟨q1, hq1⟩ : ∃ q, q = (zT C.td.n C.td.z0 C.td.z1 C.td.z2 C.td.ws.length C.td.bs.length C.td.g C.td.a C.td.r) := ⟨_, rfl⟩
  have Z1 : ∀ z, Calls Try.prog 69 #[.agg #[.string C.td.n, .int .i64 C.td.z0, .int .i64 C.td.z1, .int .i64 C.td.z2, .slice a4 C.td.ws.length c4, .slice a5 C.td.bs.length c5, .string C.td.g, .string C.td.a, .int .i64 C.td.r]] z fun e w' => e = .returned (.bool q1) ∧ Below z.heap.size z w' := fun z => by rw [hq1]; exact no_task _ _ _ _ _ _ _ _ _ _ _ _ _ z
  have d7 : W0.cell? ⟨w.heap.size, 7, none⟩ = some (.string C.td.n) := HX1.out.cell 7
  have d8 : W0.cell? ⟨w.heap.size, 8, none⟩ = some (.int .i64 C.td.z0) := HX1.out.cell 8
  have d9 : W0.cell? ⟨w.heap.size, 9, none⟩ = some (.int .i64 C.td.z1) := HX1.out.cell 9
  have d10 : W0.cell? ⟨w.heap.size, 10, none⟩ = some (.int .i64 C.td.z2) := HX1.out.cell 10
  have d11 : W0.cell? ⟨w.heap.size, 11, none⟩ = some (.slice a4 C.td.ws.length c4) := HX1.out.cell 11
  have d12 : W0.cell? ⟨w.heap.size, 12, none⟩ = some (.slice a5 C.td.bs.length c5) := HX1.out.cell 12
  have d13 : W0.cell? ⟨w.heap.size, 13, none⟩ = some (.string C.td.g) := HX1.out.cell 13
  have d14 : W0.cell? ⟨w.heap.size, 14, none⟩ = some (.string C.td.a) := HX1.out.cell 14
  have d15 : W0.cell? ⟨w.heap.size, 15, none⟩ = some (.int .i64 C.td.r) := HX1.out.cell 15
  cases q1
  · have Q1 := Lib.hid hq1.symm
    clear hq1
    go_wp2_with fail
    refine (Z1 _).mono ?_
    rintro e w3 ⟨rfl, hb⟩
    have HX3 := Lib.hid (HX1.out.below hb)
    have HB3 := Lib.hid (HB1.out.trans (hb.mono HB1.out.size))
    clear hb Z1 d7 d8 d9 d10 d11 d12 d13 d14 d15
    have HN : Hid (r = false) := HR.out.trans (andF Q1.out)
    go_wp2
    go_ret
    exact ⟨by rw [HN.out]; rfl, HB3.out⟩
  · have Q1 := Lib.hid hq1.symm
    clear hq1
    go_wp2_with fail
    refine (Z1 _).mono ?_
    rintro e w3 ⟨rfl, hb⟩
    have HX3 := Lib.hid (HX1.out.below hb)
    have HB3 := Lib.hid (HB1.out.trans (hb.mono HB1.out.size))
    clear hb Z1 d7 d8 d9 d10 d11 d12 d13 d14 d15
    have d16 : w3.cell? ⟨w.heap.size, 16, none⟩ = some (.string C.na) := HX3.out.cell 16
    by_cases h2 : C.na.size = 0
    · have q2 : zB C.na = true := by unfold zB; exact decide_eq_true h2
      have Q2 := Lib.hid q2
      rw [ba_size0 h2] at d16
      clear q2 h2
      have d17 : w3.cell? ⟨w.heap.size, 17, none⟩ = some (.string C.on) := HX3.out.cell 17
      by_cases h3 : C.on.size = 0
      · have q3 : zB C.on = true := by unfold zB; exact decide_eq_true h3
        have Q3 := Lib.hid q3
        rw [ba_size0 h3] at d17
        clear q3 h3
        have d18 : w3.cell? ⟨w.heap.size, 18, none⟩ = some (.int .u64 (C.fe : Nat)) := HX3.out.cell 18
        by_cases h4 : C.fe = 0
        · have q4 : zF C.fe = true := by unfold zF; exact decide_eq_true h4
          have Q4 := Lib.hid q4
          rw [h4] at d18
          clear q4 h4
          have HN : Hid (r = true) := HR.out.trans (andT Q1.out (andT Q2.out (andT Q3.out (Q4.out))))
          go_wp2
          go_ret
          exact ⟨by rw [HN.out]; rfl, HB3.out⟩
        · have q4 : zF C.fe = false := by unfold zF; exact decide_eq_false h4
          have Q4 := Lib.hid q4
          have m4 : ¬ ((C.fe : Nat) : Int) = 0 := by omega
          have n4 : (((C.fe : Nat) : Int) == 0) = false := by simpa using m4
          have l4 : (((C.fe : Nat) : Int) != 0) = true := by simpa using m4
          clear q4 h4
          have HN : Hid (r = false) := HR.out.trans (andT Q1.out (andT Q2.out (andT Q3.out (Q4.out))))
          go_wp2
          go_ret
          exact ⟨by rw [HN.out]; rfl, HB3.out⟩
      · have q3 : zB C.on = false := by unfold zB; exact decide_eq_false h3
        have Q3 := Lib.hid q3
        obtain ⟨m3, n3⟩ := ba_ne h3
        clear q3 h3
        have HN : Hid (r = false) := HR.out.trans (andT Q1.out (andT Q2.out (andF Q3.out)))
        go_wp2
        go_ret
        exact ⟨by rw [HN.out]; rfl, HB3.out⟩
    · have q2 : zB C.na = false := by unfold zB; exact decide_eq_false h2
      have Q2 := Lib.hid q2
      obtain ⟨m2, n2⟩ := ba_ne h2
      clear q2 h2
      have HN : Hid (r = false) := HR.out.trans (andT Q1.out (andF Q2.out))
      go_wp2
      go_ret
      exact ⟨by rw [HN.out]; rfl, HB3.out⟩
set_option maxRecDepth 100000 in
set_option maxHeartbeats 4000000 in
theorem cor_task (C : Cd) (a2 a3 a4 a5 : Option Addr) (c2 c3 c4 c5 : Nat) (w : World) (hk : C.k = 3) (r : Bool) (hr : r = (zNd C.nd && (zB C.na && (zB C.on && (zF C.fe))))) : Calls Try.prog 36 #[.agg (orC C (.slice a2 C.nd.ls.length c2) (.slice a3 C.nd.ts.length c3) (.slice a4 C.td.ws.length c4) (.slice a5 C.td.bs.length c5)).toArray] w fun e w' => e = .returned (.int .i64 (coE r : Nat)) ∧ Below w.heap.size w w' := by
  have HR := Lib.hid hr
  clear hr
  have hx : Bxn (w.alloc (.cells (orC C (.slice a2 C.nd.ls.length c2) (.slice a3 C.nd.ts.length c3) (.slice a4 C.td.ws.length c4) (.slice a5 C.td.bs.length c5)).toArray 31)) w.heap.size (orC C (.slice a2 C.nd.ls.length c2) (.slice a3 C.nd.ts.length c3) (.slice a4 C.td.ws.length c4) (.slice a5 C.td.bs.length c5)) := Bxn.made w _ _
  have HB0 : Hid (Below w.heap.size w (w.alloc (.cells (orC C (.slice a2 C.nd.ls.length c2) (.slice a3 C.nd.ts.length c3) (.slice a4 C.td.ws.length c4) (.slice a5 C.td.bs.length c5)).toArray 31))) := (Below.refl _ _).alloc (Nat.le_refl _) _
  have HX0 : Hid (Bxn (w.alloc (.cells (orC C (.slice a2 C.nd.ls.length c2) (.slice a3 C.nd.ts.length c3) (.slice a4 C.td.ws.length c4) (.slice a5 C.td.bs.length c5)).toArray 31)) w.heap.size [.int .u8 3, .string C.nd.n, .int .i64 C.nd.z0, .int .i64 C.nd.z1, .int .i64 C.nd.z2, .slice a2 C.nd.ls.length c2, .slice a3 C.nd.ts.length c3, .string C.td.n, .int .i64 C.td.z0, .int .i64 C.td.z1, .int .i64 C.td.z2, .slice a4 C.td.ws.length c4, .slice a5 C.td.bs.length c5, .string C.td.g, .string C.td.a, .int .i64 C.td.r, .string C.na, .string C.on, .int .u64 (C.fe : Nat)]) := by
    have e : orC C (.slice a2 C.nd.ls.length c2) (.slice a3 C.nd.ts.length c3) (.slice a4 C.td.ws.length c4) (.slice a5 C.td.bs.length c5) = [.int .u8 3, .string C.nd.n, .int .i64 C.nd.z0, .int .i64 C.nd.z1, .int .i64 C.nd.z2, .slice a2 C.nd.ls.length c2, .slice a3 C.nd.ts.length c3, .string C.td.n, .int .i64 C.td.z0, .int .i64 C.td.z1, .int .i64 C.td.z2, .slice a4 C.td.ws.length c4, .slice a5 C.td.bs.length c5, .string C.td.g, .string C.td.a, .int .i64 C.td.r, .string C.na, .string C.on, .int .u64 (C.fe : Nat)] := by
      unfold orC cdC
      rw [hk]; rfl
    show Bxn _ _ _
    rw [← e]
    exact hx
  clear hx
  obtain ⟨CS, hCS⟩ : ∃ CS, CS = (orC C (.slice a2 C.nd.ls.length c2) (.slice a3 C.nd.ts.length c3) (.slice a4 C.td.ws.length c4) (.slice a5 C.td.bs.length c5)).toArray := ⟨_, rfl⟩
  rw [← hCS] at HB0 HX0 ⊢
  clear hCS
  go_enter Try.func36, Try.ntmps36
  go_upto_region 1 with fail
  generalize w.alloc (.cells CS 31) = W0 at *
  have k0 : W0.cell? ⟨w.heap.size, 0, none⟩ = some (.int .u8 3) := HX0.out.cell 0
  go_upto_region 3 with fail
  have HX1 := HX0
  have HB1 := HB0
  clear k0
  obtain ⟨q0, hq0⟩ : ∃ q, q = (zN C.nd.n C.nd.z0 C.nd.z1 C.nd.z2 C.nd.ls.length C.nd.ts.length) := ⟨_, rfl⟩
  have Z0 : ∀ z, Calls Try.prog 68 #[.agg #[.string C.nd.n, .int .i64 C.nd.z0, .int .i64 C.nd.z1, .int .i64 C.nd.z2, .slice a2 C.nd.ls.length c2, .slice a3 C.nd.ts.length c3]] z fun e w' => e = .returned (.bool q0) ∧ Below z.heap.size z w' := fun z => by rw [hq0]; exact no_node _ _ _ _ _ _ _ _ _ _ z
  have d1 : W0.cell? ⟨w.heap.size, 1, none⟩ = some (.string C.nd.n) := HX1.out.cell 1
  have d2 : W0.cell? ⟨w.heap.size, 2, none⟩ = some (.int .i64 C.nd.z0) := HX1.out.cell 2
  have d3 : W0.cell? ⟨w.heap.size, 3, none⟩ = some (.int .i64 C.nd.z1) := HX1.out.cell 3
  have d4 : W0.cell? ⟨w.heap.size, 4, none⟩ = some (.int .i64 C.nd.z2) := HX1.out.cell 4
  have d5 : W0.cell? ⟨w.heap.size, 5, none⟩ = some (.slice a2 C.nd.ls.length c2) := HX1.out.cell 5
  have d6 : W0.cell? ⟨w.heap.size, 6, none⟩ = some (.slice a3 C.nd.ts.length c3) := HX1.out.cell 6
  cases q0
  · have Q0 := Lib.hid hq0.symm
    clear hq0
    go_wp2_with fail
    refine (Z0 _).mono ?_
    rintro e w2 ⟨rfl, hb⟩
    have HX2 := Lib.hid (HX1.out.below hb)
    have HB2 := Lib.hid (HB1.out.trans (hb.mono HB1.out.size))
    clear hb Z0 d1 d2 d3 d4 d5 d6
    have HN : Hid (r = false) := HR.out.trans (andF Q0.out)
    go_wp2
    go_ret
    exact ⟨by rw [HN.out]; rfl, HB2.out⟩
  · have Q0 := Lib.hid hq0.symm
    clear hq0
    go_wp2_with fail
    refine (Z0 _).mono ?_
    rintro e w2 ⟨rfl, hb⟩
    have HX2 := Lib.hid (HX1.out.below hb)
    have HB2 := Lib.hid (HB1.out.trans (hb.mono HB1.out.size))
    clear hb Z0 d1 d2 d3 d4 d5 d6
    have d16 : w2.cell? ⟨w.heap.size, 16, none⟩ = some (.string C.na) := HX2.out.cell 16
    by_cases h2 : C.na.size = 0
    · have q2 : zB C.na = true := by unfold zB; exact decide_eq_true h2
      have Q2 := Lib.hid q2
      rw [ba_size0 h2] at d16
      clear q2 h2
      have d17 : w2.cell? ⟨w.heap.size, 17, none⟩ = some (.string C.on) := HX2.out.cell 17
      by_cases h3 : C.on.size = 0
      · have q3 : zB C.on = true := by unfold zB; exact decide_eq_true h3
        have Q3 := Lib.hid q3
        rw [ba_size0 h3] at d17
        clear q3 h3
        have d18 : w2.cell? ⟨w.heap.size, 18, none⟩ = some (.int .u64 (C.fe : Nat)) := HX2.out.cell 18
        by_cases h4 : C.fe = 0
        · have q4 : zF C.fe = true := by unfold zF; exact decide_eq_true h4
          have Q4 := Lib.hid q4
          rw [h4] at d18
          clear q4 h4
          have HN : Hid (r = true) := HR.out.trans (andT Q0.out (andT Q2.out (andT Q3.out (Q4.out))))
          go_wp2
          go_ret
          exact ⟨by rw [HN.out]; rfl, HB2.out⟩
        · have q4 : zF C.fe = false := by unfold zF; exact decide_eq_false h4
          have Q4 := Lib.hid q4
          have m4 : ¬ ((C.fe : Nat) : Int) = 0 := by omega
          have n4 : (((C.fe : Nat) : Int) == 0) = false := by simpa using m4
          have l4 : (((C.fe : Nat) : Int) != 0) = true := by simpa using m4
          clear q4 h4
          have HN : Hid (r = false) := HR.out.trans (andT Q0.out (andT Q2.out (andT Q3.out (Q4.out))))
          go_wp2
          go_ret
          exact ⟨by rw [HN.out]; rfl, HB2.out⟩
      · have q3 : zB C.on = false := by unfold zB; exact decide_eq_false h3
        have Q3 := Lib.hid q3
        obtain ⟨m3, n3⟩ := ba_ne h3
        clear q3 h3
        have HN : Hid (r = false) := HR.out.trans (andT Q0.out (andT Q2.out (andF Q3.out)))
        go_wp2
        go_ret
        exact ⟨by rw [HN.out]; rfl, HB2.out⟩
    · have q2 : zB C.na = false := by unfold zB; exact decide_eq_false h2
      have Q2 := Lib.hid q2
      obtain ⟨m2, n2⟩ := ba_ne h2
      clear q2 h2
      have HN : Hid (r = false) := HR.out.trans (andT Q0.out (andF Q2.out))
      go_wp2
      go_ret
      exact ⟨by rw [HN.out]; rfl, HB2.out⟩
set_option maxRecDepth 100000 in
set_option maxHeartbeats 4000000 in
theorem cor_bind (C : Cd) (a2 a3 a4 a5 : Option Addr) (c2 c3 c4 c5 : Nat) (w : World) (hk : C.k = 5) (r : Bool) (hr : r = (zNd C.nd && (zTd C.td))) : Calls Try.prog 36 #[.agg (orC C (.slice a2 C.nd.ls.length c2) (.slice a3 C.nd.ts.length c3) (.slice a4 C.td.ws.length c4) (.slice a5 C.td.bs.length c5)).toArray] w fun e w' => e = .returned (.int .i64 (coE r : Nat)) ∧ Below w.heap.size w w' := by
  have HR := Lib.hid hr
  clear hr
  have hx : Bxn (w.alloc (.cells (orC C (.slice a2 C.nd.ls.length c2) (.slice a3 C.nd.ts.length c3) (.slice a4 C.td.ws.length c4) (.slice a5 C.td.bs.length c5)).toArray 31)) w.heap.size (orC C (.slice a2 C.nd.ls.length c2) (.slice a3 C.nd.ts.length c3) (.slice a4 C.td.ws.length c4) (.slice a5 C.td.bs.length c5)) := Bxn.made w _ _
  have HB0 : Hid (Below w.heap.size w (w.alloc (.cells (orC C (.slice a2 C.nd.ls.length c2) (.slice a3 C.nd.ts.length c3) (.slice a4 C.td.ws.length c4) (.slice a5 C.td.bs.length c5)).toArray 31))) := (Below.refl _ _).alloc (Nat.le_refl _) _
  have HX0 : Hid (Bxn (w.alloc (.cells (orC C (.slice a2 C.nd.ls.length c2) (.slice a3 C.nd.ts.length c3) (.slice a4 C.td.ws.length c4) (.slice a5 C.td.bs.length c5)).toArray 31)) w.heap.size [.int .u8 5, .string C.nd.n, .int .i64 C.nd.z0, .int .i64 C.nd.z1, .int .i64 C.nd.z2, .slice a2 C.nd.ls.length c2, .slice a3 C.nd.ts.length c3, .string C.td.n, .int .i64 C.td.z0, .int .i64 C.td.z1, .int .i64 C.td.z2, .slice a4 C.td.ws.length c4, .slice a5 C.td.bs.length c5, .string C.td.g, .string C.td.a, .int .i64 C.td.r, .string C.na, .string C.on, .int .u64 (C.fe : Nat)]) := by
    have e : orC C (.slice a2 C.nd.ls.length c2) (.slice a3 C.nd.ts.length c3) (.slice a4 C.td.ws.length c4) (.slice a5 C.td.bs.length c5) = [.int .u8 5, .string C.nd.n, .int .i64 C.nd.z0, .int .i64 C.nd.z1, .int .i64 C.nd.z2, .slice a2 C.nd.ls.length c2, .slice a3 C.nd.ts.length c3, .string C.td.n, .int .i64 C.td.z0, .int .i64 C.td.z1, .int .i64 C.td.z2, .slice a4 C.td.ws.length c4, .slice a5 C.td.bs.length c5, .string C.td.g, .string C.td.a, .int .i64 C.td.r, .string C.na, .string C.on, .int .u64 (C.fe : Nat)] := by
      unfold orC cdC
      rw [hk]; rfl
    show Bxn _ _ _
    rw [← e]
    exact hx
  clear hx
  obtain ⟨CS, hCS⟩ : ∃ CS, CS = (orC C (.slice a2 C.nd.ls.length c2) (.slice a3 C.nd.ts.length c3) (.slice a4 C.td.ws.length c4) (.slice a5 C.td.bs.length c5)).toArray := ⟨_, rfl⟩
  rw [← hCS] at HB0 HX0 ⊢
  clear hCS
  go_enter Try.func36, Try.ntmps36
  go_upto_region 1 with fail
  generalize w.alloc (.cells CS 31) = W0 at *
  have k0 : W0.cell? ⟨w.heap.size, 0, none⟩ = some (.int .u8 5) := HX0.out.cell 0
  go_upto_region 3 with fail
  have HX1 := HX0
  have HB1 := HB0
  clear k0
  obtain ⟨q0, hq0⟩ : ∃ q, q = (zN C.nd.n C.nd.z0 C.nd.z1 C.nd.z2 C.nd.ls.length C.nd.ts.length) := ⟨_, rfl⟩
  have Z0 : ∀ z, Calls Try.prog 68 #[.agg #[.string C.nd.n, .int .i64 C.nd.z0, .int .i64 C.nd.z1, .int .i64 C.nd.z2, .slice a2 C.nd.ls.length c2, .slice a3 C.nd.ts.length c3]] z fun e w' => e = .returned (.bool q0) ∧ Below z.heap.size z w' := fun z => by rw [hq0]; exact no_node _ _ _ _ _ _ _ _ _ _ z
  have d1 : W0.cell? ⟨w.heap.size, 1, none⟩ = some (.string C.nd.n) := HX1.out.cell 1
  have d2 : W0.cell? ⟨w.heap.size, 2, none⟩ = some (.int .i64 C.nd.z0) := HX1.out.cell 2
  have d3 : W0.cell? ⟨w.heap.size, 3, none⟩ = some (.int .i64 C.nd.z1) := HX1.out.cell 3
  have d4 : W0.cell? ⟨w.heap.size, 4, none⟩ = some (.int .i64 C.nd.z2) := HX1.out.cell 4
  have d5 : W0.cell? ⟨w.heap.size, 5, none⟩ = some (.slice a2 C.nd.ls.length c2) := HX1.out.cell 5
  have d6 : W0.cell? ⟨w.heap.size, 6, none⟩ = some (.slice a3 C.nd.ts.length c3) := HX1.out.cell 6
  cases q0
  · have Q0 := Lib.hid hq0.symm
    clear hq0
    go_wp2_with fail
    refine (Z0 _).mono ?_
    rintro e w2 ⟨rfl, hb⟩
    have HX2 := Lib.hid (HX1.out.below hb)
    have HB2 := Lib.hid (HB1.out.trans (hb.mono HB1.out.size))
    clear hb Z0 d1 d2 d3 d4 d5 d6
    have HN : Hid (r = false) := HR.out.trans (andF Q0.out)
    go_wp2
    go_ret
    exact ⟨by rw [HN.out]; rfl, HB2.out⟩
  · have Q0 := Lib.hid hq0.symm
    clear hq0
    go_wp2_with fail
    refine (Z0 _).mono ?_
    rintro e w2 ⟨rfl, hb⟩
    have HX2 := Lib.hid (HX1.out.below hb)
    have HB2 := Lib.hid (HB1.out.trans (hb.mono HB1.out.size))
    clear hb Z0 d1 d2 d3 d4 d5 d6
    obtain ⟨q1, hq1⟩ : ∃ q, q = (zT C.td.n C.td.z0 C.td.z1 C.td.z2 C.td.ws.length C.td.bs.length C.td.g C.td.a C.td.r) := ⟨_, rfl⟩
    have Z1 : ∀ z, Calls Try.prog 69 #[.agg #[.string C.td.n, .int .i64 C.td.z0, .int .i64 C.td.z1, .int .i64 C.td.z2, .slice a4 C.td.ws.length c4, .slice a5 C.td.bs.length c5, .string C.td.g, .string C.td.a, .int .i64 C.td.r]] z fun e w' => e = .returned (.bool q1) ∧ Below z.heap.size z w' := fun z => by rw [hq1]; exact no_task _ _ _ _ _ _ _ _ _ _ _ _ _ z
    have d7 : w2.cell? ⟨w.heap.size, 7, none⟩ = some (.string C.td.n) := HX2.out.cell 7
    have d8 : w2.cell? ⟨w.heap.size, 8, none⟩ = some (.int .i64 C.td.z0) := HX2.out.cell 8
    have d9 : w2.cell? ⟨w.heap.size, 9, none⟩ = some (.int .i64 C.td.z1) := HX2.out.cell 9
    have d10 : w2.cell? ⟨w.heap.size, 10, none⟩ = some (.int .i64 C.td.z2) := HX2.out.cell 10
    have d11 : w2.cell? ⟨w.heap.size, 11, none⟩ = some (.slice a4 C.td.ws.length c4) := HX2.out.cell 11
    have d12 : w2.cell? ⟨w.heap.size, 12, none⟩ = some (.slice a5 C.td.bs.length c5) := HX2.out.cell 12
    have d13 : w2.cell? ⟨w.heap.size, 13, none⟩ = some (.string C.td.g) := HX2.out.cell 13
    have d14 : w2.cell? ⟨w.heap.size, 14, none⟩ = some (.string C.td.a) := HX2.out.cell 14
    have d15 : w2.cell? ⟨w.heap.size, 15, none⟩ = some (.int .i64 C.td.r) := HX2.out.cell 15
    cases q1
    · have Q1 := Lib.hid hq1.symm
      clear hq1
      go_wp2_with fail
      refine (Z1 _).mono ?_
      rintro e w3 ⟨rfl, hb⟩
      have HX3 := Lib.hid (HX2.out.below hb)
      have HB3 := Lib.hid (HB2.out.trans (hb.mono HB2.out.size))
      clear hb Z1 d7 d8 d9 d10 d11 d12 d13 d14 d15
      have HN : Hid (r = false) := HR.out.trans (andT Q0.out (Q1.out))
      go_wp2
      go_ret
      exact ⟨by rw [HN.out]; rfl, HB3.out⟩
    · have Q1 := Lib.hid hq1.symm
      clear hq1
      go_wp2_with fail
      refine (Z1 _).mono ?_
      rintro e w3 ⟨rfl, hb⟩
      have HX3 := Lib.hid (HX2.out.below hb)
      have HB3 := Lib.hid (HB2.out.trans (hb.mono HB2.out.size))
      clear hb Z1 d7 d8 d9 d10 d11 d12 d13 d14 d15
      have HN : Hid (r = true) := HR.out.trans (andT Q0.out (Q1.out))
      go_wp2
      go_ret
      exact ⟨by rw [HN.out]; rfl, HB3.out⟩
set_option maxRecDepth 100000 in
set_option maxHeartbeats 4000000 in
theorem cor_2 (C : Cd) (a2 a3 a4 a5 : Option Addr) (c2 c3 c4 c5 : Nat) (w : World) (hk : C.k = 2) (r : Bool) (hr : r = (zNd C.nd && (zTd C.td && (zB C.on && (zF C.fe))))) : Calls Try.prog 36 #[.agg (orC C (.slice a2 C.nd.ls.length c2) (.slice a3 C.nd.ts.length c3) (.slice a4 C.td.ws.length c4) (.slice a5 C.td.bs.length c5)).toArray] w fun e w' => e = .returned (.int .i64 (coE r : Nat)) ∧ Below w.heap.size w w' := by
  have HR := Lib.hid hr
  clear hr
  have hx : Bxn (w.alloc (.cells (orC C (.slice a2 C.nd.ls.length c2) (.slice a3 C.nd.ts.length c3) (.slice a4 C.td.ws.length c4) (.slice a5 C.td.bs.length c5)).toArray 31)) w.heap.size (orC C (.slice a2 C.nd.ls.length c2) (.slice a3 C.nd.ts.length c3) (.slice a4 C.td.ws.length c4) (.slice a5 C.td.bs.length c5)) := Bxn.made w _ _
  have HB0 : Hid (Below w.heap.size w (w.alloc (.cells (orC C (.slice a2 C.nd.ls.length c2) (.slice a3 C.nd.ts.length c3) (.slice a4 C.td.ws.length c4) (.slice a5 C.td.bs.length c5)).toArray 31))) := (Below.refl _ _).alloc (Nat.le_refl _) _
  have HX0 : Hid (Bxn (w.alloc (.cells (orC C (.slice a2 C.nd.ls.length c2) (.slice a3 C.nd.ts.length c3) (.slice a4 C.td.ws.length c4) (.slice a5 C.td.bs.length c5)).toArray 31)) w.heap.size [.int .u8 2, .string C.nd.n, .int .i64 C.nd.z0, .int .i64 C.nd.z1, .int .i64 C.nd.z2, .slice a2 C.nd.ls.length c2, .slice a3 C.nd.ts.length c3, .string C.td.n, .int .i64 C.td.z0, .int .i64 C.td.z1, .int .i64 C.td.z2, .slice a4 C.td.ws.length c4, .slice a5 C.td.bs.length c5, .string C.td.g, .string C.td.a, .int .i64 C.td.r, .string C.na, .string C.on, .int .u64 (C.fe : Nat)]) := by
    have e : orC C (.slice a2 C.nd.ls.length c2) (.slice a3 C.nd.ts.length c3) (.slice a4 C.td.ws.length c4) (.slice a5 C.td.bs.length c5) = [.int .u8 2, .string C.nd.n, .int .i64 C.nd.z0, .int .i64 C.nd.z1, .int .i64 C.nd.z2, .slice a2 C.nd.ls.length c2, .slice a3 C.nd.ts.length c3, .string C.td.n, .int .i64 C.td.z0, .int .i64 C.td.z1, .int .i64 C.td.z2, .slice a4 C.td.ws.length c4, .slice a5 C.td.bs.length c5, .string C.td.g, .string C.td.a, .int .i64 C.td.r, .string C.na, .string C.on, .int .u64 (C.fe : Nat)] := by
      unfold orC cdC
      rw [hk]; rfl
    show Bxn _ _ _
    rw [← e]
    exact hx
  clear hx
  obtain ⟨CS, hCS⟩ : ∃ CS, CS = (orC C (.slice a2 C.nd.ls.length c2) (.slice a3 C.nd.ts.length c3) (.slice a4 C.td.ws.length c4) (.slice a5 C.td.bs.length c5)).toArray := ⟨_, rfl⟩
  rw [← hCS] at HB0 HX0 ⊢
  clear hCS
  go_enter Try.func36, Try.ntmps36
  go_upto_region 1 with fail
  generalize w.alloc (.cells CS 31) = W0 at *
  have k0 : W0.cell? ⟨w.heap.size, 0, none⟩ = some (.int .u8 2) := HX0.out.cell 0
  go_upto_region 3 with fail
  have HX1 := HX0
  have HB1 := HB0
  clear k0
  obtain ⟨q0, hq0⟩ : ∃ q, q = (zN C.nd.n C.nd.z0 C.nd.z1 C.nd.z2 C.nd.ls.length C.nd.ts.length) := ⟨_, rfl⟩
  have Z0 : ∀ z, Calls Try.prog 68 #[.agg #[.string C.nd.n, .int .i64 C.nd.z0, .int .i64 C.nd.z1, .int .i64 C.nd.z2, .slice a2 C.nd.ls.length c2, .slice a3 C.nd.ts.length c3]] z fun e w' => e = .returned (.bool q0) ∧ Below z.heap.size z w' := fun z => by rw [hq0]; exact no_node _ _ _ _ _ _ _ _ _ _ z
  have d1 : W0.cell? ⟨w.heap.size, 1, none⟩ = some (.string C.nd.n) := HX1.out.cell 1
  have d2 : W0.cell? ⟨w.heap.size, 2, none⟩ = some (.int .i64 C.nd.z0) := HX1.out.cell 2
  have d3 : W0.cell? ⟨w.heap.size, 3, none⟩ = some (.int .i64 C.nd.z1) := HX1.out.cell 3
  have d4 : W0.cell? ⟨w.heap.size, 4, none⟩ = some (.int .i64 C.nd.z2) := HX1.out.cell 4
  have d5 : W0.cell? ⟨w.heap.size, 5, none⟩ = some (.slice a2 C.nd.ls.length c2) := HX1.out.cell 5
  have d6 : W0.cell? ⟨w.heap.size, 6, none⟩ = some (.slice a3 C.nd.ts.length c3) := HX1.out.cell 6
  cases q0
  · have Q0 := Lib.hid hq0.symm
    clear hq0
    go_wp2_with fail
    refine (Z0 _).mono ?_
    rintro e w2 ⟨rfl, hb⟩
    have HX2 := Lib.hid (HX1.out.below hb)
    have HB2 := Lib.hid (HB1.out.trans (hb.mono HB1.out.size))
    clear hb Z0 d1 d2 d3 d4 d5 d6
    have HN : Hid (r = false) := HR.out.trans (andF Q0.out)
    go_wp2
    go_ret
    exact ⟨by rw [HN.out]; rfl, HB2.out⟩
  · have Q0 := Lib.hid hq0.symm
    clear hq0
    go_wp2_with fail
    refine (Z0 _).mono ?_
    rintro e w2 ⟨rfl, hb⟩
    have HX2 := Lib.hid (HX1.out.below hb)
    have HB2 := Lib.hid (HB1.out.trans (hb.mono HB1.out.size))
    clear hb Z0 d1 d2 d3 d4 d5 d6
    obtain ⟨q1, hq1⟩ : ∃ q, q = (zT C.td.n C.td.z0 C.td.z1 C.td.z2 C.td.ws.length C.td.bs.length C.td.g C.td.a C.td.r) := ⟨_, rfl⟩
    have Z1 : ∀ z, Calls Try.prog 69 #[.agg #[.string C.td.n, .int .i64 C.td.z0, .int .i64 C.td.z1, .int .i64 C.td.z2, .slice a4 C.td.ws.length c4, .slice a5 C.td.bs.length c5, .string C.td.g, .string C.td.a, .int .i64 C.td.r]] z fun e w' => e = .returned (.bool q1) ∧ Below z.heap.size z w' := fun z => by rw [hq1]; exact no_task _ _ _ _ _ _ _ _ _ _ _ _ _ z
    have d7 : w2.cell? ⟨w.heap.size, 7, none⟩ = some (.string C.td.n) := HX2.out.cell 7
    have d8 : w2.cell? ⟨w.heap.size, 8, none⟩ = some (.int .i64 C.td.z0) := HX2.out.cell 8
    have d9 : w2.cell? ⟨w.heap.size, 9, none⟩ = some (.int .i64 C.td.z1) := HX2.out.cell 9
    have d10 : w2.cell? ⟨w.heap.size, 10, none⟩ = some (.int .i64 C.td.z2) := HX2.out.cell 10
    have d11 : w2.cell? ⟨w.heap.size, 11, none⟩ = some (.slice a4 C.td.ws.length c4) := HX2.out.cell 11
    have d12 : w2.cell? ⟨w.heap.size, 12, none⟩ = some (.slice a5 C.td.bs.length c5) := HX2.out.cell 12
    have d13 : w2.cell? ⟨w.heap.size, 13, none⟩ = some (.string C.td.g) := HX2.out.cell 13
    have d14 : w2.cell? ⟨w.heap.size, 14, none⟩ = some (.string C.td.a) := HX2.out.cell 14
    have d15 : w2.cell? ⟨w.heap.size, 15, none⟩ = some (.int .i64 C.td.r) := HX2.out.cell 15
    cases q1
    · have Q1 := Lib.hid hq1.symm
      clear hq1
      go_wp2_with fail
      refine (Z1 _).mono ?_
      rintro e w3 ⟨rfl, hb⟩
      have HX3 := Lib.hid (HX2.out.below hb)
      have HB3 := Lib.hid (HB2.out.trans (hb.mono HB2.out.size))
      clear hb Z1 d7 d8 d9 d10 d11 d12 d13 d14 d15
      have HN : Hid (r = false) := HR.out.trans (andT Q0.out (andF Q1.out))
      go_wp2
      go_ret
      exact ⟨by rw [HN.out]; rfl, HB3.out⟩
    · have Q1 := Lib.hid hq1.symm
      clear hq1
      go_wp2_with fail
      refine (Z1 _).mono ?_
      rintro e w3 ⟨rfl, hb⟩
      have HX3 := Lib.hid (HX2.out.below hb)
      have HB3 := Lib.hid (HB2.out.trans (hb.mono HB2.out.size))
      clear hb Z1 d7 d8 d9 d10 d11 d12 d13 d14 d15
      have d17 : w3.cell? ⟨w.heap.size, 17, none⟩ = some (.string C.on) := HX3.out.cell 17
      by_cases h3 : C.on.size = 0
      · have q3 : zB C.on = true := by unfold zB; exact decide_eq_true h3
        have Q3 := Lib.hid q3
        rw [ba_size0 h3] at d17
        clear q3 h3
        have d18 : w3.cell? ⟨w.heap.size, 18, none⟩ = some (.int .u64 (C.fe : Nat)) := HX3.out.cell 18
        by_cases h4 : C.fe = 0
        · have q4 : zF C.fe = true := by unfold zF; exact decide_eq_true h4
          have Q4 := Lib.hid q4
          rw [h4] at d18
          clear q4 h4
          have HN : Hid (r = true) := HR.out.trans (andT Q0.out (andT Q1.out (andT Q3.out (Q4.out))))
          go_wp2
          go_ret
          exact ⟨by rw [HN.out]; rfl, HB3.out⟩
        · have q4 : zF C.fe = false := by unfold zF; exact decide_eq_false h4
          have Q4 := Lib.hid q4
          have m4 : ¬ ((C.fe : Nat) : Int) = 0 := by omega
          have n4 : (((C.fe : Nat) : Int) == 0) = false := by simpa using m4
          have l4 : (((C.fe : Nat) : Int) != 0) = true := by simpa using m4
          clear q4 h4
          have HN : Hid (r = false) := HR.out.trans (andT Q0.out (andT Q1.out (andT Q3.out (Q4.out))))
          go_wp2
          go_ret
          exact ⟨by rw [HN.out]; rfl, HB3.out⟩
      · have q3 : zB C.on = false := by unfold zB; exact decide_eq_false h3
        have Q3 := Lib.hid q3
        obtain ⟨m3, n3⟩ := ba_ne h3
        clear q3 h3
        have HN : Hid (r = false) := HR.out.trans (andT Q0.out (andT Q1.out (andF Q3.out)))
        go_wp2
        go_ret
        exact ⟨by rw [HN.out]; rfl, HB3.out⟩
set_option maxRecDepth 100000 in
set_option maxHeartbeats 4000000 in
theorem cor_4 (C : Cd) (a2 a3 a4 a5 : Option Addr) (c2 c3 c4 c5 : Nat) (w : World) (hk : C.k = 4) (r : Bool) (hr : r = (zNd C.nd && (zTd C.td && (zB C.on && (zF C.fe))))) : Calls Try.prog 36 #[.agg (orC C (.slice a2 C.nd.ls.length c2) (.slice a3 C.nd.ts.length c3) (.slice a4 C.td.ws.length c4) (.slice a5 C.td.bs.length c5)).toArray] w fun e w' => e = .returned (.int .i64 (coE r : Nat)) ∧ Below w.heap.size w w' := by
  have HR := Lib.hid hr
  clear hr
  have hx : Bxn (w.alloc (.cells (orC C (.slice a2 C.nd.ls.length c2) (.slice a3 C.nd.ts.length c3) (.slice a4 C.td.ws.length c4) (.slice a5 C.td.bs.length c5)).toArray 31)) w.heap.size (orC C (.slice a2 C.nd.ls.length c2) (.slice a3 C.nd.ts.length c3) (.slice a4 C.td.ws.length c4) (.slice a5 C.td.bs.length c5)) := Bxn.made w _ _
  have HB0 : Hid (Below w.heap.size w (w.alloc (.cells (orC C (.slice a2 C.nd.ls.length c2) (.slice a3 C.nd.ts.length c3) (.slice a4 C.td.ws.length c4) (.slice a5 C.td.bs.length c5)).toArray 31))) := (Below.refl _ _).alloc (Nat.le_refl _) _
  have HX0 : Hid (Bxn (w.alloc (.cells (orC C (.slice a2 C.nd.ls.length c2) (.slice a3 C.nd.ts.length c3) (.slice a4 C.td.ws.length c4) (.slice a5 C.td.bs.length c5)).toArray 31)) w.heap.size [.int .u8 4, .string C.nd.n, .int .i64 C.nd.z0, .int .i64 C.nd.z1, .int .i64 C.nd.z2, .slice a2 C.nd.ls.length c2, .slice a3 C.nd.ts.length c3, .string C.td.n, .int .i64 C.td.z0, .int .i64 C.td.z1, .int .i64 C.td.z2, .slice a4 C.td.ws.length c4, .slice a5 C.td.bs.length c5, .string C.td.g, .string C.td.a, .int .i64 C.td.r, .string C.na, .string C.on, .int .u64 (C.fe : Nat)]) := by
    have e : orC C (.slice a2 C.nd.ls.length c2) (.slice a3 C.nd.ts.length c3) (.slice a4 C.td.ws.length c4) (.slice a5 C.td.bs.length c5) = [.int .u8 4, .string C.nd.n, .int .i64 C.nd.z0, .int .i64 C.nd.z1, .int .i64 C.nd.z2, .slice a2 C.nd.ls.length c2, .slice a3 C.nd.ts.length c3, .string C.td.n, .int .i64 C.td.z0, .int .i64 C.td.z1, .int .i64 C.td.z2, .slice a4 C.td.ws.length c4, .slice a5 C.td.bs.length c5, .string C.td.g, .string C.td.a, .int .i64 C.td.r, .string C.na, .string C.on, .int .u64 (C.fe : Nat)] := by
      unfold orC cdC
      rw [hk]; rfl
    show Bxn _ _ _
    rw [← e]
    exact hx
  clear hx
  obtain ⟨CS, hCS⟩ : ∃ CS, CS = (orC C (.slice a2 C.nd.ls.length c2) (.slice a3 C.nd.ts.length c3) (.slice a4 C.td.ws.length c4) (.slice a5 C.td.bs.length c5)).toArray := ⟨_, rfl⟩
  rw [← hCS] at HB0 HX0 ⊢
  clear hCS
  go_enter Try.func36, Try.ntmps36
  go_upto_region 1 with fail
  generalize w.alloc (.cells CS 31) = W0 at *
  have k0 : W0.cell? ⟨w.heap.size, 0, none⟩ = some (.int .u8 4) := HX0.out.cell 0
  go_upto_region 3 with fail
  have HX1 := HX0
  have HB1 := HB0
  clear k0
  obtain ⟨q0, hq0⟩ : ∃ q, q = (zN C.nd.n C.nd.z0 C.nd.z1 C.nd.z2 C.nd.ls.length C.nd.ts.length) := ⟨_, rfl⟩
  have Z0 : ∀ z, Calls Try.prog 68 #[.agg #[.string C.nd.n, .int .i64 C.nd.z0, .int .i64 C.nd.z1, .int .i64 C.nd.z2, .slice a2 C.nd.ls.length c2, .slice a3 C.nd.ts.length c3]] z fun e w' => e = .returned (.bool q0) ∧ Below z.heap.size z w' := fun z => by rw [hq0]; exact no_node _ _ _ _ _ _ _ _ _ _ z
  have d1 : W0.cell? ⟨w.heap.size, 1, none⟩ = some (.string C.nd.n) := HX1.out.cell 1
  have d2 : W0.cell? ⟨w.heap.size, 2, none⟩ = some (.int .i64 C.nd.z0) := HX1.out.cell 2
  have d3 : W0.cell? ⟨w.heap.size, 3, none⟩ = some (.int .i64 C.nd.z1) := HX1.out.cell 3
  have d4 : W0.cell? ⟨w.heap.size, 4, none⟩ = some (.int .i64 C.nd.z2) := HX1.out.cell 4
  have d5 : W0.cell? ⟨w.heap.size, 5, none⟩ = some (.slice a2 C.nd.ls.length c2) := HX1.out.cell 5
  have d6 : W0.cell? ⟨w.heap.size, 6, none⟩ = some (.slice a3 C.nd.ts.length c3) := HX1.out.cell 6
  cases q0
  · have Q0 := Lib.hid hq0.symm
    clear hq0
    go_wp2_with fail
    refine (Z0 _).mono ?_
    rintro e w2 ⟨rfl, hb⟩
    have HX2 := Lib.hid (HX1.out.below hb)
    have HB2 := Lib.hid (HB1.out.trans (hb.mono HB1.out.size))
    clear hb Z0 d1 d2 d3 d4 d5 d6
    have HN : Hid (r = false) := HR.out.trans (andF Q0.out)
    go_wp2
    go_ret
    exact ⟨by rw [HN.out]; rfl, HB2.out⟩
  · have Q0 := Lib.hid hq0.symm
    clear hq0
    go_wp2_with fail
    refine (Z0 _).mono ?_
    rintro e w2 ⟨rfl, hb⟩
    have HX2 := Lib.hid (HX1.out.below hb)
    have HB2 := Lib.hid (HB1.out.trans (hb.mono HB1.out.size))
    clear hb Z0 d1 d2 d3 d4 d5 d6
    obtain ⟨q1, hq1⟩ : ∃ q, q = (zT C.td.n C.td.z0 C.td.z1 C.td.z2 C.td.ws.length C.td.bs.length C.td.g C.td.a C.td.r) := ⟨_, rfl⟩
    have Z1 : ∀ z, Calls Try.prog 69 #[.agg #[.string C.td.n, .int .i64 C.td.z0, .int .i64 C.td.z1, .int .i64 C.td.z2, .slice a4 C.td.ws.length c4, .slice a5 C.td.bs.length c5, .string C.td.g, .string C.td.a, .int .i64 C.td.r]] z fun e w' => e = .returned (.bool q1) ∧ Below z.heap.size z w' := fun z => by rw [hq1]; exact no_task _ _ _ _ _ _ _ _ _ _ _ _ _ z
    have d7 : w2.cell? ⟨w.heap.size, 7, none⟩ = some (.string C.td.n) := HX2.out.cell 7
    have d8 : w2.cell? ⟨w.heap.size, 8, none⟩ = some (.int .i64 C.td.z0) := HX2.out.cell 8
    have d9 : w2.cell? ⟨w.heap.size, 9, none⟩ = some (.int .i64 C.td.z1) := HX2.out.cell 9
    have d10 : w2.cell? ⟨w.heap.size, 10, none⟩ = some (.int .i64 C.td.z2) := HX2.out.cell 10
    have d11 : w2.cell? ⟨w.heap.size, 11, none⟩ = some (.slice a4 C.td.ws.length c4) := HX2.out.cell 11
    have d12 : w2.cell? ⟨w.heap.size, 12, none⟩ = some (.slice a5 C.td.bs.length c5) := HX2.out.cell 12
    have d13 : w2.cell? ⟨w.heap.size, 13, none⟩ = some (.string C.td.g) := HX2.out.cell 13
    have d14 : w2.cell? ⟨w.heap.size, 14, none⟩ = some (.string C.td.a) := HX2.out.cell 14
    have d15 : w2.cell? ⟨w.heap.size, 15, none⟩ = some (.int .i64 C.td.r) := HX2.out.cell 15
    cases q1
    · have Q1 := Lib.hid hq1.symm
      clear hq1
      go_wp2_with fail
      refine (Z1 _).mono ?_
      rintro e w3 ⟨rfl, hb⟩
      have HX3 := Lib.hid (HX2.out.below hb)
      have HB3 := Lib.hid (HB2.out.trans (hb.mono HB2.out.size))
      clear hb Z1 d7 d8 d9 d10 d11 d12 d13 d14 d15
      have HN : Hid (r = false) := HR.out.trans (andT Q0.out (andF Q1.out))
      go_wp2
      go_ret
      exact ⟨by rw [HN.out]; rfl, HB3.out⟩
    · have Q1 := Lib.hid hq1.symm
      clear hq1
      go_wp2_with fail
      refine (Z1 _).mono ?_
      rintro e w3 ⟨rfl, hb⟩
      have HX3 := Lib.hid (HX2.out.below hb)
      have HB3 := Lib.hid (HB2.out.trans (hb.mono HB2.out.size))
      clear hb Z1 d7 d8 d9 d10 d11 d12 d13 d14 d15
      have d17 : w3.cell? ⟨w.heap.size, 17, none⟩ = some (.string C.on) := HX3.out.cell 17
      by_cases h3 : C.on.size = 0
      · have q3 : zB C.on = true := by unfold zB; exact decide_eq_true h3
        have Q3 := Lib.hid q3
        rw [ba_size0 h3] at d17
        clear q3 h3
        have d18 : w3.cell? ⟨w.heap.size, 18, none⟩ = some (.int .u64 (C.fe : Nat)) := HX3.out.cell 18
        by_cases h4 : C.fe = 0
        · have q4 : zF C.fe = true := by unfold zF; exact decide_eq_true h4
          have Q4 := Lib.hid q4
          rw [h4] at d18
          clear q4 h4
          have HN : Hid (r = true) := HR.out.trans (andT Q0.out (andT Q1.out (andT Q3.out (Q4.out))))
          go_wp2
          go_ret
          exact ⟨by rw [HN.out]; rfl, HB3.out⟩
        · have q4 : zF C.fe = false := by unfold zF; exact decide_eq_false h4
          have Q4 := Lib.hid q4
          have m4 : ¬ ((C.fe : Nat) : Int) = 0 := by omega
          have n4 : (((C.fe : Nat) : Int) == 0) = false := by simpa using m4
          have l4 : (((C.fe : Nat) : Int) != 0) = true := by simpa using m4
          clear q4 h4
          have HN : Hid (r = false) := HR.out.trans (andT Q0.out (andT Q1.out (andT Q3.out (Q4.out))))
          go_wp2
          go_ret
          exact ⟨by rw [HN.out]; rfl, HB3.out⟩
      · have q3 : zB C.on = false := by unfold zB; exact decide_eq_false h3
        have Q3 := Lib.hid q3
        obtain ⟨m3, n3⟩ := ba_ne h3
        clear q3 h3
        have HN : Hid (r = false) := HR.out.trans (andT Q0.out (andT Q1.out (andF Q3.out)))
        go_wp2
        go_ret
        exact ⟨by rw [HN.out]; rfl, HB3.out⟩
set_option maxRecDepth 100000 in
set_option maxHeartbeats 4000000 in
theorem cor_6 (C : Cd) (a2 a3 a4 a5 : Option Addr) (c2 c3 c4 c5 : Nat) (w : World) (hk : C.k = 6) (r : Bool) (hr : r = (zNd C.nd && (zTd C.td && (zB C.on && (zF C.fe))))) : Calls Try.prog 36 #[.agg (orC C (.slice a2 C.nd.ls.length c2) (.slice a3 C.nd.ts.length c3) (.slice a4 C.td.ws.length c4) (.slice a5 C.td.bs.length c5)).toArray] w fun e w' => e = .returned (.int .i64 (coE r : Nat)) ∧ Below w.heap.size w w' := by
  have HR := Lib.hid hr
  clear hr
  have hx : Bxn (w.alloc (.cells (orC C (.slice a2 C.nd.ls.length c2) (.slice a3 C.nd.ts.length c3) (.slice a4 C.td.ws.length c4) (.slice a5 C.td.bs.length c5)).toArray 31)) w.heap.size (orC C (.slice a2 C.nd.ls.length c2) (.slice a3 C.nd.ts.length c3) (.slice a4 C.td.ws.length c4) (.slice a5 C.td.bs.length c5)) := Bxn.made w _ _
  have HB0 : Hid (Below w.heap.size w (w.alloc (.cells (orC C (.slice a2 C.nd.ls.length c2) (.slice a3 C.nd.ts.length c3) (.slice a4 C.td.ws.length c4) (.slice a5 C.td.bs.length c5)).toArray 31))) := (Below.refl _ _).alloc (Nat.le_refl _) _
  have HX0 : Hid (Bxn (w.alloc (.cells (orC C (.slice a2 C.nd.ls.length c2) (.slice a3 C.nd.ts.length c3) (.slice a4 C.td.ws.length c4) (.slice a5 C.td.bs.length c5)).toArray 31)) w.heap.size [.int .u8 6, .string C.nd.n, .int .i64 C.nd.z0, .int .i64 C.nd.z1, .int .i64 C.nd.z2, .slice a2 C.nd.ls.length c2, .slice a3 C.nd.ts.length c3, .string C.td.n, .int .i64 C.td.z0, .int .i64 C.td.z1, .int .i64 C.td.z2, .slice a4 C.td.ws.length c4, .slice a5 C.td.bs.length c5, .string C.td.g, .string C.td.a, .int .i64 C.td.r, .string C.na, .string C.on, .int .u64 (C.fe : Nat)]) := by
    have e : orC C (.slice a2 C.nd.ls.length c2) (.slice a3 C.nd.ts.length c3) (.slice a4 C.td.ws.length c4) (.slice a5 C.td.bs.length c5) = [.int .u8 6, .string C.nd.n, .int .i64 C.nd.z0, .int .i64 C.nd.z1, .int .i64 C.nd.z2, .slice a2 C.nd.ls.length c2, .slice a3 C.nd.ts.length c3, .string C.td.n, .int .i64 C.td.z0, .int .i64 C.td.z1, .int .i64 C.td.z2, .slice a4 C.td.ws.length c4, .slice a5 C.td.bs.length c5, .string C.td.g, .string C.td.a, .int .i64 C.td.r, .string C.na, .string C.on, .int .u64 (C.fe : Nat)] := by
      unfold orC cdC
      rw [hk]; rfl
    show Bxn _ _ _
    rw [← e]
    exact hx
  clear hx
  obtain ⟨CS, hCS⟩ : ∃ CS, CS = (orC C (.slice a2 C.nd.ls.length c2) (.slice a3 C.nd.ts.length c3) (.slice a4 C.td.ws.length c4) (.slice a5 C.td.bs.length c5)).toArray := ⟨_, rfl⟩
  rw [← hCS] at HB0 HX0 ⊢
  clear hCS
  go_enter Try.func36, Try.ntmps36
  go_upto_region 1 with fail
  generalize w.alloc (.cells CS 31) = W0 at *
  have k0 : W0.cell? ⟨w.heap.size, 0, none⟩ = some (.int .u8 6) := HX0.out.cell 0
  go_upto_region 3 with fail
  have HX1 := HX0
  have HB1 := HB0
  clear k0
  obtain ⟨q0, hq0⟩ : ∃ q, q = (zN C.nd.n C.nd.z0 C.nd.z1 C.nd.z2 C.nd.ls.length C.nd.ts.length) := ⟨_, rfl⟩
  have Z0 : ∀ z, Calls Try.prog 68 #[.agg #[.string C.nd.n, .int .i64 C.nd.z0, .int .i64 C.nd.z1, .int .i64 C.nd.z2, .slice a2 C.nd.ls.length c2, .slice a3 C.nd.ts.length c3]] z fun e w' => e = .returned (.bool q0) ∧ Below z.heap.size z w' := fun z => by rw [hq0]; exact no_node _ _ _ _ _ _ _ _ _ _ z
  have d1 : W0.cell? ⟨w.heap.size, 1, none⟩ = some (.string C.nd.n) := HX1.out.cell 1
  have d2 : W0.cell? ⟨w.heap.size, 2, none⟩ = some (.int .i64 C.nd.z0) := HX1.out.cell 2
  have d3 : W0.cell? ⟨w.heap.size, 3, none⟩ = some (.int .i64 C.nd.z1) := HX1.out.cell 3
  have d4 : W0.cell? ⟨w.heap.size, 4, none⟩ = some (.int .i64 C.nd.z2) := HX1.out.cell 4
  have d5 : W0.cell? ⟨w.heap.size, 5, none⟩ = some (.slice a2 C.nd.ls.length c2) := HX1.out.cell 5
  have d6 : W0.cell? ⟨w.heap.size, 6, none⟩ = some (.slice a3 C.nd.ts.length c3) := HX1.out.cell 6
  cases q0
  · have Q0 := Lib.hid hq0.symm
    clear hq0
    go_wp2_with fail
    refine (Z0 _).mono ?_
    rintro e w2 ⟨rfl, hb⟩
    have HX2 := Lib.hid (HX1.out.below hb)
    have HB2 := Lib.hid (HB1.out.trans (hb.mono HB1.out.size))
    clear hb Z0 d1 d2 d3 d4 d5 d6
    have HN : Hid (r = false) := HR.out.trans (andF Q0.out)
    go_wp2
    go_ret
    exact ⟨by rw [HN.out]; rfl, HB2.out⟩
  · have Q0 := Lib.hid hq0.symm
    clear hq0
    go_wp2_with fail
    refine (Z0 _).mono ?_
    rintro e w2 ⟨rfl, hb⟩
    have HX2 := Lib.hid (HX1.out.below hb)
    have HB2 := Lib.hid (HB1.out.trans (hb.mono HB1.out.size))
    clear hb Z0 d1 d2 d3 d4 d5 d6
    obtain ⟨q1, hq1⟩ : ∃ q, q = (zT C.td.n C.td.z0 C.td.z1 C.td.z2 C.td.ws.length C.td.bs.length C.td.g C.td.a C.td.r) := ⟨_, rfl⟩
    have Z1 : ∀ z, Calls Try.prog 69 #[.agg #[.string C.td.n, .int .i64 C.td.z0, .int .i64 C.td.z1, .int .i64 C.td.z2, .slice a4 C.td.ws.length c4, .slice a5 C.td.bs.length c5, .string C.td.g, .string C.td.a, .int .i64 C.td.r]] z fun e w' => e = .returned (.bool q1) ∧ Below z.heap.size z w' := fun z => by rw [hq1]; exact no_task _ _ _ _ _ _ _ _ _ _ _ _ _ z
    have d7 : w2.cell? ⟨w.heap.size, 7, none⟩ = some (.string C.td.n) := HX2.out.cell 7
    have d8 : w2.cell? ⟨w.heap.size, 8, none⟩ = some (.int .i64 C.td.z0) := HX2.out.cell 8
    have d9 : w2.cell? ⟨w.heap.size, 9, none⟩ = some (.int .i64 C.td.z1) := HX2.out.cell 9
    have d10 : w2.cell? ⟨w.heap.size, 10, none⟩ = some (.int .i64 C.td.z2) := HX2.out.cell 10
    have d11 : w2.cell? ⟨w.heap.size, 11, none⟩ = some (.slice a4 C.td.ws.length c4) := HX2.out.cell 11
    have d12 : w2.cell? ⟨w.heap.size, 12, none⟩ = some (.slice a5 C.td.bs.length c5) := HX2.out.cell 12
    have d13 : w2.cell? ⟨w.heap.size, 13, none⟩ = some (.string C.td.g) := HX2.out.cell 13
    have d14 : w2.cell? ⟨w.heap.size, 14, none⟩ = some (.string C.td.a) := HX2.out.cell 14
    have d15 : w2.cell? ⟨w.heap.size, 15, none⟩ = some (.int .i64 C.td.r) := HX2.out.cell 15
    cases q1
    · have Q1 := Lib.hid hq1.symm
      clear hq1
      go_wp2_with fail
      refine (Z1 _).mono ?_
      rintro e w3 ⟨rfl, hb⟩
      have HX3 := Lib.hid (HX2.out.below hb)
      have HB3 := Lib.hid (HB2.out.trans (hb.mono HB2.out.size))
      clear hb Z1 d7 d8 d9 d10 d11 d12 d13 d14 d15
      have HN : Hid (r = false) := HR.out.trans (andT Q0.out (andF Q1.out))
      go_wp2
      go_ret
      exact ⟨by rw [HN.out]; rfl, HB3.out⟩
    · have Q1 := Lib.hid hq1.symm
      clear hq1
      go_wp2_with fail
      refine (Z1 _).mono ?_
      rintro e w3 ⟨rfl, hb⟩
      have HX3 := Lib.hid (HX2.out.below hb)
      have HB3 := Lib.hid (HB2.out.trans (hb.mono HB2.out.size))
      clear hb Z1 d7 d8 d9 d10 d11 d12 d13 d14 d15
      have d17 : w3.cell? ⟨w.heap.size, 17, none⟩ = some (.string C.on) := HX3.out.cell 17
      by_cases h3 : C.on.size = 0
      · have q3 : zB C.on = true := by unfold zB; exact decide_eq_true h3
        have Q3 := Lib.hid q3
        rw [ba_size0 h3] at d17
        clear q3 h3
        have d18 : w3.cell? ⟨w.heap.size, 18, none⟩ = some (.int .u64 (C.fe : Nat)) := HX3.out.cell 18
        by_cases h4 : C.fe = 0
        · have q4 : zF C.fe = true := by unfold zF; exact decide_eq_true h4
          have Q4 := Lib.hid q4
          rw [h4] at d18
          clear q4 h4
          have HN : Hid (r = true) := HR.out.trans (andT Q0.out (andT Q1.out (andT Q3.out (Q4.out))))
          go_wp2
          go_ret
          exact ⟨by rw [HN.out]; rfl, HB3.out⟩
        · have q4 : zF C.fe = false := by unfold zF; exact decide_eq_false h4
          have Q4 := Lib.hid q4
          have m4 : ¬ ((C.fe : Nat) : Int) = 0 := by omega
          have n4 : (((C.fe : Nat) : Int) == 0) = false := by simpa using m4
          have l4 : (((C.fe : Nat) : Int) != 0) = true := by simpa using m4
          clear q4 h4
          have HN : Hid (r = false) := HR.out.trans (andT Q0.out (andT Q1.out (andT Q3.out (Q4.out))))
          go_wp2
          go_ret
          exact ⟨by rw [HN.out]; rfl, HB3.out⟩
      · have q3 : zB C.on = false := by unfold zB; exact decide_eq_false h3
        have Q3 := Lib.hid q3
        obtain ⟨m3, n3⟩ := ba_ne h3
        clear q3 h3
        have HN : Hid (r = false) := HR.out.trans (andT Q0.out (andT Q1.out (andF Q3.out)))
        go_wp2
        go_ret
        exact ⟨by rw [HN.out]; rfl, HB3.out⟩
set_option maxRecDepth 100000 in
set_option maxHeartbeats 4000000 in
theorem cor_7 (C : Cd) (a2 a3 a4 a5 : Option Addr) (c2 c3 c4 c5 : Nat) (w : World) (hk : C.k = 7) (r : Bool) (hr : r = (zNd C.nd && (zTd C.td && (zB C.on && (zF C.fe))))) : Calls Try.prog 36 #[.agg (orC C (.slice a2 C.nd.ls.length c2) (.slice a3 C.nd.ts.length c3) (.slice a4 C.td.ws.length c4) (.slice a5 C.td.bs.length c5)).toArray] w fun e w' => e = .returned (.int .i64 (coE r : Nat)) ∧ Below w.heap.size w w' := by
  have HR := Lib.hid hr
  clear hr
  have hx : Bxn (w.alloc (.cells (orC C (.slice a2 C.nd.ls.length c2) (.slice a3 C.nd.ts.length c3) (.slice a4 C.td.ws.length c4) (.slice a5 C.td.bs.length c5)).toArray 31)) w.heap.size (orC C (.slice a2 C.nd.ls.length c2) (.slice a3 C.nd.ts.length c3) (.slice a4 C.td.ws.length c4) (.slice a5 C.td.bs.length c5)) := Bxn.made w _ _
  have HB0 : Hid (Below w.heap.size w (w.alloc (.cells (orC C (.slice a2 C.nd.ls.length c2) (.slice a3 C.nd.ts.length c3) (.slice a4 C.td.ws.length c4) (.slice a5 C.td.bs.length c5)).toArray 31))) := (Below.refl _ _).alloc (Nat.le_refl _) _
  have HX0 : Hid (Bxn (w.alloc (.cells (orC C (.slice a2 C.nd.ls.length c2) (.slice a3 C.nd.ts.length c3) (.slice a4 C.td.ws.length c4) (.slice a5 C.td.bs.length c5)).toArray 31)) w.heap.size [.int .u8 7, .string C.nd.n, .int .i64 C.nd.z0, .int .i64 C.nd.z1, .int .i64 C.nd.z2, .slice a2 C.nd.ls.length c2, .slice a3 C.nd.ts.length c3, .string C.td.n, .int .i64 C.td.z0, .int .i64 C.td.z1, .int .i64 C.td.z2, .slice a4 C.td.ws.length c4, .slice a5 C.td.bs.length c5, .string C.td.g, .string C.td.a, .int .i64 C.td.r, .string C.na, .string C.on, .int .u64 (C.fe : Nat)]) := by
    have e : orC C (.slice a2 C.nd.ls.length c2) (.slice a3 C.nd.ts.length c3) (.slice a4 C.td.ws.length c4) (.slice a5 C.td.bs.length c5) = [.int .u8 7, .string C.nd.n, .int .i64 C.nd.z0, .int .i64 C.nd.z1, .int .i64 C.nd.z2, .slice a2 C.nd.ls.length c2, .slice a3 C.nd.ts.length c3, .string C.td.n, .int .i64 C.td.z0, .int .i64 C.td.z1, .int .i64 C.td.z2, .slice a4 C.td.ws.length c4, .slice a5 C.td.bs.length c5, .string C.td.g, .string C.td.a, .int .i64 C.td.r, .string C.na, .string C.on, .int .u64 (C.fe : Nat)] := by
      unfold orC cdC
      rw [hk]; rfl
    show Bxn _ _ _
    rw [← e]
    exact hx
  clear hx
  obtain ⟨CS, hCS⟩ : ∃ CS, CS = (orC C (.slice a2 C.nd.ls.length c2) (.slice a3 C.nd.ts.length c3) (.slice a4 C.td.ws.length c4) (.slice a5 C.td.bs.length c5)).toArray := ⟨_, rfl⟩
  rw [← hCS] at HB0 HX0 ⊢
  clear hCS
  go_enter Try.func36, Try.ntmps36
  go_upto_region 1 with fail
  generalize w.alloc (.cells CS 31) = W0 at *
  have k0 : W0.cell? ⟨w.heap.size, 0, none⟩ = some (.int .u8 7) := HX0.out.cell 0
  go_upto_region 3 with fail
  have HX1 := HX0
  have HB1 := HB0
  clear k0
  obtain ⟨q0, hq0⟩ : ∃ q, q = (zN C.nd.n C.nd.z0 C.nd.z1 C.nd.z2 C.nd.ls.length C.nd.ts.length) := ⟨_, rfl⟩
  have Z0 : ∀ z, Calls Try.prog 68 #[.agg #[.string C.nd.n, .int .i64 C.nd.z0, .int .i64 C.nd.z1, .int .i64 C.nd.z2, .slice a2 C.nd.ls.length c2, .slice a3 C.nd.ts.length c3]] z fun e w' => e = .returned (.bool q0) ∧ Below z.heap.size z w' := fun z => by rw [hq0]; exact no_node _ _ _ _ _ _ _ _ _ _ z
  have d1 : W0.cell? ⟨w.heap.size, 1, none⟩ = some (.string C.nd.n) := HX1.out.cell 1
  have d2 : W0.cell? ⟨w.heap.size, 2, none⟩ = some (.int .i64 C.nd.z0) := HX1.out.cell 2
  have d3 : W0.cell? ⟨w.heap.size, 3, none⟩ = some (.int .i64 C.nd.z1) := HX1.out.cell 3
  have d4 : W0.cell? ⟨w.heap.size, 4, none⟩ = some (.int .i64 C.nd.z2) := HX1.out.cell 4
  have d5 : W0.cell? ⟨w.heap.size, 5, none⟩ = some (.slice a2 C.nd.ls.length c2) := HX1.out.cell 5
  have d6 : W0.cell? ⟨w.heap.size, 6, none⟩ = some (.slice a3 C.nd.ts.length c3) := HX1.out.cell 6
  cases q0
  · have Q0 := Lib.hid hq0.symm
    clear hq0
    go_wp2_with fail
    refine (Z0 _).mono ?_
    rintro e w2 ⟨rfl, hb⟩
    have HX2 := Lib.hid (HX1.out.below hb)
    have HB2 := Lib.hid (HB1.out.trans (hb.mono HB1.out.size))
    clear hb Z0 d1 d2 d3 d4 d5 d6
    have HN : Hid (r = false) := HR.out.trans (andF Q0.out)
    go_wp2
    go_ret
    exact ⟨by rw [HN.out]; rfl, HB2.out⟩
  · have Q0 := Lib.hid hq0.symm
    clear hq0
    go_wp2_with fail
    refine (Z0 _).mono ?_
    rintro e w2 ⟨rfl, hb⟩
    have HX2 := Lib.hid (HX1.out.below hb)
    have HB2 := Lib.hid (HB1.out.trans (hb.mono HB1.out.size))
    clear hb Z0 d1 d2 d3 d4 d5 d6
    obtain ⟨q1, hq1⟩ : ∃ q, q = (zT C.td.n C.td.z0 C.td.z1 C.td.z2 C.td.ws.length C.td.bs.length C.td.g C.td.a C.td.r) := ⟨_, rfl⟩
    have Z1 : ∀ z, Calls Try.prog 69 #[.agg #[.string C.td.n, .int .i64 C.td.z0, .int .i64 C.td.z1, .int .i64 C.td.z2, .slice a4 C.td.ws.length c4, .slice a5 C.td.bs.length c5, .string C.td.g, .string C.td.a, .int .i64 C.td.r]] z fun e w' => e = .returned (.bool q1) ∧ Below z.heap.size z w' := fun z => by rw [hq1]; exact no_task _ _ _ _ _ _ _ _ _ _ _ _ _ z
    have d7 : w2.cell? ⟨w.heap.size, 7, none⟩ = some (.string C.td.n) := HX2.out.cell 7
    have d8 : w2.cell? ⟨w.heap.size, 8, none⟩ = some (.int .i64 C.td.z0) := HX2.out.cell 8
    have d9 : w2.cell? ⟨w.heap.size, 9, none⟩ = some (.int .i64 C.td.z1) := HX2.out.cell 9
    have d10 : w2.cell? ⟨w.heap.size, 10, none⟩ = some (.int .i64 C.td.z2) := HX2.out.cell 10
    have d11 : w2.cell? ⟨w.heap.size, 11, none⟩ = some (.slice a4 C.td.ws.length c4) := HX2.out.cell 11
    have d12 : w2.cell? ⟨w.heap.size, 12, none⟩ = some (.slice a5 C.td.bs.length c5) := HX2.out.cell 12
    have d13 : w2.cell? ⟨w.heap.size, 13, none⟩ = some (.string C.td.g) := HX2.out.cell 13
    have d14 : w2.cell? ⟨w.heap.size, 14, none⟩ = some (.string C.td.a) := HX2.out.cell 14
    have d15 : w2.cell? ⟨w.heap.size, 15, none⟩ = some (.int .i64 C.td.r) := HX2.out.cell 15
    cases q1
    · have Q1 := Lib.hid hq1.symm
      clear hq1
      go_wp2_with fail
      refine (Z1 _).mono ?_
      rintro e w3 ⟨rfl, hb⟩
      have HX3 := Lib.hid (HX2.out.below hb)
      have HB3 := Lib.hid (HB2.out.trans (hb.mono HB2.out.size))
      clear hb Z1 d7 d8 d9 d10 d11 d12 d13 d14 d15
      have HN : Hid (r = false) := HR.out.trans (andT Q0.out (andF Q1.out))
      go_wp2
      go_ret
      exact ⟨by rw [HN.out]; rfl, HB3.out⟩
    · have Q1 := Lib.hid hq1.symm
      clear hq1
      go_wp2_with fail
      refine (Z1 _).mono ?_
      rintro e w3 ⟨rfl, hb⟩
      have HX3 := Lib.hid (HX2.out.below hb)
      have HB3 := Lib.hid (HB2.out.trans (hb.mono HB2.out.size))
      clear hb Z1 d7 d8 d9 d10 d11 d12 d13 d14 d15
      have d17 : w3.cell? ⟨w.heap.size, 17, none⟩ = some (.string C.on) := HX3.out.cell 17
      by_cases h3 : C.on.size = 0
      · have q3 : zB C.on = true := by unfold zB; exact decide_eq_true h3
        have Q3 := Lib.hid q3
        rw [ba_size0 h3] at d17
        clear q3 h3
        have d18 : w3.cell? ⟨w.heap.size, 18, none⟩ = some (.int .u64 (C.fe : Nat)) := HX3.out.cell 18
        by_cases h4 : C.fe = 0
        · have q4 : zF C.fe = true := by unfold zF; exact decide_eq_true h4
          have Q4 := Lib.hid q4
          rw [h4] at d18
          clear q4 h4
          have HN : Hid (r = true) := HR.out.trans (andT Q0.out (andT Q1.out (andT Q3.out (Q4.out))))
          go_wp2
          go_ret
          exact ⟨by rw [HN.out]; rfl, HB3.out⟩
        · have q4 : zF C.fe = false := by unfold zF; exact decide_eq_false h4
          have Q4 := Lib.hid q4
          have m4 : ¬ ((C.fe : Nat) : Int) = 0 := by omega
          have n4 : (((C.fe : Nat) : Int) == 0) = false := by simpa using m4
          have l4 : (((C.fe : Nat) : Int) != 0) = true := by simpa using m4
          clear q4 h4
          have HN : Hid (r = false) := HR.out.trans (andT Q0.out (andT Q1.out (andT Q3.out (Q4.out))))
          go_wp2
          go_ret
          exact ⟨by rw [HN.out]; rfl, HB3.out⟩
      · have q3 : zB C.on = false := by unfold zB; exact decide_eq_false h3
        have Q3 := Lib.hid q3
        obtain ⟨m3, n3⟩ := ba_ne h3
        clear q3 h3
        have HN : Hid (r = false) := HR.out.trans (andT Q0.out (andT Q1.out (andF Q3.out)))
        go_wp2
        go_ret
        exact ⟨by rw [HN.out]; rfl, HB3.out⟩
end Hd
end Go.Proofs.Ythlchdlgafincaa
