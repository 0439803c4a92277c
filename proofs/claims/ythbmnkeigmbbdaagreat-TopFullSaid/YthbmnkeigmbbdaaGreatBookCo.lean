/-
  book.CheckOrder: whether an order has no others than its kind's.
-/
import Derived.Test.YthbmnkeigmbbdaaGreatBookZero
import Derived.Test.YthbmnkeigmbbdaaGreatOrA
namespace Go.Proofs.YthbmnkeigmbbdaaGreat
open Go.RowKit
namespace Hd
open PM Hc Rg
def zF (n : Nat) : Bool := decide (n = 0)
def zNd (n : Nd) : Bool := zN n.n n.z0 n.z1 n.z2 n.ls.length n.ts.length
def zTd (n : Td) : Bool := zT n.n n.z0 n.z1 n.z2 n.ws.length n.bs.length n.g n.a n.r
/-- Whether an order is one of its kind. -/
def coB (c : Cd) : Bool :=
  if c.k = 1 then zTd c.td && (zB c.na && (zB c.on && zF c.fe))
  else if c.k = 3 then zNd c.nd && (zB c.na && (zB c.on && zF c.fe))
  else if c.k = 5 then zNd c.nd && zTd c.td
  else if c.k = 2 ∨ c.k = 4 ∨ c.k = 6 ∨ c.k = 7 then zNd c.nd && (zTd c.td && (zB c.on && zF c.fe))
  else false
def coE (b : Bool) : Nat := if b = true then 0 else 4
/-- An order's cells. -/
def orC (c : Cd) (v2 v3 v4 v5 : Value) : List Value := (cdC c v2 v3 v4 v5).drop 2
set_option maxRecDepth 100000 in
set_option maxHeartbeats 4000000 in
theorem co_node (C : Cd) (a2 a3 a4 a5 : Option Addr) (c2 c3 c4 c5 : Nat) (w : World) (hk : C.k = 1) (r : Bool) (hr : r = (zTd C.td && (zB C.na && (zB C.on && (zF C.fe))))) : Calls Tryz.prog 52 #[.agg (orC C (.slice a2 C.nd.ls.length c2) (.slice a3 C.nd.ts.length c3) (.slice a4 C.td.ws.length c4) (.slice a5 C.td.bs.length c5)).toArray] w fun e w' => e = .returned (.int .i64 (coE r : Nat)) ∧ Below w.heap.size w w' := by
  have HR := Lib.hid hr
  clear hr
  have hx : Bxn (w.alloc (.cells (orC C (.slice a2 C.nd.ls.length c2) (.slice a3 C.nd.ts.length c3) (.slice a4 C.td.ws.length c4) (.slice a5 C.td.bs.length c5)).toArray 55)) w.heap.size (orC C (.slice a2 C.nd.ls.length c2) (.slice a3 C.nd.ts.length c3) (.slice a4 C.td.ws.length c4) (.slice a5 C.td.bs.length c5)) := Bxn.made w _ _
  have HB0 : Hid (Below w.heap.size w (w.alloc (.cells (orC C (.slice a2 C.nd.ls.length c2) (.slice a3 C.nd.ts.length c3) (.slice a4 C.td.ws.length c4) (.slice a5 C.td.bs.length c5)).toArray 55))) := (Below.refl _ _).alloc (Nat.le_refl _) _
  have HX0 : Hid (Bxn (w.alloc (.cells (orC C (.slice a2 C.nd.ls.length c2) (.slice a3 C.nd.ts.length c3) (.slice a4 C.td.ws.length c4) (.slice a5 C.td.bs.length c5)).toArray 55)) w.heap.size [.int .u8 1, .string C.nd.n, .int .i64 C.nd.z0, .int .i64 C.nd.z1, .int .i64 C.nd.z2, .slice a2 C.nd.ls.length c2, .slice a3 C.nd.ts.length c3, .string C.td.n, .int .i64 C.td.z0, .int .i64 C.td.z1, .int .i64 C.td.z2, .slice a4 C.td.ws.length c4, .slice a5 C.td.bs.length c5, .string C.td.g, .string C.td.a, .int .i64 C.td.r, .string C.na, .string C.on, .int .u64 (C.fe : Nat)]) := by
    have e : orC C (.slice a2 C.nd.ls.length c2) (.slice a3 C.nd.ts.length c3) (.slice a4 C.td.ws.length c4) (.slice a5 C.td.bs.length c5) = [.int .u8 1, .string C.nd.n, .int .i64 C.nd.z0, .int .i64 C.nd.z1, .int .i64 C.nd.z2, .slice a2 C.nd.ls.length c2, .slice a3 C.nd.ts.length c3, .string C.td.n, .int .i64 C.td.z0, .int .i64 C.td.z1, .int .i64 C.td.z2, .slice a4 C.td.ws.length c4, .slice a5 C.td.bs.length c5, .string C.td.g, .string C.td.a, .int .i64 C.td.r, .string C.na, .string C.on, .int .u64 (C.fe : Nat)] := by
      unfold orC cdC
      rw [hk]; rfl
    show Bxn _ _ _
    rw [← e]
    exact hx
  clear hx
  obtain ⟨CS, hCS⟩ : ∃ CS, CS = (orC C (.slice a2 C.nd.ls.length c2) (.slice a3 C.nd.ts.length c3) (.slice a4 C.td.ws.length c4) (.slice a5 C.td.bs.length c5)).toArray := ⟨_, rfl⟩
  rw [← hCS] at HB0 HX0 ⊢
  clear hCS
  go_enter Tryz.func52, Tryz.ntmps52
  go_upto_region 1 with fail
  generalize w.alloc (.cells CS 55) = W0 at *
  have k0 : W0.cell? ⟨w.heap.size, 0, none⟩ = some (.int .u8 1) := HX0.out.cell 0
  have k1 : W0.cell? ⟨w.heap.size, 1, none⟩ = some (.string C.nd.n) := HX0.out.cell 1
  have f1 := HX0.out.fz 1
  have k2 : W0.cell? ⟨w.heap.size, 2, none⟩ = some (.int .i64 C.nd.z0) := HX0.out.cell 2
  have f2 := HX0.out.fz 2
  have k3 : W0.cell? ⟨w.heap.size, 3, none⟩ = some (.int .i64 C.nd.z1) := HX0.out.cell 3
  have f3 := HX0.out.fz 3
  have k4 : W0.cell? ⟨w.heap.size, 4, none⟩ = some (.int .i64 C.nd.z2) := HX0.out.cell 4
  have f4 := HX0.out.fz 4
  have k5 : W0.cell? ⟨w.heap.size, 5, none⟩ = some (.slice a2 C.nd.ls.length c2) := HX0.out.cell 5
  have f5 := HX0.out.fz 5
  have k6 : W0.cell? ⟨w.heap.size, 6, none⟩ = some (.slice a3 C.nd.ts.length c3) := HX0.out.cell 6
  have f6 := HX0.out.fz 6
  have HX1 : Hid (Bxn ((((((W0.setCell ⟨w.heap.size, 1, none⟩ (.string ⟨#[]⟩)).setCell ⟨w.heap.size, 2, none⟩ (.int .i64 0)).setCell ⟨w.heap.size, 3, none⟩ (.int .i64 0)).setCell ⟨w.heap.size, 4, none⟩ (.int .i64 0)).setCell ⟨w.heap.size, 5, none⟩ (.slice none 0 0)).setCell ⟨w.heap.size, 6, none⟩ (.slice none 0 0)) w.heap.size [.int .u8 1, .string ⟨#[]⟩, .int .i64 0, .int .i64 0, .int .i64 0, .slice none 0 0, .slice none 0 0, .string C.td.n, .int .i64 C.td.z0, .int .i64 C.td.z1, .int .i64 C.td.z2, .slice a4 C.td.ws.length c4, .slice a5 C.td.bs.length c5, .string C.td.g, .string C.td.a, .int .i64 C.td.r, .string C.na, .string C.on, .int .u64 (C.fe : Nat)]) := ((((((HX0.out.set 1 (.string ⟨#[]⟩)).set 2 (.int .i64 0)).set 3 (.int .i64 0)).set 4 (.int .i64 0)).set 5 (.slice none 0 0)).set 6 (.slice none 0 0))
  have HB1 : Hid (Below w.heap.size w ((((((W0.setCell ⟨w.heap.size, 1, none⟩ (.string ⟨#[]⟩)).setCell ⟨w.heap.size, 2, none⟩ (.int .i64 0)).setCell ⟨w.heap.size, 3, none⟩ (.int .i64 0)).setCell ⟨w.heap.size, 4, none⟩ (.int .i64 0)).setCell ⟨w.heap.size, 5, none⟩ (.slice none 0 0)).setCell ⟨w.heap.size, 6, none⟩ (.slice none 0 0))) := ((((((HB0.out.setCell (Nat.le_refl _) _).setCell (Nat.le_refl _) _).setCell (Nat.le_refl _) _).setCell (Nat.le_refl _) _).setCell (Nat.le_refl _) _).setCell (Nat.le_refl _) _)
  go_upto_region 14 with fail
  generalize ((((((W0.setCell ⟨w.heap.size, 1, none⟩ (.string ⟨#[]⟩)).setCell ⟨w.heap.size, 2, none⟩ (.int .i64 0)).setCell ⟨w.heap.size, 3, none⟩ (.int .i64 0)).setCell ⟨w.heap.size, 4, none⟩ (.int .i64 0)).setCell ⟨w.heap.size, 5, none⟩ (.slice none 0 0)).setCell ⟨w.heap.size, 6, none⟩ (.slice none 0 0)) = W1 at *
  clear k0 HX0 HB0 k1 f1 k2 f2 k3 f3 k4 f4 k5 f5 k6 f6
  obtain ⟨q0, hq0⟩ : ∃ q, q = (zN ⟨#[]⟩ 0 0 0 0 0) := ⟨_, rfl⟩
  have Z0 : ∀ z, Calls Tryz.prog 95 #[.agg #[.string ⟨#[]⟩, .int .i64 0, .int .i64 0, .int .i64 0, .slice none 0 0, .slice none 0 0]] z fun e w' => e = .returned (.bool q0) ∧ Below z.heap.size z w' := fun z => by rw [hq0]; exact zero_node _ _ _ _ _ _ _ _ _ _ z
  have d1 : W1.cell? ⟨w.heap.size, 1, none⟩ = some (.string ⟨#[]⟩) := HX1.out.cell 1
  have d2 : W1.cell? ⟨w.heap.size, 2, none⟩ = some (.int .i64 0) := HX1.out.cell 2
  have d3 : W1.cell? ⟨w.heap.size, 3, none⟩ = some (.int .i64 0) := HX1.out.cell 3
  have d4 : W1.cell? ⟨w.heap.size, 4, none⟩ = some (.int .i64 0) := HX1.out.cell 4
  have d5 : W1.cell? ⟨w.heap.size, 5, none⟩ = some (.slice none 0 0) := HX1.out.cell 5
  have d6 : W1.cell? ⟨w.heap.size, 6, none⟩ = some (.slice none 0 0) := HX1.out.cell 6
  obtain rfl : q0 = true := hq0.trans (by decide)
  clear hq0
  go_wp2_with fail
  refine (Z0 _).mono ?_
  rintro e w2 ⟨rfl, hb⟩
  have HX2 := Lib.hid (HX1.out.below hb)
  have HB2 := Lib.hid (HB1.out.trans (hb.mono HB1.out.size))
  clear hb Z0 d1 d2 d3 d4 d5 d6
  obtain ⟨q1, hq1⟩ : ∃ q, q = (zT C.td.n C.td.z0 C.td.z1 C.td.z2 C.td.ws.length C.td.bs.length C.td.g C.td.a C.td.r) := ⟨_, rfl⟩
  have Z1 : ∀ z, Calls Tryz.prog 96 #[.agg #[.string C.td.n, .int .i64 C.td.z0, .int .i64 C.td.z1, .int .i64 C.td.z2, .slice a4 C.td.ws.length c4, .slice a5 C.td.bs.length c5, .string C.td.g, .string C.td.a, .int .i64 C.td.r]] z fun e w' => e = .returned (.bool q1) ∧ Below z.heap.size z w' := fun z => by rw [hq1]; exact zero_task _ _ _ _ _ _ _ _ _ _ _ _ _ z
  have d7 : w2.cell? ⟨w.heap.size, 7, none⟩ = some (.string C.td.n) := HX2.out.cell 7
  have d8 : w2.cell? ⟨w.heap.size, 8, none⟩ = some (.int .i64 C.td.z0) := HX2.out.cell 8
  have d9 : w2.cell? ⟨w.heap.size, 9, none⟩ = some (.int .i64 C.td.z1) := HX2.out.cell 9
  have d10 : w2.cell? ⟨w.heap.size, 10, none⟩ = some (.int .i64 C.td.z2) := HX2.out.cell 10
  have d11 : w2.cell? ⟨w.heap.size, 11, none⟩ = some (.slice a4 C.td.ws.length c4) := HX2.out.cell 11
  have d12 : w2.cell? ⟨w.heap.size, 12, none⟩ = some (.slice a5 C.td.bs.length c5) := HX2.out.cell 12
  have d13 : w2.cell? ⟨w.heap.size, 13, none⟩ = some (.string C.td.g) := HX2.out.cell 13
  have d14 : w2.cell? ⟨w.heap.size, 14, none⟩ = some (.string C.td.a) := HX2.out.cell 14
  have d15 : w2.cell? ⟨w.heap.size, 15, none⟩ = some (.int .i64 C.td.r) := HX2.out.cell 15
  cases q1
  · have Q1 := Lib.hid hq1.symm
    clear hq1
    go_wp2_with fail
    refine (Z1 _).mono ?_
    rintro e w3 ⟨rfl, hb⟩
    have HX3 := Lib.hid (HX2.out.below hb)
    have HB3 := Lib.hid (HB2.out.trans (hb.mono HB2.out.size))
    clear hb Z1 d7 d8 d9 d10 d11 d12 d13 d14 d15
    have HN : Hid (r = false) := HR.out.trans (andF Q1.out)
    go_wp2
    go_ret
    exact ⟨by rw [HN.out]; rfl, HB3.out⟩
  · have Q1 := Lib.hid hq1.symm
    clear hq1
    go_wp2_with fail
    refine (Z1 _).mono ?_
    rintro e w3 ⟨rfl, hb⟩
    have HX3 := Lib.hid (HX2.out.below hb)
    have HB3 := Lib.hid (HB2.out.trans (hb.mono HB2.out.size))
    clear hb Z1 d7 d8 d9 d10 d11 d12 d13 d14 d15
    have d16 : w3.cell? ⟨w.heap.size, 16, none⟩ = some (.string C.na) := HX3.out.cell 16
    by_cases h2 : C.na.size = 0
    · have q2 : zB C.na = true := by unfold zB; exact decide_eq_true h2
      have Q2 := Lib.hid q2
      rw [ba_size0 h2] at d16
      clear q2 h2
      have d17 : w3.cell? ⟨w.heap.size, 17, none⟩ = some (.string C.on) := HX3.out.cell 17
      by_cases h3 : C.on.size = 0
      · have q3 : zB C.on = true := by unfold zB; exact decide_eq_true h3
        have Q3 := Lib.hid q3
        rw [ba_size0 h3] at d17
        clear q3 h3
        have d18 : w3.cell? ⟨w.heap.size, 18, none⟩ = some (.int .u64 (C.fe : Nat)) := HX3.out.cell 18
        by_cases h4 : C.fe = 0
        · have q4 : zF C.fe = true := by unfold zF; exact decide_eq_true h4
          have Q4 := Lib.hid q4
          rw [h4] at d18
          clear q4 h4
          have HN : Hid (r = true) := HR.out.trans (andT Q1.out (andT Q2.out (andT Q3.out (Q4.out))))
          go_wp2
          go_ret
          exact ⟨by rw [HN.out]; rfl, HB3.out⟩
        · have q4 : zF C.fe = false := by unfold zF; exact decide_eq_false h4
          have Q4 := Lib.hid q4
          have m4 : ¬ ((C.fe : Nat) : Int) = 0 := by omega
          have n4 : (((C.fe : Nat) : Int) == 0) = false := by simpa using m4
          have l4 : (((C.fe : Nat) : Int) != 0) = true := by simpa using m4
          clear q4 h4
          have HN : Hid (r = false) := HR.out.trans (andT Q1.out (andT Q2.out (andT Q3.out (Q4.out))))
          go_wp2
          go_ret
          exact ⟨by rw [HN.out]; rfl, HB3.out⟩
      · have q3 : zB C.on = false := by unfold zB; exact decide_eq_false h3
        have Q3 := Lib.hid q3
        obtain ⟨m3, n3⟩ := ba_ne h3
        clear q3 h3
        have HN : Hid (r = false) := HR.out.trans (andT Q1.out (andT Q2.out (andF Q3.out)))
        go_wp2
        go_ret
        exact ⟨by rw [HN.out]; rfl, HB3.out⟩
    · have q2 : zB C.na = false := by unfold zB; exact decide_eq_false h2
      have Q2 := Lib.hid q2
      obtain ⟨m2, n2⟩ := ba_ne h2
      clear q2 h2
      have HN : Hid (r = false) := HR.out.trans (andT Q1.out (andF Q2.out))
      go_wp2
      go_ret
      exact ⟨by rw [HN.out]; rfl, HB3.out⟩
set_option maxRecDepth 100000 in
set_option maxHeartbeats 4000000 in
theorem co_task (C : Cd) (a2 a3 a4 a5 : Option Addr) (c2 c3 c4 c5 : Nat) (w : World) (hk : C.k = 3) (r : Bool) (hr : r = (zNd C.nd && (zB C.na && (zB C.on && (zF C.fe))))) : Calls Tryz.prog 52 #[.agg (orC C (.slice a2 C.nd.ls.length c2) (.slice a3 C.nd.ts.length c3) (.slice a4 C.td.ws.length c4) (.slice a5 C.td.bs.length c5)).toArray] w fun e w' => e = .returned (.int .i64 (coE r : Nat)) ∧ Below w.heap.size w w' := by
  have HR := Lib.hid hr
  clear hr
  have hx : Bxn (w.alloc (.cells (orC C (.slice a2 C.nd.ls.length c2) (.slice a3 C.nd.ts.length c3) (.slice a4 C.td.ws.length c4) (.slice a5 C.td.bs.length c5)).toArray 55)) w.heap.size (orC C (.slice a2 C.nd.ls.length c2) (.slice a3 C.nd.ts.length c3) (.slice a4 C.td.ws.length c4) (.slice a5 C.td.bs.length c5)) := Bxn.made w _ _
  have HB0 : Hid (Below w.heap.size w (w.alloc (.cells (orC C (.slice a2 C.nd.ls.length c2) (.slice a3 C.nd.ts.length c3) (.slice a4 C.td.ws.length c4) (.slice a5 C.td.bs.length c5)).toArray 55))) := (Below.refl _ _).alloc (Nat.le_refl _) _
  have HX0 : Hid (Bxn (w.alloc (.cells (orC C (.slice a2 C.nd.ls.length c2) (.slice a3 C.nd.ts.length c3) (.slice a4 C.td.ws.length c4) (.slice a5 C.td.bs.length c5)).toArray 55)) w.heap.size [.int .u8 3, .string C.nd.n, .int .i64 C.nd.z0, .int .i64 C.nd.z1, .int .i64 C.nd.z2, .slice a2 C.nd.ls.length c2, .slice a3 C.nd.ts.length c3, .string C.td.n, .int .i64 C.td.z0, .int .i64 C.td.z1, .int .i64 C.td.z2, .slice a4 C.td.ws.length c4, .slice a5 C.td.bs.length c5, .string C.td.g, .string C.td.a, .int .i64 C.td.r, .string C.na, .string C.on, .int .u64 (C.fe : Nat)]) := by
    have e : orC C (.slice a2 C.nd.ls.length c2) (.slice a3 C.nd.ts.length c3) (.slice a4 C.td.ws.length c4) (.slice a5 C.td.bs.length c5) = [.int .u8 3, .string C.nd.n, .int .i64 C.nd.z0, .int .i64 C.nd.z1, .int .i64 C.nd.z2, .slice a2 C.nd.ls.length c2, .slice a3 C.nd.ts.length c3, .string C.td.n, .int .i64 C.td.z0, .int .i64 C.td.z1, .int .i64 C.td.z2, .slice a4 C.td.ws.length c4, .slice a5 C.td.bs.length c5, .string C.td.g, .string C.td.a, .int .i64 C.td.r, .string C.na, .string C.on, .int .u64 (C.fe : Nat)] := by
      unfold orC cdC
      rw [hk]; rfl
    show Bxn _ _ _
    rw [← e]
    exact hx
  clear hx
  obtain ⟨CS, hCS⟩ : ∃ CS, CS = (orC C (.slice a2 C.nd.ls.length c2) (.slice a3 C.nd.ts.length c3) (.slice a4 C.td.ws.length c4) (.slice a5 C.td.bs.length c5)).toArray := ⟨_, rfl⟩
  rw [← hCS] at HB0 HX0 ⊢
  clear hCS
  go_enter Tryz.func52, Tryz.ntmps52
  go_upto_region 1 with fail
  generalize w.alloc (.cells CS 55) = W0 at *
  have k0 : W0.cell? ⟨w.heap.size, 0, none⟩ = some (.int .u8 3) := HX0.out.cell 0
  have k7 : W0.cell? ⟨w.heap.size, 7, none⟩ = some (.string C.td.n) := HX0.out.cell 7
  have f7 := HX0.out.fz 7
  have k8 : W0.cell? ⟨w.heap.size, 8, none⟩ = some (.int .i64 C.td.z0) := HX0.out.cell 8
  have f8 := HX0.out.fz 8
  have k9 : W0.cell? ⟨w.heap.size, 9, none⟩ = some (.int .i64 C.td.z1) := HX0.out.cell 9
  have f9 := HX0.out.fz 9
  have k10 : W0.cell? ⟨w.heap.size, 10, none⟩ = some (.int .i64 C.td.z2) := HX0.out.cell 10
  have f10 := HX0.out.fz 10
  have k11 : W0.cell? ⟨w.heap.size, 11, none⟩ = some (.slice a4 C.td.ws.length c4) := HX0.out.cell 11
  have f11 := HX0.out.fz 11
  have k12 : W0.cell? ⟨w.heap.size, 12, none⟩ = some (.slice a5 C.td.bs.length c5) := HX0.out.cell 12
  have f12 := HX0.out.fz 12
  have k13 : W0.cell? ⟨w.heap.size, 13, none⟩ = some (.string C.td.g) := HX0.out.cell 13
  have f13 := HX0.out.fz 13
  have k14 : W0.cell? ⟨w.heap.size, 14, none⟩ = some (.string C.td.a) := HX0.out.cell 14
  have f14 := HX0.out.fz 14
  have k15 : W0.cell? ⟨w.heap.size, 15, none⟩ = some (.int .i64 C.td.r) := HX0.out.cell 15
  have f15 := HX0.out.fz 15
  have HX1 : Hid (Bxn (((((((((W0.setCell ⟨w.heap.size, 7, none⟩ (.string ⟨#[]⟩)).setCell ⟨w.heap.size, 8, none⟩ (.int .i64 0)).setCell ⟨w.heap.size, 9, none⟩ (.int .i64 0)).setCell ⟨w.heap.size, 10, none⟩ (.int .i64 0)).setCell ⟨w.heap.size, 11, none⟩ (.slice none 0 0)).setCell ⟨w.heap.size, 12, none⟩ (.slice none 0 0)).setCell ⟨w.heap.size, 13, none⟩ (.string ⟨#[]⟩)).setCell ⟨w.heap.size, 14, none⟩ (.string ⟨#[]⟩)).setCell ⟨w.heap.size, 15, none⟩ (.int .i64 0)) w.heap.size [.int .u8 3, .string C.nd.n, .int .i64 C.nd.z0, .int .i64 C.nd.z1, .int .i64 C.nd.z2, .slice a2 C.nd.ls.length c2, .slice a3 C.nd.ts.length c3, .string ⟨#[]⟩, .int .i64 0, .int .i64 0, .int .i64 0, .slice none 0 0, .slice none 0 0, .string ⟨#[]⟩, .string ⟨#[]⟩, .int .i64 0, .string C.na, .string C.on, .int .u64 (C.fe : Nat)]) := (((((((((HX0.out.set 7 (.string ⟨#[]⟩)).set 8 (.int .i64 0)).set 9 (.int .i64 0)).set 10 (.int .i64 0)).set 11 (.slice none 0 0)).set 12 (.slice none 0 0)).set 13 (.string ⟨#[]⟩)).set 14 (.string ⟨#[]⟩)).set 15 (.int .i64 0))
  have HB1 : Hid (Below w.heap.size w (((((((((W0.setCell ⟨w.heap.size, 7, none⟩ (.string ⟨#[]⟩)).setCell ⟨w.heap.size, 8, none⟩ (.int .i64 0)).setCell ⟨w.heap.size, 9, none⟩ (.int .i64 0)).setCell ⟨w.heap.size, 10, none⟩ (.int .i64 0)).setCell ⟨w.heap.size, 11, none⟩ (.slice none 0 0)).setCell ⟨w.heap.size, 12, none⟩ (.slice none 0 0)).setCell ⟨w.heap.size, 13, none⟩ (.string ⟨#[]⟩)).setCell ⟨w.heap.size, 14, none⟩ (.string ⟨#[]⟩)).setCell ⟨w.heap.size, 15, none⟩ (.int .i64 0))) := (((((((((HB0.out.setCell (Nat.le_refl _) _).setCell (Nat.le_refl _) _).setCell (Nat.le_refl _) _).setCell (Nat.le_refl _) _).setCell (Nat.le_refl _) _).setCell (Nat.le_refl _) _).setCell (Nat.le_refl _) _).setCell (Nat.le_refl _) _).setCell (Nat.le_refl _) _)
  go_upto_region 14 with fail
  generalize (((((((((W0.setCell ⟨w.heap.size, 7, none⟩ (.string ⟨#[]⟩)).setCell ⟨w.heap.size, 8, none⟩ (.int .i64 0)).setCell ⟨w.heap.size, 9, none⟩ (.int .i64 0)).setCell ⟨w.heap.size, 10, none⟩ (.int .i64 0)).setCell ⟨w.heap.size, 11, none⟩ (.slice none 0 0)).setCell ⟨w.heap.size, 12, none⟩ (.slice none 0 0)).setCell ⟨w.heap.size, 13, none⟩ (.string ⟨#[]⟩)).setCell ⟨w.heap.size, 14, none⟩ (.string ⟨#[]⟩)).setCell ⟨w.heap.size, 15, none⟩ (.int .i64 0)) = W1 at *
  clear k0 HX0 HB0 k7 f7 k8 f8 k9 f9 k10 f10 k11 f11 k12 f12 k13 f13 k14 f14 k15 f15
  obtain ⟨q0, hq0⟩ : ∃ q, q = (zN C.nd.n C.nd.z0 C.nd.z1 C.nd.z2 C.nd.ls.length C.nd.ts.length) := ⟨_, rfl⟩
  have Z0 : ∀ z, Calls Tryz.prog 95 #[.agg #[.string C.nd.n, .int .i64 C.nd.z0, .int .i64 C.nd.z1, .int .i64 C.nd.z2, .slice a2 C.nd.ls.length c2, .slice a3 C.nd.ts.length c3]] z fun e w' => e = .returned (.bool q0) ∧ Below z.heap.size z w' := fun z => by rw [hq0]; exact zero_node _ _ _ _ _ _ _ _ _ _ z
  have d1 : W1.cell? ⟨w.heap.size, 1, none⟩ = some (.string C.nd.n) := HX1.out.cell 1
  have d2 : W1.cell? ⟨w.heap.size, 2, none⟩ = some (.int .i64 C.nd.z0) := HX1.out.cell 2
  have d3 : W1.cell? ⟨w.heap.size, 3, none⟩ = some (.int .i64 C.nd.z1) := HX1.out.cell 3
  have d4 : W1.cell? ⟨w.heap.size, 4, none⟩ = some (.int .i64 C.nd.z2) := HX1.out.cell 4
  have d5 : W1.cell? ⟨w.heap.size, 5, none⟩ = some (.slice a2 C.nd.ls.length c2) := HX1.out.cell 5
  have d6 : W1.cell? ⟨w.heap.size, 6, none⟩ = some (.slice a3 C.nd.ts.length c3) := HX1.out.cell 6
  cases q0
  · have Q0 := Lib.hid hq0.symm
    clear hq0
    go_wp2_with fail
    refine (Z0 _).mono ?_
    rintro e w2 ⟨rfl, hb⟩
    have HX2 := Lib.hid (HX1.out.below hb)
    have HB2 := Lib.hid (HB1.out.trans (hb.mono HB1.out.size))
    clear hb Z0 d1 d2 d3 d4 d5 d6
    have HN : Hid (r = false) := HR.out.trans (andF Q0.out)
    go_wp2
    go_ret
    exact ⟨by rw [HN.out]; rfl, HB2.out⟩
  · have Q0 := Lib.hid hq0.symm
    clear hq0
    go_wp2_with fail
    refine (Z0 _).mono ?_
    rintro e w2 ⟨rfl, hb⟩
    have HX2 := Lib.hid (HX1.out.below hb)
    have HB2 := Lib.hid (HB1.out.trans (hb.mono HB1.out.size))
    clear hb Z0 d1 d2 d3 d4 d5 d6
    obtain ⟨q1, hq1⟩ : ∃ q, q = (zT ⟨#[]⟩ 0 0 0 0 0 ⟨#[]⟩ ⟨#[]⟩ 0) := ⟨_, rfl⟩
    have Z1 : ∀ z, Calls Tryz.prog 96 #[.agg #[.string ⟨#[]⟩, .int .i64 0, .int .i64 0, .int .i64 0, .slice none 0 0, .slice none 0 0, .string ⟨#[]⟩, .string ⟨#[]⟩, .int .i64 0]] z fun e w' => e = .returned (.bool q1) ∧ Below z.heap.size z w' := fun z => by rw [hq1]; exact zero_task _ _ _ _ _ _ _ _ _ _ _ _ _ z
    have d7 : w2.cell? ⟨w.heap.size, 7, none⟩ = some (.string ⟨#[]⟩) := HX2.out.cell 7
    have d8 : w2.cell? ⟨w.heap.size, 8, none⟩ = some (.int .i64 0) := HX2.out.cell 8
    have d9 : w2.cell? ⟨w.heap.size, 9, none⟩ = some (.int .i64 0) := HX2.out.cell 9
    have d10 : w2.cell? ⟨w.heap.size, 10, none⟩ = some (.int .i64 0) := HX2.out.cell 10
    have d11 : w2.cell? ⟨w.heap.size, 11, none⟩ = some (.slice none 0 0) := HX2.out.cell 11
    have d12 : w2.cell? ⟨w.heap.size, 12, none⟩ = some (.slice none 0 0) := HX2.out.cell 12
    have d13 : w2.cell? ⟨w.heap.size, 13, none⟩ = some (.string ⟨#[]⟩) := HX2.out.cell 13
    have d14 : w2.cell? ⟨w.heap.size, 14, none⟩ = some (.string ⟨#[]⟩) := HX2.out.cell 14
    have d15 : w2.cell? ⟨w.heap.size, 15, none⟩ = some (.int .i64 0) := HX2.out.cell 15
    obtain rfl : q1 = true := hq1.trans (by decide)
    clear hq1
    go_wp2_with fail
    refine (Z1 _).mono ?_
    rintro e w3 ⟨rfl, hb⟩
    have HX3 := Lib.hid (HX2.out.below hb)
    have HB3 := Lib.hid (HB2.out.trans (hb.mono HB2.out.size))
    clear hb Z1 d7 d8 d9 d10 d11 d12 d13 d14 d15
    have d16 : w3.cell? ⟨w.heap.size, 16, none⟩ = some (.string C.na) := HX3.out.cell 16
    by_cases h2 : C.na.size = 0
    · have q2 : zB C.na = true := by unfold zB; exact decide_eq_true h2
      have Q2 := Lib.hid q2
      rw [ba_size0 h2] at d16
      clear q2 h2
      have d17 : w3.cell? ⟨w.heap.size, 17, none⟩ = some (.string C.on) := HX3.out.cell 17
      by_cases h3 : C.on.size = 0
      · have q3 : zB C.on = true := by unfold zB; exact decide_eq_true h3
        have Q3 := Lib.hid q3
        rw [ba_size0 h3] at d17
        clear q3 h3
        have d18 : w3.cell? ⟨w.heap.size, 18, none⟩ = some (.int .u64 (C.fe : Nat)) := HX3.out.cell 18
        by_cases h4 : C.fe = 0
        · have q4 : zF C.fe = true := by unfold zF; exact decide_eq_true h4
          have Q4 := Lib.hid q4
          rw [h4] at d18
          clear q4 h4
          have HN : Hid (r = true) := HR.out.trans (andT Q0.out (andT Q2.out (andT Q3.out (Q4.out))))
          go_wp2
          go_ret
          exact ⟨by rw [HN.out]; rfl, HB3.out⟩
        · have q4 : zF C.fe = false := by unfold zF; exact decide_eq_false h4
          have Q4 := Lib.hid q4
          have m4 : ¬ ((C.fe : Nat) : Int) = 0 := by omega
          have n4 : (((C.fe : Nat) : Int) == 0) = false := by simpa using m4
          have l4 : (((C.fe : Nat) : Int) != 0) = true := by simpa using m4
          clear q4 h4
          have HN : Hid (r = false) := HR.out.trans (andT Q0.out (andT Q2.out (andT Q3.out (Q4.out))))
          go_wp2
          go_ret
          exact ⟨by rw [HN.out]; rfl, HB3.out⟩
      · have q3 : zB C.on = false := by unfold zB; exact decide_eq_false h3
        have Q3 := Lib.hid q3
        obtain ⟨m3, n3⟩ := ba_ne h3
        clear q3 h3
        have HN : Hid (r = false) := HR.out.trans (andT Q0.out (andT Q2.out (andF Q3.out)))
        go_wp2
        go_ret
        exact ⟨by rw [HN.out]; rfl, HB3.out⟩
    · have q2 : zB C.na = false := by unfold zB; exact decide_eq_false h2
      have Q2 := Lib.hid q2
      obtain ⟨m2, n2⟩ := ba_ne h2
      clear q2 h2
      have HN : Hid (r = false) := HR.out.trans (andT Q0.out (andF Q2.out))
      go_wp2
      go_ret
      exact ⟨by rw [HN.out]; rfl, HB3.out⟩
set_option maxRecDepth 100000 in
set_option maxHeartbeats 4000000 in
theorem co_bind (C : Cd) (a2 a3 a4 a5 : Option Addr) (c2 c3 c4 c5 : Nat) (w : World) (hk : C.k = 5) (r : Bool) (hr : r = (zNd C.nd && (zTd C.td))) : Calls Tryz.prog 52 #[.agg (orC C (.slice a2 C.nd.ls.length c2) (.slice a3 C.nd.ts.length c3) (.slice a4 C.td.ws.length c4) (.slice a5 C.td.bs.length c5)).toArray] w fun e w' => e = .returned (.int .i64 (coE r : Nat)) ∧ Below w.heap.size w w' := by
  have HR := Lib.hid hr
  clear hr
  have hx : Bxn (w.alloc (.cells (orC C (.slice a2 C.nd.ls.length c2) (.slice a3 C.nd.ts.length c3) (.slice a4 C.td.ws.length c4) (.slice a5 C.td.bs.length c5)).toArray 55)) w.heap.size (orC C (.slice a2 C.nd.ls.length c2) (.slice a3 C.nd.ts.length c3) (.slice a4 C.td.ws.length c4) (.slice a5 C.td.bs.length c5)) := Bxn.made w _ _
  have HB0 : Hid (Below w.heap.size w (w.alloc (.cells (orC C (.slice a2 C.nd.ls.length c2) (.slice a3 C.nd.ts.length c3) (.slice a4 C.td.ws.length c4) (.slice a5 C.td.bs.length c5)).toArray 55))) := (Below.refl _ _).alloc (Nat.le_refl _) _
  have HX0 : Hid (Bxn (w.alloc (.cells (orC C (.slice a2 C.nd.ls.length c2) (.slice a3 C.nd.ts.length c3) (.slice a4 C.td.ws.length c4) (.slice a5 C.td.bs.length c5)).toArray 55)) w.heap.size [.int .u8 5, .string C.nd.n, .int .i64 C.nd.z0, .int .i64 C.nd.z1, .int .i64 C.nd.z2, .slice a2 C.nd.ls.length c2, .slice a3 C.nd.ts.length c3, .string C.td.n, .int .i64 C.td.z0, .int .i64 C.td.z1, .int .i64 C.td.z2, .slice a4 C.td.ws.length c4, .slice a5 C.td.bs.length c5, .string C.td.g, .string C.td.a, .int .i64 C.td.r, .string C.na, .string C.on, .int .u64 (C.fe : Nat)]) := by
    have e : orC C (.slice a2 C.nd.ls.length c2) (.slice a3 C.nd.ts.length c3) (.slice a4 C.td.ws.length c4) (.slice a5 C.td.bs.length c5) = [.int .u8 5, .string C.nd.n, .int .i64 C.nd.z0, .int .i64 C.nd.z1, .int .i64 C.nd.z2, .slice a2 C.nd.ls.length c2, .slice a3 C.nd.ts.length c3, .string C.td.n, .int .i64 C.td.z0, .int .i64 C.td.z1, .int .i64 C.td.z2, .slice a4 C.td.ws.length c4, .slice a5 C.td.bs.length c5, .string C.td.g, .string C.td.a, .int .i64 C.td.r, .string C.na, .string C.on, .int .u64 (C.fe : Nat)] := by
      unfold orC cdC
      rw [hk]; rfl
    show Bxn _ _ _
    rw [← e]
    exact hx
  clear hx
  obtain ⟨CS, hCS⟩ : ∃ CS, CS = (orC C (.slice a2 C.nd.ls.length c2) (.slice a3 C.nd.ts.length c3) (.slice a4 C.td.ws.length c4) (.slice a5 C.td.bs.length c5)).toArray := ⟨_, rfl⟩
  rw [← hCS] at HB0 HX0 ⊢
  clear hCS
  go_enter Tryz.func52, Tryz.ntmps52
  go_upto_region 1 with fail
  generalize w.alloc (.cells CS 55) = W0 at *
  have k0 : W0.cell? ⟨w.heap.size, 0, none⟩ = some (.int .u8 5) := HX0.out.cell 0
  have k16 : W0.cell? ⟨w.heap.size, 16, none⟩ = some (.string C.na) := HX0.out.cell 16
  have f16 := HX0.out.fz 16
  have k17 : W0.cell? ⟨w.heap.size, 17, none⟩ = some (.string C.on) := HX0.out.cell 17
  have f17 := HX0.out.fz 17
  have k18 : W0.cell? ⟨w.heap.size, 18, none⟩ = some (.int .u64 (C.fe : Nat)) := HX0.out.cell 18
  have f18 := HX0.out.fz 18
  have HX1 : Hid (Bxn (((W0.setCell ⟨w.heap.size, 16, none⟩ (.string ⟨#[]⟩)).setCell ⟨w.heap.size, 17, none⟩ (.string ⟨#[]⟩)).setCell ⟨w.heap.size, 18, none⟩ (.int .u64 0)) w.heap.size [.int .u8 5, .string C.nd.n, .int .i64 C.nd.z0, .int .i64 C.nd.z1, .int .i64 C.nd.z2, .slice a2 C.nd.ls.length c2, .slice a3 C.nd.ts.length c3, .string C.td.n, .int .i64 C.td.z0, .int .i64 C.td.z1, .int .i64 C.td.z2, .slice a4 C.td.ws.length c4, .slice a5 C.td.bs.length c5, .string C.td.g, .string C.td.a, .int .i64 C.td.r, .string ⟨#[]⟩, .string ⟨#[]⟩, .int .u64 0]) := (((HX0.out.set 16 (.string ⟨#[]⟩)).set 17 (.string ⟨#[]⟩)).set 18 (.int .u64 0))
  have HB1 : Hid (Below w.heap.size w (((W0.setCell ⟨w.heap.size, 16, none⟩ (.string ⟨#[]⟩)).setCell ⟨w.heap.size, 17, none⟩ (.string ⟨#[]⟩)).setCell ⟨w.heap.size, 18, none⟩ (.int .u64 0))) := (((HB0.out.setCell (Nat.le_refl _) _).setCell (Nat.le_refl _) _).setCell (Nat.le_refl _) _)
  go_upto_region 14 with fail
  generalize (((W0.setCell ⟨w.heap.size, 16, none⟩ (.string ⟨#[]⟩)).setCell ⟨w.heap.size, 17, none⟩ (.string ⟨#[]⟩)).setCell ⟨w.heap.size, 18, none⟩ (.int .u64 0)) = W1 at *
  clear k0 HX0 HB0 k16 f16 k17 f17 k18 f18
  obtain ⟨q0, hq0⟩ : ∃ q, q = (zN C.nd.n C.nd.z0 C.nd.z1 C.nd.z2 C.nd.ls.length C.nd.ts.length) := ⟨_, rfl⟩
  have Z0 : ∀ z, Calls Tryz.prog 95 #[.agg #[.string C.nd.n, .int .i64 C.nd.z0, .int .i64 C.nd.z1, .int .i64 C.nd.z2, .slice a2 C.nd.ls.length c2, .slice a3 C.nd.ts.length c3]] z fun e w' => e = .returned (.bool q0) ∧ Below z.heap.size z w' := fun z => by rw [hq0]; exact zero_node _ _ _ _ _ _ _ _ _ _ z
  have d1 : W1.cell? ⟨w.heap.size, 1, none⟩ = some (.string C.nd.n) := HX1.out.cell 1
  have d2 : W1.cell? ⟨w.heap.size, 2, none⟩ = some (.int .i64 C.nd.z0) := HX1.out.cell 2
  have d3 : W1.cell? ⟨w.heap.size, 3, none⟩ = some (.int .i64 C.nd.z1) := HX1.out.cell 3
  have d4 : W1.cell? ⟨w.heap.size, 4, none⟩ = some (.int .i64 C.nd.z2) := HX1.out.cell 4
  have d5 : W1.cell? ⟨w.heap.size, 5, none⟩ = some (.slice a2 C.nd.ls.length c2) := HX1.out.cell 5
  have d6 : W1.cell? ⟨w.heap.size, 6, none⟩ = some (.slice a3 C.nd.ts.length c3) := HX1.out.cell 6
  cases q0
  · have Q0 := Lib.hid hq0.symm
    clear hq0
    go_wp2_with fail
    refine (Z0 _).mono ?_
    rintro e w2 ⟨rfl, hb⟩
    have HX2 := Lib.hid (HX1.out.below hb)
    have HB2 := Lib.hid (HB1.out.trans (hb.mono HB1.out.size))
    clear hb Z0 d1 d2 d3 d4 d5 d6
    have HN : Hid (r = false) := HR.out.trans (andF Q0.out)
    go_wp2
    go_ret
    exact ⟨by rw [HN.out]; rfl, HB2.out⟩
  · have Q0 := Lib.hid hq0.symm
    clear hq0
    go_wp2_with fail
    refine (Z0 _).mono ?_
    rintro e w2 ⟨rfl, hb⟩
    have HX2 := Lib.hid (HX1.out.below hb)
    have HB2 := Lib.hid (HB1.out.trans (hb.mono HB1.out.size))
    clear hb Z0 d1 d2 d3 d4 d5 d6
    obtain ⟨q1, hq1⟩ : ∃ q, q = (zT C.td.n C.td.z0 C.td.z1 C.td.z2 C.td.ws.length C.td.bs.length C.td.g C.td.a C.td.r) := ⟨_, rfl⟩
    have Z1 : ∀ z, Calls Tryz.prog 96 #[.agg #[.string C.td.n, .int .i64 C.td.z0, .int .i64 C.td.z1, .int .i64 C.td.z2, .slice a4 C.td.ws.length c4, .slice a5 C.td.bs.length c5, .string C.td.g, .string C.td.a, .int .i64 C.td.r]] z fun e w' => e = .returned (.bool q1) ∧ Below z.heap.size z w' := fun z => by rw [hq1]; exact zero_task _ _ _ _ _ _ _ _ _ _ _ _ _ z
    have d7 : w2.cell? ⟨w.heap.size, 7, none⟩ = some (.string C.td.n) := HX2.out.cell 7
    have d8 : w2.cell? ⟨w.heap.size, 8, none⟩ = some (.int .i64 C.td.z0) := HX2.out.cell 8
    have d9 : w2.cell? ⟨w.heap.size, 9, none⟩ = some (.int .i64 C.td.z1) := HX2.out.cell 9
    have d10 : w2.cell? ⟨w.heap.size, 10, none⟩ = some (.int .i64 C.td.z2) := HX2.out.cell 10
    have d11 : w2.cell? ⟨w.heap.size, 11, none⟩ = some (.slice a4 C.td.ws.length c4) := HX2.out.cell 11
    have d12 : w2.cell? ⟨w.heap.size, 12, none⟩ = some (.slice a5 C.td.bs.length c5) := HX2.out.cell 12
    have d13 : w2.cell? ⟨w.heap.size, 13, none⟩ = some (.string C.td.g) := HX2.out.cell 13
    have d14 : w2.cell? ⟨w.heap.size, 14, none⟩ = some (.string C.td.a) := HX2.out.cell 14
    have d15 : w2.cell? ⟨w.heap.size, 15, none⟩ = some (.int .i64 C.td.r) := HX2.out.cell 15
    cases q1
    · have Q1 := Lib.hid hq1.symm
      clear hq1
      go_wp2_with fail
      refine (Z1 _).mono ?_
      rintro e w3 ⟨rfl, hb⟩
      have HX3 := Lib.hid (HX2.out.below hb)
      have HB3 := Lib.hid (HB2.out.trans (hb.mono HB2.out.size))
      clear hb Z1 d7 d8 d9 d10 d11 d12 d13 d14 d15
      have HN : Hid (r = false) := HR.out.trans (andT Q0.out (Q1.out))
      go_wp2
      go_ret
      exact ⟨by rw [HN.out]; rfl, HB3.out⟩
    · have Q1 := Lib.hid hq1.symm
      clear hq1
      go_wp2_with fail
      refine (Z1 _).mono ?_
      rintro e w3 ⟨rfl, hb⟩
      have HX3 := Lib.hid (HX2.out.below hb)
      have HB3 := Lib.hid (HB2.out.trans (hb.mono HB2.out.size))
      clear hb Z1 d7 d8 d9 d10 d11 d12 d13 d14 d15
      have d16 : w3.cell? ⟨w.heap.size, 16, none⟩ = some (.string ⟨#[]⟩) := HX3.out.cell 16
      have d17 : w3.cell? ⟨w.heap.size, 17, none⟩ = some (.string ⟨#[]⟩) := HX3.out.cell 17
      have d18 : w3.cell? ⟨w.heap.size, 18, none⟩ = some (.int .u64 0) := HX3.out.cell 18
      have HN : Hid (r = true) := HR.out.trans (andT Q0.out (Q1.out))
      go_wp2
      go_ret
      exact ⟨by rw [HN.out]; rfl, HB3.out⟩
set_option maxRecDepth 100000 in
set_option maxHeartbeats 4000000 in
theorem co_2 (C : Cd) (a2 a3 a4 a5 : Option Addr) (c2 c3 c4 c5 : Nat) (w : World) (hk : C.k = 2) (r : Bool) (hr : r = (zNd C.nd && (zTd C.td && (zB C.on && (zF C.fe))))) : Calls Tryz.prog 52 #[.agg (orC C (.slice a2 C.nd.ls.length c2) (.slice a3 C.nd.ts.length c3) (.slice a4 C.td.ws.length c4) (.slice a5 C.td.bs.length c5)).toArray] w fun e w' => e = .returned (.int .i64 (coE r : Nat)) ∧ Below w.heap.size w w' := by
  have HR := Lib.hid hr
  clear hr
  have hx : Bxn (w.alloc (.cells (orC C (.slice a2 C.nd.ls.length c2) (.slice a3 C.nd.ts.length c3) (.slice a4 C.td.ws.length c4) (.slice a5 C.td.bs.length c5)).toArray 55)) w.heap.size (orC C (.slice a2 C.nd.ls.length c2) (.slice a3 C.nd.ts.length c3) (.slice a4 C.td.ws.length c4) (.slice a5 C.td.bs.length c5)) := Bxn.made w _ _
  have HB0 : Hid (Below w.heap.size w (w.alloc (.cells (orC C (.slice a2 C.nd.ls.length c2) (.slice a3 C.nd.ts.length c3) (.slice a4 C.td.ws.length c4) (.slice a5 C.td.bs.length c5)).toArray 55))) := (Below.refl _ _).alloc (Nat.le_refl _) _
  have HX0 : Hid (Bxn (w.alloc (.cells (orC C (.slice a2 C.nd.ls.length c2) (.slice a3 C.nd.ts.length c3) (.slice a4 C.td.ws.length c4) (.slice a5 C.td.bs.length c5)).toArray 55)) w.heap.size [.int .u8 2, .string C.nd.n, .int .i64 C.nd.z0, .int .i64 C.nd.z1, .int .i64 C.nd.z2, .slice a2 C.nd.ls.length c2, .slice a3 C.nd.ts.length c3, .string C.td.n, .int .i64 C.td.z0, .int .i64 C.td.z1, .int .i64 C.td.z2, .slice a4 C.td.ws.length c4, .slice a5 C.td.bs.length c5, .string C.td.g, .string C.td.a, .int .i64 C.td.r, .string C.na, .string C.on, .int .u64 (C.fe : Nat)]) := by
    have e : orC C (.slice a2 C.nd.ls.length c2) (.slice a3 C.nd.ts.length c3) (.slice a4 C.td.ws.length c4) (.slice a5 C.td.bs.length c5) = [.int .u8 2, .string C.nd.n, .int .i64 C.nd.z0, .int .i64 C.nd.z1, .int .i64 C.nd.z2, .slice a2 C.nd.ls.length c2, .slice a3 C.nd.ts.length c3, .string C.td.n, .int .i64 C.td.z0, .int .i64 C.td.z1, .int .i64 C.td.z2, .slice a4 C.td.ws.length c4, .slice a5 C.td.bs.length c5, .string C.td.g, .string C.td.a, .int .i64 C.td.r, .string C.na, .string C.on, .int .u64 (C.fe : Nat)] := by
      unfold orC cdC
      rw [hk]; rfl
    show Bxn _ _ _
    rw [← e]
    exact hx
  clear hx
  obtain ⟨CS, hCS⟩ : ∃ CS, CS = (orC C (.slice a2 C.nd.ls.length c2) (.slice a3 C.nd.ts.length c3) (.slice a4 C.td.ws.length c4) (.slice a5 C.td.bs.length c5)).toArray := ⟨_, rfl⟩
  rw [← hCS] at HB0 HX0 ⊢
  clear hCS
  go_enter Tryz.func52, Tryz.ntmps52
  go_upto_region 1 with fail
  generalize w.alloc (.cells CS 55) = W0 at *
  have k0 : W0.cell? ⟨w.heap.size, 0, none⟩ = some (.int .u8 2) := HX0.out.cell 0
  have k16 : W0.cell? ⟨w.heap.size, 16, none⟩ = some (.string C.na) := HX0.out.cell 16
  have f16 := HX0.out.fz 16
  have HX1 : Hid (Bxn (W0.setCell ⟨w.heap.size, 16, none⟩ (.string ⟨#[]⟩)) w.heap.size [.int .u8 2, .string C.nd.n, .int .i64 C.nd.z0, .int .i64 C.nd.z1, .int .i64 C.nd.z2, .slice a2 C.nd.ls.length c2, .slice a3 C.nd.ts.length c3, .string C.td.n, .int .i64 C.td.z0, .int .i64 C.td.z1, .int .i64 C.td.z2, .slice a4 C.td.ws.length c4, .slice a5 C.td.bs.length c5, .string C.td.g, .string C.td.a, .int .i64 C.td.r, .string ⟨#[]⟩, .string C.on, .int .u64 (C.fe : Nat)]) := (HX0.out.set 16 (.string ⟨#[]⟩))
  have HB1 : Hid (Below w.heap.size w (W0.setCell ⟨w.heap.size, 16, none⟩ (.string ⟨#[]⟩))) := (HB0.out.setCell (Nat.le_refl _) _)
  go_upto_region 14 with fail
  generalize (W0.setCell ⟨w.heap.size, 16, none⟩ (.string ⟨#[]⟩)) = W1 at *
  clear k0 HX0 HB0 k16 f16
  obtain ⟨q0, hq0⟩ : ∃ q, q = (zN C.nd.n C.nd.z0 C.nd.z1 C.nd.z2 C.nd.ls.length C.nd.ts.length) := ⟨_, rfl⟩
  have Z0 : ∀ z, Calls Tryz.prog 95 #[.agg #[.string C.nd.n, .int .i64 C.nd.z0, .int .i64 C.nd.z1, .int .i64 C.nd.z2, .slice a2 C.nd.ls.length c2, .slice a3 C.nd.ts.length c3]] z fun e w' => e = .returned (.bool q0) ∧ Below z.heap.size z w' := fun z => by rw [hq0]; exact zero_node _ _ _ _ _ _ _ _ _ _ z
  have d1 : W1.cell? ⟨w.heap.size, 1, none⟩ = some (.string C.nd.n) := HX1.out.cell 1
  have d2 : W1.cell? ⟨w.heap.size, 2, none⟩ = some (.int .i64 C.nd.z0) := HX1.out.cell 2
  have d3 : W1.cell? ⟨w.heap.size, 3, none⟩ = some (.int .i64 C.nd.z1) := HX1.out.cell 3
  have d4 : W1.cell? ⟨w.heap.size, 4, none⟩ = some (.int .i64 C.nd.z2) := HX1.out.cell 4
  have d5 : W1.cell? ⟨w.heap.size, 5, none⟩ = some (.slice a2 C.nd.ls.length c2) := HX1.out.cell 5
  have d6 : W1.cell? ⟨w.heap.size, 6, none⟩ = some (.slice a3 C.nd.ts.length c3) := HX1.out.cell 6
  cases q0
  · have Q0 := Lib.hid hq0.symm
    clear hq0
    go_wp2_with fail
    refine (Z0 _).mono ?_
    rintro e w2 ⟨rfl, hb⟩
    have HX2 := Lib.hid (HX1.out.below hb)
    have HB2 := Lib.hid (HB1.out.trans (hb.mono HB1.out.size))
    clear hb Z0 d1 d2 d3 d4 d5 d6
    have HN : Hid (r = false) := HR.out.trans (andF Q0.out)
    go_wp2
    go_ret
    exact ⟨by rw [HN.out]; rfl, HB2.out⟩
  · have Q0 := Lib.hid hq0.symm
    clear hq0
    go_wp2_with fail
    refine (Z0 _).mono ?_
    rintro e w2 ⟨rfl, hb⟩
    have HX2 := Lib.hid (HX1.out.below hb)
    have HB2 := Lib.hid (HB1.out.trans (hb.mono HB1.out.size))
    clear hb Z0 d1 d2 d3 d4 d5 d6
    obtain ⟨q1, hq1⟩ : ∃ q, q = (zT C.td.n C.td.z0 C.td.z1 C.td.z2 C.td.ws.length C.td.bs.length C.td.g C.td.a C.td.r) := ⟨_, rfl⟩
    have Z1 : ∀ z, Calls Tryz.prog 96 #[.agg #[.string C.td.n, .int .i64 C.td.z0, .int .i64 C.td.z1, .int .i64 C.td.z2, .slice a4 C.td.ws.length c4, .slice a5 C.td.bs.length c5, .string C.td.g, .string C.td.a, .int .i64 C.td.r]] z fun e w' => e = .returned (.bool q1) ∧ Below z.heap.size z w' := fun z => by rw [hq1]; exact zero_task _ _ _ _ _ _ _ _ _ _ _ _ _ z
    have d7 : w2.cell? ⟨w.heap.size, 7, none⟩ = some (.string C.td.n) := HX2.out.cell 7
    have d8 : w2.cell? ⟨w.heap.size, 8, none⟩ = some (.int .i64 C.td.z0) := HX2.out.cell 8
    have d9 : w2.cell? ⟨w.heap.size, 9, none⟩ = some (.int .i64 C.td.z1) := HX2.out.cell 9
    have d10 : w2.cell? ⟨w.heap.size, 10, none⟩ = some (.int .i64 C.td.z2) := HX2.out.cell 10
    have d11 : w2.cell? ⟨w.heap.size, 11, none⟩ = some (.slice a4 C.td.ws.length c4) := HX2.out.cell 11
    have d12 : w2.cell? ⟨w.heap.size, 12, none⟩ = some (.slice a5 C.td.bs.length c5) := HX2.out.cell 12
    have d13 : w2.cell? ⟨w.heap.size, 13, none⟩ = some (.string C.td.g) := HX2.out.cell 13
    have d14 : w2.cell? ⟨w.heap.size, 14, none⟩ = some (.string C.td.a) := HX2.out.cell 14
    have d15 : w2.cell? ⟨w.heap.size, 15, none⟩ = some (.int .i64 C.td.r) := HX2.out.cell 15
    cases q1
    · have Q1 := Lib.hid hq1.symm
      clear hq1
      go_wp2_with fail
      refine (Z1 _).mono ?_
      rintro e w3 ⟨rfl, hb⟩
      have HX3 := Lib.hid (HX2.out.below hb)
      have HB3 := Lib.hid (HB2.out.trans (hb.mono HB2.out.size))
      clear hb Z1 d7 d8 d9 d10 d11 d12 d13 d14 d15
      have HN : Hid (r = false) := HR.out.trans (andT Q0.out (andF Q1.out))
      go_wp2
      go_ret
      exact ⟨by rw [HN.out]; rfl, HB3.out⟩
    · have Q1 := Lib.hid hq1.symm
      clear hq1
      go_wp2_with fail
      refine (Z1 _).mono ?_
      rintro e w3 ⟨rfl, hb⟩
      have HX3 := Lib.hid (HX2.out.below hb)
      have HB3 := Lib.hid (HB2.out.trans (hb.mono HB2.out.size))
      clear hb Z1 d7 d8 d9 d10 d11 d12 d13 d14 d15
      have d16 : w3.cell? ⟨w.heap.size, 16, none⟩ = some (.string ⟨#[]⟩) := HX3.out.cell 16
      have d17 : w3.cell? ⟨w.heap.size, 17, none⟩ = some (.string C.on) := HX3.out.cell 17
      by_cases h3 : C.on.size = 0
      · have q3 : zB C.on = true := by unfold zB; exact decide_eq_true h3
        have Q3 := Lib.hid q3
        rw [ba_size0 h3] at d17
        clear q3 h3
        have d18 : w3.cell? ⟨w.heap.size, 18, none⟩ = some (.int .u64 (C.fe : Nat)) := HX3.out.cell 18
        by_cases h4 : C.fe = 0
        · have q4 : zF C.fe = true := by unfold zF; exact decide_eq_true h4
          have Q4 := Lib.hid q4
          rw [h4] at d18
          clear q4 h4
          have HN : Hid (r = true) := HR.out.trans (andT Q0.out (andT Q1.out (andT Q3.out (Q4.out))))
          go_wp2
          go_ret
          exact ⟨by rw [HN.out]; rfl, HB3.out⟩
        · have q4 : zF C.fe = false := by unfold zF; exact decide_eq_false h4
          have Q4 := Lib.hid q4
          have m4 : ¬ ((C.fe : Nat) : Int) = 0 := by omega
          have n4 : (((C.fe : Nat) : Int) == 0) = false := by simpa using m4
          have l4 : (((C.fe : Nat) : Int) != 0) = true := by simpa using m4
          clear q4 h4
          have HN : Hid (r = false) := HR.out.trans (andT Q0.out (andT Q1.out (andT Q3.out (Q4.out))))
          go_wp2
          go_ret
          exact ⟨by rw [HN.out]; rfl, HB3.out⟩
      · have q3 : zB C.on = false := by unfold zB; exact decide_eq_false h3
        have Q3 := Lib.hid q3
        obtain ⟨m3, n3⟩ := ba_ne h3
        clear q3 h3
        have HN : Hid (r = false) := HR.out.trans (andT Q0.out (andT Q1.out (andF Q3.out)))
        go_wp2
        go_ret
        exact ⟨by rw [HN.out]; rfl, HB3.out⟩
set_option maxRecDepth 100000 in
set_option maxHeartbeats 4000000 in
theorem co_4 (C : Cd) (a2 a3 a4 a5 : Option Addr) (c2 c3 c4 c5 : Nat) (w : World) (hk : C.k = 4) (r : Bool) (hr : r = (zNd C.nd && (zTd C.td && (zB C.on && (zF C.fe))))) : Calls Tryz.prog 52 #[.agg (orC C (.slice a2 C.nd.ls.length c2) (.slice a3 C.nd.ts.length c3) (.slice a4 C.td.ws.length c4) (.slice a5 C.td.bs.length c5)).toArray] w fun e w' => e = .returned (.int .i64 (coE r : Nat)) ∧ Below w.heap.size w w' := by
  have HR := Lib.hid hr
  clear hr
  have hx : Bxn (w.alloc (.cells (orC C (.slice a2 C.nd.ls.length c2) (.slice a3 C.nd.ts.length c3) (.slice a4 C.td.ws.length c4) (.slice a5 C.td.bs.length c5)).toArray 55)) w.heap.size (orC C (.slice a2 C.nd.ls.length c2) (.slice a3 C.nd.ts.length c3) (.slice a4 C.td.ws.length c4) (.slice a5 C.td.bs.length c5)) := Bxn.made w _ _
  have HB0 : Hid (Below w.heap.size w (w.alloc (.cells (orC C (.slice a2 C.nd.ls.length c2) (.slice a3 C.nd.ts.length c3) (.slice a4 C.td.ws.length c4) (.slice a5 C.td.bs.length c5)).toArray 55))) := (Below.refl _ _).alloc (Nat.le_refl _) _
  have HX0 : Hid (Bxn (w.alloc (.cells (orC C (.slice a2 C.nd.ls.length c2) (.slice a3 C.nd.ts.length c3) (.slice a4 C.td.ws.length c4) (.slice a5 C.td.bs.length c5)).toArray 55)) w.heap.size [.int .u8 4, .string C.nd.n, .int .i64 C.nd.z0, .int .i64 C.nd.z1, .int .i64 C.nd.z2, .slice a2 C.nd.ls.length c2, .slice a3 C.nd.ts.length c3, .string C.td.n, .int .i64 C.td.z0, .int .i64 C.td.z1, .int .i64 C.td.z2, .slice a4 C.td.ws.length c4, .slice a5 C.td.bs.length c5, .string C.td.g, .string C.td.a, .int .i64 C.td.r, .string C.na, .string C.on, .int .u64 (C.fe : Nat)]) := by
    have e : orC C (.slice a2 C.nd.ls.length c2) (.slice a3 C.nd.ts.length c3) (.slice a4 C.td.ws.length c4) (.slice a5 C.td.bs.length c5) = [.int .u8 4, .string C.nd.n, .int .i64 C.nd.z0, .int .i64 C.nd.z1, .int .i64 C.nd.z2, .slice a2 C.nd.ls.length c2, .slice a3 C.nd.ts.length c3, .string C.td.n, .int .i64 C.td.z0, .int .i64 C.td.z1, .int .i64 C.td.z2, .slice a4 C.td.ws.length c4, .slice a5 C.td.bs.length c5, .string C.td.g, .string C.td.a, .int .i64 C.td.r, .string C.na, .string C.on, .int .u64 (C.fe : Nat)] := by
      unfold orC cdC
      rw [hk]; rfl
    show Bxn _ _ _
    rw [← e]
    exact hx
  clear hx
  obtain ⟨CS, hCS⟩ : ∃ CS, CS = (orC C (.slice a2 C.nd.ls.length c2) (.slice a3 C.nd.ts.length c3) (.slice a4 C.td.ws.length c4) (.slice a5 C.td.bs.length c5)).toArray := ⟨_, rfl⟩
  rw [← hCS] at HB0 HX0 ⊢
  clear hCS
  go_enter Tryz.func52, Tryz.ntmps52
  go_upto_region 1 with fail
  generalize w.alloc (.cells CS 55) = W0 at *
  have k0 : W0.cell? ⟨w.heap.size, 0, none⟩ = some (.int .u8 4) := HX0.out.cell 0
  have k16 : W0.cell? ⟨w.heap.size, 16, none⟩ = some (.string C.na) := HX0.out.cell 16
  have f16 := HX0.out.fz 16
  have HX1 : Hid (Bxn (W0.setCell ⟨w.heap.size, 16, none⟩ (.string ⟨#[]⟩)) w.heap.size [.int .u8 4, .string C.nd.n, .int .i64 C.nd.z0, .int .i64 C.nd.z1, .int .i64 C.nd.z2, .slice a2 C.nd.ls.length c2, .slice a3 C.nd.ts.length c3, .string C.td.n, .int .i64 C.td.z0, .int .i64 C.td.z1, .int .i64 C.td.z2, .slice a4 C.td.ws.length c4, .slice a5 C.td.bs.length c5, .string C.td.g, .string C.td.a, .int .i64 C.td.r, .string ⟨#[]⟩, .string C.on, .int .u64 (C.fe : Nat)]) := (HX0.out.set 16 (.string ⟨#[]⟩))
  have HB1 : Hid (Below w.heap.size w (W0.setCell ⟨w.heap.size, 16, none⟩ (.string ⟨#[]⟩))) := (HB0.out.setCell (Nat.le_refl _) _)
  go_upto_region 14 with fail
  generalize (W0.setCell ⟨w.heap.size, 16, none⟩ (.string ⟨#[]⟩)) = W1 at *
  clear k0 HX0 HB0 k16 f16
  obtain ⟨q0, hq0⟩ : ∃ q, q = (zN C.nd.n C.nd.z0 C.nd.z1 C.nd.z2 C.nd.ls.length C.nd.ts.length) := ⟨_, rfl⟩
  have Z0 : ∀ z, Calls Tryz.prog 95 #[.agg #[.string C.nd.n, .int .i64 C.nd.z0, .int .i64 C.nd.z1, .int .i64 C.nd.z2, .slice a2 C.nd.ls.length c2, .slice a3 C.nd.ts.length c3]] z fun e w' => e = .returned (.bool q0) ∧ Below z.heap.size z w' := fun z => by rw [hq0]; exact zero_node _ _ _ _ _ _ _ _ _ _ z
  have d1 : W1.cell? ⟨w.heap.size, 1, none⟩ = some (.string C.nd.n) := HX1.out.cell 1
  have d2 : W1.cell? ⟨w.heap.size, 2, none⟩ = some (.int .i64 C.nd.z0) := HX1.out.cell 2
  have d3 : W1.cell? ⟨w.heap.size, 3, none⟩ = some (.int .i64 C.nd.z1) := HX1.out.cell 3
  have d4 : W1.cell? ⟨w.heap.size, 4, none⟩ = some (.int .i64 C.nd.z2) := HX1.out.cell 4
  have d5 : W1.cell? ⟨w.heap.size, 5, none⟩ = some (.slice a2 C.nd.ls.length c2) := HX1.out.cell 5
  have d6 : W1.cell? ⟨w.heap.size, 6, none⟩ = some (.slice a3 C.nd.ts.length c3) := HX1.out.cell 6
  cases q0
  · have Q0 := Lib.hid hq0.symm
    clear hq0
    go_wp2_with fail
    refine (Z0 _).mono ?_
    rintro e w2 ⟨rfl, hb⟩
    have HX2 := Lib.hid (HX1.out.below hb)
    have HB2 := Lib.hid (HB1.out.trans (hb.mono HB1.out.size))
    clear hb Z0 d1 d2 d3 d4 d5 d6
    have HN : Hid (r = false) := HR.out.trans (andF Q0.out)
    go_wp2
    go_ret
    exact ⟨by rw [HN.out]; rfl, HB2.out⟩
  · have Q0 := Lib.hid hq0.symm
    clear hq0
    go_wp2_with fail
    refine (Z0 _).mono ?_
    rintro e w2 ⟨rfl, hb⟩
    have HX2 := Lib.hid (HX1.out.below hb)
    have HB2 := Lib.hid (HB1.out.trans (hb.mono HB1.out.size))
    clear hb Z0 d1 d2 d3 d4 d5 d6
    obtain ⟨q1, hq1⟩ : ∃ q, q = (zT C.td.n C.td.z0 C.td.z1 C.td.z2 C.td.ws.length C.td.bs.length C.td.g C.td.a C.td.r) := ⟨_, rfl⟩
    have Z1 : ∀ z, Calls Tryz.prog 96 #[.agg #[.string C.td.n, .int .i64 C.td.z0, .int .i64 C.td.z1, .int .i64 C.td.z2, .slice a4 C.td.ws.length c4, .slice a5 C.td.bs.length c5, .string C.td.g, .string C.td.a, .int .i64 C.td.r]] z fun e w' => e = .returned (.bool q1) ∧ Below z.heap.size z w' := fun z => by rw [hq1]; exact zero_task _ _ _ _ _ _ _ _ _ _ _ _ _ z
    have d7 : w2.cell? ⟨w.heap.size, 7, none⟩ = some (.string C.td.n) := HX2.out.cell 7
    have d8 : w2.cell? ⟨w.heap.size, 8, none⟩ = some (.int .i64 C.td.z0) := HX2.out.cell 8
    have d9 : w2.cell? ⟨w.heap.size, 9, none⟩ = some (.int .i64 C.td.z1) := HX2.out.cell 9
    have d10 : w2.cell? ⟨w.heap.size, 10, none⟩ = some (.int .i64 C.td.z2) := HX2.out.cell 10
    have d11 : w2.cell? ⟨w.heap.size, 11, none⟩ = some (.slice a4 C.td.ws.length c4) := HX2.out.cell 11
    have d12 : w2.cell? ⟨w.heap.size, 12, none⟩ = some (.slice a5 C.td.bs.length c5) := HX2.out.cell 12
    have d13 : w2.cell? ⟨w.heap.size, 13, none⟩ = some (.string C.td.g) := HX2.out.cell 13
    have d14 : w2.cell? ⟨w.heap.size, 14, none⟩ = some (.string C.td.a) := HX2.out.cell 14
    have d15 : w2.cell? ⟨w.heap.size, 15, none⟩ = some (.int .i64 C.td.r) := HX2.out.cell 15
    cases q1
    · have Q1 := Lib.hid hq1.symm
      clear hq1
      go_wp2_with fail
      refine (Z1 _).mono ?_
      rintro e w3 ⟨rfl, hb⟩
      have HX3 := Lib.hid (HX2.out.below hb)
      have HB3 := Lib.hid (HB2.out.trans (hb.mono HB2.out.size))
      clear hb Z1 d7 d8 d9 d10 d11 d12 d13 d14 d15
      have HN : Hid (r = false) := HR.out.trans (andT Q0.out (andF Q1.out))
      go_wp2
      go_ret
      exact ⟨by rw [HN.out]; rfl, HB3.out⟩
    · have Q1 := Lib.hid hq1.symm
      clear hq1
      go_wp2_with fail
      refine (Z1 _).mono ?_
      rintro e w3 ⟨rfl, hb⟩
      have HX3 := Lib.hid (HX2.out.below hb)
      have HB3 := Lib.hid (HB2.out.trans (hb.mono HB2.out.size))
      clear hb Z1 d7 d8 d9 d10 d11 d12 d13 d14 d15
      have d16 : w3.cell? ⟨w.heap.size, 16, none⟩ = some (.string ⟨#[]⟩) := HX3.out.cell 16
      have d17 : w3.cell? ⟨w.heap.size, 17, none⟩ = some (.string C.on) := HX3.out.cell 17
      by_cases h3 : C.on.size = 0
      · have q3 : zB C.on = true := by unfold zB; exact decide_eq_true h3
        have Q3 := Lib.hid q3
        rw [ba_size0 h3] at d17
        clear q3 h3
        have d18 : w3.cell? ⟨w.heap.size, 18, none⟩ = some (.int .u64 (C.fe : Nat)) := HX3.out.cell 18
        by_cases h4 : C.fe = 0
        · have q4 : zF C.fe = true := by unfold zF; exact decide_eq_true h4
          have Q4 := Lib.hid q4
          rw [h4] at d18
          clear q4 h4
          have HN : Hid (r = true) := HR.out.trans (andT Q0.out (andT Q1.out (andT Q3.out (Q4.out))))
          go_wp2
          go_ret
          exact ⟨by rw [HN.out]; rfl, HB3.out⟩
        · have q4 : zF C.fe = false := by unfold zF; exact decide_eq_false h4
          have Q4 := Lib.hid q4
          have m4 : ¬ ((C.fe : Nat) : Int) = 0 := by omega
          have n4 : (((C.fe : Nat) : Int) == 0) = false := by simpa using m4
          have l4 : (((C.fe : Nat) : Int) != 0) = true := by simpa using m4
          clear q4 h4
          have HN : Hid (r = false) := HR.out.trans (andT Q0.out (andT Q1.out (andT Q3.out (Q4.out))))
          go_wp2
          go_ret
          exact ⟨by rw [HN.out]; rfl, HB3.out⟩
      · have q3 : zB C.on = false := by unfold zB; exact decide_eq_false h3
        have Q3 := Lib.hid q3
        obtain ⟨m3, n3⟩ := ba_ne h3
        clear q3 h3
        have HN : Hid (r = false) := HR.out.trans (andT Q0.out (andT Q1.out (andF Q3.out)))
        go_wp2
        go_ret
        exact ⟨by rw [HN.out]; rfl, HB3.out⟩
set_option maxRecDepth 100000 in
set_option maxHeartbeats 4000000 in
theorem co_6 (C : Cd) (a2 a3 a4 a5 : Option Addr) (c2 c3 c4 c5 : Nat) (w : World) (hk : C.k = 6) (r : Bool) (hr : r = (zNd C.nd && (zTd C.td && (zB C.on && (zF C.fe))))) : Calls Tryz.prog 52 #[.agg (orC C (.slice a2 C.nd.ls.length c2) (.slice a3 C.nd.ts.length c3) (.slice a4 C.td.ws.length c4) (.slice a5 C.td.bs.length c5)).toArray] w fun e w' => e = .returned (.int .i64 (coE r : Nat)) ∧ Below w.heap.size w w' := by
  have HR := Lib.hid hr
  clear hr
  have hx : Bxn (w.alloc (.cells (orC C (.slice a2 C.nd.ls.length c2) (.slice a3 C.nd.ts.length c3) (.slice a4 C.td.ws.length c4) (.slice a5 C.td.bs.length c5)).toArray 55)) w.heap.size (orC C (.slice a2 C.nd.ls.length c2) (.slice a3 C.nd.ts.length c3) (.slice a4 C.td.ws.length c4) (.slice a5 C.td.bs.length c5)) := Bxn.made w _ _
  have HB0 : Hid (Below w.heap.size w (w.alloc (.cells (orC C (.slice a2 C.nd.ls.length c2) (.slice a3 C.nd.ts.length c3) (.slice a4 C.td.ws.length c4) (.slice a5 C.td.bs.length c5)).toArray 55))) := (Below.refl _ _).alloc (Nat.le_refl _) _
  have HX0 : Hid (Bxn (w.alloc (.cells (orC C (.slice a2 C.nd.ls.length c2) (.slice a3 C.nd.ts.length c3) (.slice a4 C.td.ws.length c4) (.slice a5 C.td.bs.length c5)).toArray 55)) w.heap.size [.int .u8 6, .string C.nd.n, .int .i64 C.nd.z0, .int .i64 C.nd.z1, .int .i64 C.nd.z2, .slice a2 C.nd.ls.length c2, .slice a3 C.nd.ts.length c3, .string C.td.n, .int .i64 C.td.z0, .int .i64 C.td.z1, .int .i64 C.td.z2, .slice a4 C.td.ws.length c4, .slice a5 C.td.bs.length c5, .string C.td.g, .string C.td.a, .int .i64 C.td.r, .string C.na, .string C.on, .int .u64 (C.fe : Nat)]) := by
    have e : orC C (.slice a2 C.nd.ls.length c2) (.slice a3 C.nd.ts.length c3) (.slice a4 C.td.ws.length c4) (.slice a5 C.td.bs.length c5) = [.int .u8 6, .string C.nd.n, .int .i64 C.nd.z0, .int .i64 C.nd.z1, .int .i64 C.nd.z2, .slice a2 C.nd.ls.length c2, .slice a3 C.nd.ts.length c3, .string C.td.n, .int .i64 C.td.z0, .int .i64 C.td.z1, .int .i64 C.td.z2, .slice a4 C.td.ws.length c4, .slice a5 C.td.bs.length c5, .string C.td.g, .string C.td.a, .int .i64 C.td.r, .string C.na, .string C.on, .int .u64 (C.fe : Nat)] := by
      unfold orC cdC
      rw [hk]; rfl
    show Bxn _ _ _
    rw [← e]
    exact hx
  clear hx
  obtain ⟨CS, hCS⟩ : ∃ CS, CS = (orC C (.slice a2 C.nd.ls.length c2) (.slice a3 C.nd.ts.length c3) (.slice a4 C.td.ws.length c4) (.slice a5 C.td.bs.length c5)).toArray := ⟨_, rfl⟩
  rw [← hCS] at HB0 HX0 ⊢
  clear hCS
  go_enter Tryz.func52, Tryz.ntmps52
  go_upto_region 1 with fail
  generalize w.alloc (.cells CS 55) = W0 at *
  have k0 : W0.cell? ⟨w.heap.size, 0, none⟩ = some (.int .u8 6) := HX0.out.cell 0
  have k16 : W0.cell? ⟨w.heap.size, 16, none⟩ = some (.string C.na) := HX0.out.cell 16
  have f16 := HX0.out.fz 16
  have HX1 : Hid (Bxn (W0.setCell ⟨w.heap.size, 16, none⟩ (.string ⟨#[]⟩)) w.heap.size [.int .u8 6, .string C.nd.n, .int .i64 C.nd.z0, .int .i64 C.nd.z1, .int .i64 C.nd.z2, .slice a2 C.nd.ls.length c2, .slice a3 C.nd.ts.length c3, .string C.td.n, .int .i64 C.td.z0, .int .i64 C.td.z1, .int .i64 C.td.z2, .slice a4 C.td.ws.length c4, .slice a5 C.td.bs.length c5, .string C.td.g, .string C.td.a, .int .i64 C.td.r, .string ⟨#[]⟩, .string C.on, .int .u64 (C.fe : Nat)]) := (HX0.out.set 16 (.string ⟨#[]⟩))
  have HB1 : Hid (Below w.heap.size w (W0.setCell ⟨w.heap.size, 16, none⟩ (.string ⟨#[]⟩))) := (HB0.out.setCell (Nat.le_refl _) _)
  go_upto_region 14 with fail
  generalize (W0.setCell ⟨w.heap.size, 16, none⟩ (.string ⟨#[]⟩)) = W1 at *
  clear k0 HX0 HB0 k16 f16
  obtain ⟨q0, hq0⟩ : ∃ q, q = (zN C.nd.n C.nd.z0 C.nd.z1 C.nd.z2 C.nd.ls.length C.nd.ts.length) := ⟨_, rfl⟩
  have Z0 : ∀ z, Calls Tryz.prog 95 #[.agg #[.string C.nd.n, .int .i64 C.nd.z0, .int .i64 C.nd.z1, .int .i64 C.nd.z2, .slice a2 C.nd.ls.length c2, .slice a3 C.nd.ts.length c3]] z fun e w' => e = .returned (.bool q0) ∧ Below z.heap.size z w' := fun z => by rw [hq0]; exact zero_node _ _ _ _ _ _ _ _ _ _ z
  have d1 : W1.cell? ⟨w.heap.size, 1, none⟩ = some (.string C.nd.n) := HX1.out.cell 1
  have d2 : W1.cell? ⟨w.heap.size, 2, none⟩ = some (.int .i64 C.nd.z0) := HX1.out.cell 2
  have d3 : W1.cell? ⟨w.heap.size, 3, none⟩ = some (.int .i64 C.nd.z1) := HX1.out.cell 3
  have d4 : W1.cell? ⟨w.heap.size, 4, none⟩ = some (.int .i64 C.nd.z2) := HX1.out.cell 4
  have d5 : W1.cell? ⟨w.heap.size, 5, none⟩ = some (.slice a2 C.nd.ls.length c2) := HX1.out.cell 5
  have d6 : W1.cell? ⟨w.heap.size, 6, none⟩ = some (.slice a3 C.nd.ts.length c3) := HX1.out.cell 6
  cases q0
  · have Q0 := Lib.hid hq0.symm
    clear hq0
    go_wp2_with fail
    refine (Z0 _).mono ?_
    rintro e w2 ⟨rfl, hb⟩
    have HX2 := Lib.hid (HX1.out.below hb)
    have HB2 := Lib.hid (HB1.out.trans (hb.mono HB1.out.size))
    clear hb Z0 d1 d2 d3 d4 d5 d6
    have HN : Hid (r = false) := HR.out.trans (andF Q0.out)
    go_wp2
    go_ret
    exact ⟨by rw [HN.out]; rfl, HB2.out⟩
  · have Q0 := Lib.hid hq0.symm
    clear hq0
    go_wp2_with fail
    refine (Z0 _).mono ?_
    rintro e w2 ⟨rfl, hb⟩
    have HX2 := Lib.hid (HX1.out.below hb)
    have HB2 := Lib.hid (HB1.out.trans (hb.mono HB1.out.size))
    clear hb Z0 d1 d2 d3 d4 d5 d6
    obtain ⟨q1, hq1⟩ : ∃ q, q = (zT C.td.n C.td.z0 C.td.z1 C.td.z2 C.td.ws.length C.td.bs.length C.td.g C.td.a C.td.r) := ⟨_, rfl⟩
    have Z1 : ∀ z, Calls Tryz.prog 96 #[.agg #[.string C.td.n, .int .i64 C.td.z0, .int .i64 C.td.z1, .int .i64 C.td.z2, .slice a4 C.td.ws.length c4, .slice a5 C.td.bs.length c5, .string C.td.g, .string C.td.a, .int .i64 C.td.r]] z fun e w' => e = .returned (.bool q1) ∧ Below z.heap.size z w' := fun z => by rw [hq1]; exact zero_task _ _ _ _ _ _ _ _ _ _ _ _ _ z
    have d7 : w2.cell? ⟨w.heap.size, 7, none⟩ = some (.string C.td.n) := HX2.out.cell 7
    have d8 : w2.cell? ⟨w.heap.size, 8, none⟩ = some (.int .i64 C.td.z0) := HX2.out.cell 8
    have d9 : w2.cell? ⟨w.heap.size, 9, none⟩ = some (.int .i64 C.td.z1) := HX2.out.cell 9
    have d10 : w2.cell? ⟨w.heap.size, 10, none⟩ = some (.int .i64 C.td.z2) := HX2.out.cell 10
    have d11 : w2.cell? ⟨w.heap.size, 11, none⟩ = some (.slice a4 C.td.ws.length c4) := HX2.out.cell 11
    have d12 : w2.cell? ⟨w.heap.size, 12, none⟩ = some (.slice a5 C.td.bs.length c5) := HX2.out.cell 12
    have d13 : w2.cell? ⟨w.heap.size, 13, none⟩ = some (.string C.td.g) := HX2.out.cell 13
    have d14 : w2.cell? ⟨w.heap.size, 14, none⟩ = some (.string C.td.a) := HX2.out.cell 14
    have d15 : w2.cell? ⟨w.heap.size, 15, none⟩ = some (.int .i64 C.td.r) := HX2.out.cell 15
    cases q1
    · have Q1 := Lib.hid hq1.symm
      clear hq1
      go_wp2_with fail
      refine (Z1 _).mono ?_
      rintro e w3 ⟨rfl, hb⟩
      have HX3 := Lib.hid (HX2.out.below hb)
      have HB3 := Lib.hid (HB2.out.trans (hb.mono HB2.out.size))
      clear hb Z1 d7 d8 d9 d10 d11 d12 d13 d14 d15
      have HN : Hid (r = false) := HR.out.trans (andT Q0.out (andF Q1.out))
      go_wp2
      go_ret
      exact ⟨by rw [HN.out]; rfl, HB3.out⟩
    · have Q1 := Lib.hid hq1.symm
      clear hq1
      go_wp2_with fail
      refine (Z1 _).mono ?_
      rintro e w3 ⟨rfl, hb⟩
      have HX3 := Lib.hid (HX2.out.below hb)
      have HB3 := Lib.hid (HB2.out.trans (hb.mono HB2.out.size))
      clear hb Z1 d7 d8 d9 d10 d11 d12 d13 d14 d15
      have d16 : w3.cell? ⟨w.heap.size, 16, none⟩ = some (.string ⟨#[]⟩) := HX3.out.cell 16
      have d17 : w3.cell? ⟨w.heap.size, 17, none⟩ = some (.string C.on) := HX3.out.cell 17
      by_cases h3 : C.on.size = 0
      · have q3 : zB C.on = true := by unfold zB; exact decide_eq_true h3
        have Q3 := Lib.hid q3
        rw [ba_size0 h3] at d17
        clear q3 h3
        have d18 : w3.cell? ⟨w.heap.size, 18, none⟩ = some (.int .u64 (C.fe : Nat)) := HX3.out.cell 18
        by_cases h4 : C.fe = 0
        · have q4 : zF C.fe = true := by unfold zF; exact decide_eq_true h4
          have Q4 := Lib.hid q4
          rw [h4] at d18
          clear q4 h4
          have HN : Hid (r = true) := HR.out.trans (andT Q0.out (andT Q1.out (andT Q3.out (Q4.out))))
          go_wp2
          go_ret
          exact ⟨by rw [HN.out]; rfl, HB3.out⟩
        · have q4 : zF C.fe = false := by unfold zF; exact decide_eq_false h4
          have Q4 := Lib.hid q4
          have m4 : ¬ ((C.fe : Nat) : Int) = 0 := by omega
          have n4 : (((C.fe : Nat) : Int) == 0) = false := by simpa using m4
          have l4 : (((C.fe : Nat) : Int) != 0) = true := by simpa using m4
          clear q4 h4
          have HN : Hid (r = false) := HR.out.trans (andT Q0.out (andT Q1.out (andT Q3.out (Q4.out))))
          go_wp2
          go_ret
          exact ⟨by rw [HN.out]; rfl, HB3.out⟩
      · have q3 : zB C.on = false := by unfold zB; exact decide_eq_false h3
        have Q3 := Lib.hid q3
        obtain ⟨m3, n3⟩ := ba_ne h3
        clear q3 h3
        have HN : Hid (r = false) := HR.out.trans (andT Q0.out (andT Q1.out (andF Q3.out)))
        go_wp2
        go_ret
        exact ⟨by rw [HN.out]; rfl, HB3.out⟩
set_option maxRecDepth 100000 in
set_option maxHeartbeats 4000000 in
theorem co_7 (C : Cd) (a2 a3 a4 a5 : Option Addr) (c2 c3 c4 c5 : Nat) (w : World) (hk : C.k = 7) (r : Bool) (hr : r = (zNd C.nd && (zTd C.td && (zB C.on && (zF C.fe))))) : Calls Tryz.prog 52 #[.agg (orC C (.slice a2 C.nd.ls.length c2) (.slice a3 C.nd.ts.length c3) (.slice a4 C.td.ws.length c4) (.slice a5 C.td.bs.length c5)).toArray] w fun e w' => e = .returned (.int .i64 (coE r : Nat)) ∧ Below w.heap.size w w' := by
  have HR := Lib.hid hr
  clear hr
  have hx : Bxn (w.alloc (.cells (orC C (.slice a2 C.nd.ls.length c2) (.slice a3 C.nd.ts.length c3) (.slice a4 C.td.ws.length c4) (.slice a5 C.td.bs.length c5)).toArray 55)) w.heap.size (orC C (.slice a2 C.nd.ls.length c2) (.slice a3 C.nd.ts.length c3) (.slice a4 C.td.ws.length c4) (.slice a5 C.td.bs.length c5)) := Bxn.made w _ _
  have HB0 : Hid (Below w.heap.size w (w.alloc (.cells (orC C (.slice a2 C.nd.ls.length c2) (.slice a3 C.nd.ts.length c3) (.slice a4 C.td.ws.length c4) (.slice a5 C.td.bs.length c5)).toArray 55))) := (Below.refl _ _).alloc (Nat.le_refl _) _
  have HX0 : Hid (Bxn (w.alloc (.cells (orC C (.slice a2 C.nd.ls.length c2) (.slice a3 C.nd.ts.length c3) (.slice a4 C.td.ws.length c4) (.slice a5 C.td.bs.length c5)).toArray 55)) w.heap.size [.int .u8 7, .string C.nd.n, .int .i64 C.nd.z0, .int .i64 C.nd.z1, .int .i64 C.nd.z2, .slice a2 C.nd.ls.length c2, .slice a3 C.nd.ts.length c3, .string C.td.n, .int .i64 C.td.z0, .int .i64 C.td.z1, .int .i64 C.td.z2, .slice a4 C.td.ws.length c4, .slice a5 C.td.bs.length c5, .string C.td.g, .string C.td.a, .int .i64 C.td.r, .string C.na, .string C.on, .int .u64 (C.fe : Nat)]) := by
    have e : orC C (.slice a2 C.nd.ls.length c2) (.slice a3 C.nd.ts.length c3) (.slice a4 C.td.ws.length c4) (.slice a5 C.td.bs.length c5) = [.int .u8 7, .string C.nd.n, .int .i64 C.nd.z0, .int .i64 C.nd.z1, .int .i64 C.nd.z2, .slice a2 C.nd.ls.length c2, .slice a3 C.nd.ts.length c3, .string C.td.n, .int .i64 C.td.z0, .int .i64 C.td.z1, .int .i64 C.td.z2, .slice a4 C.td.ws.length c4, .slice a5 C.td.bs.length c5, .string C.td.g, .string C.td.a, .int .i64 C.td.r, .string C.na, .string C.on, .int .u64 (C.fe : Nat)] := by
      unfold orC cdC
      rw [hk]; rfl
    show Bxn _ _ _
    rw [← e]
    exact hx
  clear hx
  obtain ⟨CS, hCS⟩ : ∃ CS, CS = (orC C (.slice a2 C.nd.ls.length c2) (.slice a3 C.nd.ts.length c3) (.slice a4 C.td.ws.length c4) (.slice a5 C.td.bs.length c5)).toArray := ⟨_, rfl⟩
  rw [← hCS] at HB0 HX0 ⊢
  clear hCS
  go_enter Tryz.func52, Tryz.ntmps52
  go_upto_region 1 with fail
  generalize w.alloc (.cells CS 55) = W0 at *
  have k0 : W0.cell? ⟨w.heap.size, 0, none⟩ = some (.int .u8 7) := HX0.out.cell 0
  have k16 : W0.cell? ⟨w.heap.size, 16, none⟩ = some (.string C.na) := HX0.out.cell 16
  have f16 := HX0.out.fz 16
  have HX1 : Hid (Bxn (W0.setCell ⟨w.heap.size, 16, none⟩ (.string ⟨#[]⟩)) w.heap.size [.int .u8 7, .string C.nd.n, .int .i64 C.nd.z0, .int .i64 C.nd.z1, .int .i64 C.nd.z2, .slice a2 C.nd.ls.length c2, .slice a3 C.nd.ts.length c3, .string C.td.n, .int .i64 C.td.z0, .int .i64 C.td.z1, .int .i64 C.td.z2, .slice a4 C.td.ws.length c4, .slice a5 C.td.bs.length c5, .string C.td.g, .string C.td.a, .int .i64 C.td.r, .string ⟨#[]⟩, .string C.on, .int .u64 (C.fe : Nat)]) := (HX0.out.set 16 (.string ⟨#[]⟩))
  have HB1 : Hid (Below w.heap.size w (W0.setCell ⟨w.heap.size, 16, none⟩ (.string ⟨#[]⟩))) := (HB0.out.setCell (Nat.le_refl _) _)
  go_upto_region 14 with fail
  generalize (W0.setCell ⟨w.heap.size, 16, none⟩ (.string ⟨#[]⟩)) = W1 at *
  clear k0 HX0 HB0 k16 f16
  obtain ⟨q0, hq0⟩ : ∃ q, q = (zN C.nd.n C.nd.z0 C.nd.z1 C.nd.z2 C.nd.ls.length C.nd.ts.length) := ⟨_, rfl⟩
  have Z0 : ∀ z, Calls Tryz.prog 95 #[.agg #[.string C.nd.n, .int .i64 C.nd.z0, .int .i64 C.nd.z1, .int .i64 C.nd.z2, .slice a2 C.nd.ls.length c2, .slice a3 C.nd.ts.length c3]] z fun e w' => e = .returned (.bool q0) ∧ Below z.heap.size z w' := fun z => by rw [hq0]; exact zero_node _ _ _ _ _ _ _ _ _ _ z
  have d1 : W1.cell? ⟨w.heap.size, 1, none⟩ = some (.string C.nd.n) := HX1.out.cell 1
  have d2 : W1.cell? ⟨w.heap.size, 2, none⟩ = some (.int .i64 C.nd.z0) := HX1.out.cell 2
  have d3 : W1.cell? ⟨w.heap.size, 3, none⟩ = some (.int .i64 C.nd.z1) := HX1.out.cell 3
  have d4 : W1.cell? ⟨w.heap.size, 4, none⟩ = some (.int .i64 C.nd.z2) := HX1.out.cell 4
  have d5 : W1.cell? ⟨w.heap.size, 5, none⟩ = some (.slice a2 C.nd.ls.length c2) := HX1.out.cell 5
  have d6 : W1.cell? ⟨w.heap.size, 6, none⟩ = some (.slice a3 C.nd.ts.length c3) := HX1.out.cell 6
  cases q0
  · have Q0 := Lib.hid hq0.symm
    clear hq0
    go_wp2_with fail
    refine (Z0 _).mono ?_
    rintro e w2 ⟨rfl, hb⟩
    have HX2 := Lib.hid (HX1.out.below hb)
    have HB2 := Lib.hid (HB1.out.trans (hb.mono HB1.out.size))
    clear hb Z0 d1 d2 d3 d4 d5 d6
    have HN : Hid (r = false) := HR.out.trans (andF Q0.out)
    go_wp2
    go_ret
    exact ⟨by rw [HN.out]; rfl, HB2.out⟩
  · have Q0 := Lib.hid hq0.symm
    clear hq0
    go_wp2_with fail
    refine (Z0 _).mono ?_
    rintro e w2 ⟨rfl, hb⟩
    have HX2 := Lib.hid (HX1.out.below hb)
    have HB2 := Lib.hid (HB1.out.trans (hb.mono HB1.out.size))
    clear hb Z0 d1 d2 d3 d4 d5 d6
    obtain ⟨q1, hq1⟩ : ∃ q, q = (zT C.td.n C.td.z0 C.td.z1 C.td.z2 C.td.ws.length C.td.bs.length C.td.g C.td.a C.td.r) := ⟨_, rfl⟩
    have Z1 : ∀ z, Calls Tryz.prog 96 #[.agg #[.string C.td.n, .int .i64 C.td.z0, .int .i64 C.td.z1, .int .i64 C.td.z2, .slice a4 C.td.ws.length c4, .slice a5 C.td.bs.length c5, .string C.td.g, .string C.td.a, .int .i64 C.td.r]] z fun e w' => e = .returned (.bool q1) ∧ Below z.heap.size z w' := fun z => by rw [hq1]; exact zero_task _ _ _ _ _ _ _ _ _ _ _ _ _ z
    have d7 : w2.cell? ⟨w.heap.size, 7, none⟩ = some (.string C.td.n) := HX2.out.cell 7
    have d8 : w2.cell? ⟨w.heap.size, 8, none⟩ = some (.int .i64 C.td.z0) := HX2.out.cell 8
    have d9 : w2.cell? ⟨w.heap.size, 9, none⟩ = some (.int .i64 C.td.z1) := HX2.out.cell 9
    have d10 : w2.cell? ⟨w.heap.size, 10, none⟩ = some (.int .i64 C.td.z2) := HX2.out.cell 10
    have d11 : w2.cell? ⟨w.heap.size, 11, none⟩ = some (.slice a4 C.td.ws.length c4) := HX2.out.cell 11
    have d12 : w2.cell? ⟨w.heap.size, 12, none⟩ = some (.slice a5 C.td.bs.length c5) := HX2.out.cell 12
    have d13 : w2.cell? ⟨w.heap.size, 13, none⟩ = some (.string C.td.g) := HX2.out.cell 13
    have d14 : w2.cell? ⟨w.heap.size, 14, none⟩ = some (.string C.td.a) := HX2.out.cell 14
    have d15 : w2.cell? ⟨w.heap.size, 15, none⟩ = some (.int .i64 C.td.r) := HX2.out.cell 15
    cases q1
    · have Q1 := Lib.hid hq1.symm
      clear hq1
      go_wp2_with fail
      refine (Z1 _).mono ?_
      rintro e w3 ⟨rfl, hb⟩
      have HX3 := Lib.hid (HX2.out.below hb)
      have HB3 := Lib.hid (HB2.out.trans (hb.mono HB2.out.size))
      clear hb Z1 d7 d8 d9 d10 d11 d12 d13 d14 d15
      have HN : Hid (r = false) := HR.out.trans (andT Q0.out (andF Q1.out))
      go_wp2
      go_ret
      exact ⟨by rw [HN.out]; rfl, HB3.out⟩
    · have Q1 := Lib.hid hq1.symm
      clear hq1
      go_wp2_with fail
      refine (Z1 _).mono ?_
      rintro e w3 ⟨rfl, hb⟩
      have HX3 := Lib.hid (HX2.out.below hb)
      have HB3 := Lib.hid (HB2.out.trans (hb.mono HB2.out.size))
      clear hb Z1 d7 d8 d9 d10 d11 d12 d13 d14 d15
      have d16 : w3.cell? ⟨w.heap.size, 16, none⟩ = some (.string ⟨#[]⟩) := HX3.out.cell 16
      have d17 : w3.cell? ⟨w.heap.size, 17, none⟩ = some (.string C.on) := HX3.out.cell 17
      by_cases h3 : C.on.size = 0
      · have q3 : zB C.on = true := by unfold zB; exact decide_eq_true h3
        have Q3 := Lib.hid q3
        rw [ba_size0 h3] at d17
        clear q3 h3
        have d18 : w3.cell? ⟨w.heap.size, 18, none⟩ = some (.int .u64 (C.fe : Nat)) := HX3.out.cell 18
        by_cases h4 : C.fe = 0
        · have q4 : zF C.fe = true := by unfold zF; exact decide_eq_true h4
          have Q4 := Lib.hid q4
          rw [h4] at d18
          clear q4 h4
          have HN : Hid (r = true) := HR.out.trans (andT Q0.out (andT Q1.out (andT Q3.out (Q4.out))))
          go_wp2
          go_ret
          exact ⟨by rw [HN.out]; rfl, HB3.out⟩
        · have q4 : zF C.fe = false := by unfold zF; exact decide_eq_false h4
          have Q4 := Lib.hid q4
          have m4 : ¬ ((C.fe : Nat) : Int) = 0 := by omega
          have n4 : (((C.fe : Nat) : Int) == 0) = false := by simpa using m4
          have l4 : (((C.fe : Nat) : Int) != 0) = true := by simpa using m4
          clear q4 h4
          have HN : Hid (r = false) := HR.out.trans (andT Q0.out (andT Q1.out (andT Q3.out (Q4.out))))
          go_wp2
          go_ret
          exact ⟨by rw [HN.out]; rfl, HB3.out⟩
      · have q3 : zB C.on = false := by unfold zB; exact decide_eq_false h3
        have Q3 := Lib.hid q3
        obtain ⟨m3, n3⟩ := ba_ne h3
        clear q3 h3
        have HN : Hid (r = false) := HR.out.trans (andT Q0.out (andT Q1.out (andF Q3.out)))
        go_wp2
        go_ret
        exact ⟨by rw [HN.out]; rfl, HB3.out⟩
end Hd
end Go.Proofs.YthbmnkeigmbbdaaGreat
