/-
  order.Check: whether a command is right.
-/
import Derived.Test.YthlchdlgafincaaBookCo
import Derived.Test.YthlchdlgafincaaOrB
import Derived.Test.YthlchdlgafincaaRigCheck
namespace Go.Proofs.Ythlchdlgafincaa
open Go.RowKit
namespace Hd
open PM Hc Rg
set_option maxRecDepth 100000 in
set_option maxHeartbeats 1000000 in
theorem co_other (C : Cd) (a2 a3 a4 a5 : Option Addr) (c2 c3 c4 c5 : Nat) (w : World) (e1 : C.k ≠ 1) (e2 : C.k ≠ 2) (e3 : C.k ≠ 3) (e4 : C.k ≠ 4) (e5 : C.k ≠ 5) (e6 : C.k ≠ 6) (e7 : C.k ≠ 7) :
    Calls Try.prog 34 #[.agg (orC C (.slice a2 C.nd.ls.length c2) (.slice a3 C.nd.ts.length c3) (.slice a4 C.td.ws.length c4) (.slice a5 C.td.bs.length c5)).toArray] w fun e w' => e = .returned (.int .i64 4) ∧ Below w.heap.size w w' := by
  have HX0 : Hid (Bxn (w.alloc (.cells (orC C (.slice a2 C.nd.ls.length c2) (.slice a3 C.nd.ts.length c3) (.slice a4 C.td.ws.length c4) (.slice a5 C.td.bs.length c5)).toArray 31)) w.heap.size (orC C (.slice a2 C.nd.ls.length c2) (.slice a3 C.nd.ts.length c3) (.slice a4 C.td.ws.length c4) (.slice a5 C.td.bs.length c5))) := Bxn.made w _ _
  have HB0 : Hid (Below w.heap.size w (w.alloc (.cells (orC C (.slice a2 C.nd.ls.length c2) (.slice a3 C.nd.ts.length c3) (.slice a4 C.td.ws.length c4) (.slice a5 C.td.bs.length c5)).toArray 31))) := (Below.refl _ _).alloc (Nat.le_refl _) _
  obtain ⟨CS, hCS⟩ : ∃ CS, CS = (orC C (.slice a2 C.nd.ls.length c2) (.slice a3 C.nd.ts.length c3) (.slice a4 C.td.ws.length c4) (.slice a5 C.td.bs.length c5)).toArray := ⟨_, rfl⟩
  rw [← hCS] at HB0 HX0 ⊢
  clear hCS
  have h1 : ¬ ((C.k : Nat) : Int) = 1 := by omega
  have g1 : (((C.k : Nat) : Int) == 1) = false := by simpa using h1
  clear e1
  have h2 : ¬ ((C.k : Nat) : Int) = 2 := by omega
  have g2 : (((C.k : Nat) : Int) == 2) = false := by simpa using h2
  clear e2
  have h3 : ¬ ((C.k : Nat) : Int) = 3 := by omega
  have g3 : (((C.k : Nat) : Int) == 3) = false := by simpa using h3
  clear e3
  have h4 : ¬ ((C.k : Nat) : Int) = 4 := by omega
  have g4 : (((C.k : Nat) : Int) == 4) = false := by simpa using h4
  clear e4
  have h5 : ¬ ((C.k : Nat) : Int) = 5 := by omega
  have g5 : (((C.k : Nat) : Int) == 5) = false := by simpa using h5
  clear e5
  have h6 : ¬ ((C.k : Nat) : Int) = 6 := by omega
  have g6 : (((C.k : Nat) : Int) == 6) = false := by simpa using h6
  clear e6
  have h7 : ¬ ((C.k : Nat) : Int) = 7 := by omega
  have g7 : (((C.k : Nat) : Int) == 7) = false := by simpa using h7
  clear e7
  go_enter Try.func34, Try.ntmps34
  go_upto_region 1 with fail
  generalize w.alloc (.cells CS 31) = W0 at *
  have k0 : W0.cell? ⟨w.heap.size, 0, none⟩ = some (.int .u8 (C.k : Nat)) := HX0.out.cell 0
  go_wp2
  go_ret
  exact ⟨rfl, HB0.out⟩
theorem checkOrder_any (C : Cd) (v2 v3 v4 v5 : Value) (w : World) {B : Nat} (hp : PrsIn w B C v2 v3 v4 v5) :
    Calls Try.prog 34 #[.agg (orC C v2 v3 v4 v5).toArray] w fun e w' => e = .returned (.int .i64 (coE (coB C) : Nat)) ∧ Below w.heap.size w w' := by
  obtain ⟨⟨a2, c2, rfl, -⟩, ⟨a3, c3, rfl, -⟩, ⟨a4, c4, rfl, -⟩, ⟨a5, c5, rfl, -⟩⟩ := hp
  unfold coB
  by_cases e1 : C.k = 1
  · rw [if_pos e1]; exact co_node C a2 a3 a4 a5 c2 c3 c4 c5 w e1 _ rfl
  rw [if_neg e1]
  by_cases e3 : C.k = 3
  · rw [if_pos e3]; exact co_task C a2 a3 a4 a5 c2 c3 c4 c5 w e3 _ rfl
  rw [if_neg e3]
  by_cases e5 : C.k = 5
  · rw [if_pos e5]; exact co_bind C a2 a3 a4 a5 c2 c3 c4 c5 w e5 _ rfl
  rw [if_neg e5]
  by_cases e2 : C.k = 2
  · rw [if_pos (.inl e2)]; exact co_2 C a2 a3 a4 a5 c2 c3 c4 c5 w e2 _ rfl
  by_cases e4 : C.k = 4
  · rw [if_pos (.inr (.inl e4))]; exact co_4 C a2 a3 a4 a5 c2 c3 c4 c5 w e4 _ rfl
  by_cases e6 : C.k = 6
  · rw [if_pos (.inr (.inr (.inl e6)))]; exact co_6 C a2 a3 a4 a5 c2 c3 c4 c5 w e6 _ rfl
  by_cases e7 : C.k = 7
  · rw [if_pos (.inr (.inr (.inr e7)))]; exact co_7 C a2 a3 a4 a5 c2 c3 c4 c5 w e7 _ rfl
  rw [if_neg (by rintro (h | h | h | h); exact e2 h; exact e4 h; exact e6 h; exact e7 h)]
  exact co_other C a2 a3 a4 a5 c2 c3 c4 c5 w e1 e2 e3 e4 e5 e6 e7
/-- Whether what an order's kind has is right. -/
def nE (n : Nd) : Nat := nodeE n.n n.z0 n.z1 n.z2 n.ls n.ts
def tE (n : Td) : Nat := taskE n.n n.g n.a n.z0 n.z1 n.z2 n.r n.ws n.bs
def rfB (c : Cd) : Bool := if c.k = 1 then decide (nE c.nd = 0) else if c.k = 3 then decide (tE c.td = 0) else if c.k = 5 then nameB c.na && nameB c.on else nameB c.na
set_option maxRecDepth 100000 in
set_option maxHeartbeats 2000000 in
theorem rf_node (C : Cd) (a2 a3 a4 a5 : Option Addr) (c2 c3 c4 c5 : Nat) (w : World) (hk : C.k = 1) (hs : C.nd.n.size ≤ maxLen) (h1 : Pairs w w.heap.size (.slice a2 C.nd.ls.length c2) C.nd.ls) (h2 : Pairs w w.heap.size (.slice a3 C.nd.ts.length c3) C.nd.ts) (r : Bool) (hr : r = decide (nE C.nd = 0)) : Calls Try.prog 35 #[.agg (orC C (.slice a2 C.nd.ls.length c2) (.slice a3 C.nd.ts.length c3) (.slice a4 C.td.ws.length c4) (.slice a5 C.td.bs.length c5)).toArray] w fun e w' => e = .returned (.bool r) ∧ Below w.heap.size w w' := by
  have HB0 : Hid (Below w.heap.size w (w.alloc (.cells (orC C (.slice a2 C.nd.ls.length c2) (.slice a3 C.nd.ts.length c3) (.slice a4 C.td.ws.length c4) (.slice a5 C.td.bs.length c5)).toArray 31))) := (Below.refl _ _).alloc (Nat.le_refl _) _
  have HX0 : Hid (Bxn (w.alloc (.cells (orC C (.slice a2 C.nd.ls.length c2) (.slice a3 C.nd.ts.length c3) (.slice a4 C.td.ws.length c4) (.slice a5 C.td.bs.length c5)).toArray 31)) w.heap.size [.int .u8 1, .string C.nd.n, .int .i64 C.nd.z0, .int .i64 C.nd.z1, .int .i64 C.nd.z2, .slice a2 C.nd.ls.length c2, .slice a3 C.nd.ts.length c3, .string C.td.n, .int .i64 C.td.z0, .int .i64 C.td.z1, .int .i64 C.td.z2, .slice a4 C.td.ws.length c4, .slice a5 C.td.bs.length c5, .string C.td.g, .string C.td.a, .int .i64 C.td.r, .string C.na, .string C.on, .int .u64 (C.fe : Nat)]) := by
    have e : orC C (.slice a2 C.nd.ls.length c2) (.slice a3 C.nd.ts.length c3) (.slice a4 C.td.ws.length c4) (.slice a5 C.td.bs.length c5) = [.int .u8 1, .string C.nd.n, .int .i64 C.nd.z0, .int .i64 C.nd.z1, .int .i64 C.nd.z2, .slice a2 C.nd.ls.length c2, .slice a3 C.nd.ts.length c3, .string C.td.n, .int .i64 C.td.z0, .int .i64 C.td.z1, .int .i64 C.td.z2, .slice a4 C.td.ws.length c4, .slice a5 C.td.bs.length c5, .string C.td.g, .string C.td.a, .int .i64 C.td.r, .string C.na, .string C.on, .int .u64 (C.fe : Nat)] := by
      unfold orC cdC
      rw [hk]; rfl
    show Bxn _ _ _
    rw [← e]
    exact Bxn.made w _ _
  obtain ⟨CS, hCS⟩ : ∃ CS, CS = (orC C (.slice a2 C.nd.ls.length c2) (.slice a3 C.nd.ts.length c3) (.slice a4 C.td.ws.length c4) (.slice a5 C.td.bs.length c5)).toArray := ⟨_, rfl⟩
  rw [← hCS] at HB0 HX0 ⊢
  clear hCS
  have K1 : Hid (∀ z, Below w.heap.size w z → Calls Try.prog 65 #[.agg #[.string C.nd.n, .int .i64 C.nd.z0, .int .i64 C.nd.z1, .int .i64 C.nd.z2, .slice a2 C.nd.ls.length c2, .slice a3 C.nd.ts.length c3]] z fun e w' => e = .returned (.int .i64 (nE C.nd : Nat)) ∧ Below z.heap.size z w') := fun z hb => node_any _ _ _ _ _ _ _ _ _ _ _ _ z hs (h1.ovr hb) (h2.ovr hb)
  clear h1 h2 hs
  go_enter Try.func35, Try.ntmps35
  go_upto_region 1 with fail
  generalize w.alloc (.cells CS 31) = W0 at *
  have k0 : W0.cell? ⟨w.heap.size, 0, none⟩ = some (.int .u8 1) := HX0.out.cell 0
  have k1 : W0.cell? ⟨w.heap.size, 1, none⟩ = some (.string C.nd.n) := HX0.out.cell 1
  have k2 : W0.cell? ⟨w.heap.size, 2, none⟩ = some (.int .i64 C.nd.z0) := HX0.out.cell 2
  have k3 : W0.cell? ⟨w.heap.size, 3, none⟩ = some (.int .i64 C.nd.z1) := HX0.out.cell 3
  have k4 : W0.cell? ⟨w.heap.size, 4, none⟩ = some (.int .i64 C.nd.z2) := HX0.out.cell 4
  have k5 : W0.cell? ⟨w.heap.size, 5, none⟩ = some (.slice a2 C.nd.ls.length c2) := HX0.out.cell 5
  have k6 : W0.cell? ⟨w.heap.size, 6, none⟩ = some (.slice a3 C.nd.ts.length c3) := HX0.out.cell 6
  generalize nE C.nd = q at *
  go_wp2_with fail
  refine (K1.out _ HB0.out).mono ?_
  rintro e w1 ⟨rfl, hb⟩
  have HB1 := Lib.hid (HB0.out.trans (hb.mono HB0.out.size))
  clear hb k0 k1 k2 k3 k4 k5 k6
  by_cases hq : q = 0
  · have HR : Hid (r = true) := hr.trans (decide_eq_true hq)
    clear hr
    subst hq
    go_wp2
    go_ret
    exact ⟨by rw [HR.out]; rfl, HB1.out⟩
  · have HR : Hid (r = false) := hr.trans (decide_eq_false hq)
    have m1 : ¬ ((q : Nat) : Int) = 0 := by omega
    have m2 : (((q : Nat) : Int) == 0) = false := by simpa using m1
    clear hr hq
    go_wp2
    go_ret
    exact ⟨by rw [HR.out]; rfl, HB1.out⟩
set_option maxRecDepth 100000 in
set_option maxHeartbeats 2000000 in
theorem rf_task (C : Cd) (a2 a3 a4 a5 : Option Addr) (c2 c3 c4 c5 : Nat) (w : World) (hk : C.k = 3) (hs : C.td.n.size ≤ maxLen ∧ C.td.g.size ≤ maxLen ∧ C.td.a.size ≤ maxLen) (h1 : Pairs w w.heap.size (.slice a4 C.td.ws.length c4) C.td.ws) (h2 : Pairs w w.heap.size (.slice a5 C.td.bs.length c5) C.td.bs) (r : Bool) (hr : r = decide (tE C.td = 0)) : Calls Try.prog 35 #[.agg (orC C (.slice a2 C.nd.ls.length c2) (.slice a3 C.nd.ts.length c3) (.slice a4 C.td.ws.length c4) (.slice a5 C.td.bs.length c5)).toArray] w fun e w' => e = .returned (.bool r) ∧ Below w.heap.size w w' := by
  have HB0 : Hid (Below w.heap.size w (w.alloc (.cells (orC C (.slice a2 C.nd.ls.length c2) (.slice a3 C.nd.ts.length c3) (.slice a4 C.td.ws.length c4) (.slice a5 C.td.bs.length c5)).toArray 31))) := (Below.refl _ _).alloc (Nat.le_refl _) _
  have HX0 : Hid (Bxn (w.alloc (.cells (orC C (.slice a2 C.nd.ls.length c2) (.slice a3 C.nd.ts.length c3) (.slice a4 C.td.ws.length c4) (.slice a5 C.td.bs.length c5)).toArray 31)) w.heap.size [.int .u8 3, .string C.nd.n, .int .i64 C.nd.z0, .int .i64 C.nd.z1, .int .i64 C.nd.z2, .slice a2 C.nd.ls.length c2, .slice a3 C.nd.ts.length c3, .string C.td.n, .int .i64 C.td.z0, .int .i64 C.td.z1, .int .i64 C.td.z2, .slice a4 C.td.ws.length c4, .slice a5 C.td.bs.length c5, .string C.td.g, .string C.td.a, .int .i64 C.td.r, .string C.na, .string C.on, .int .u64 (C.fe : Nat)]) := by
    have e : orC C (.slice a2 C.nd.ls.length c2) (.slice a3 C.nd.ts.length c3) (.slice a4 C.td.ws.length c4) (.slice a5 C.td.bs.length c5) = [.int .u8 3, .string C.nd.n, .int .i64 C.nd.z0, .int .i64 C.nd.z1, .int .i64 C.nd.z2, .slice a2 C.nd.ls.length c2, .slice a3 C.nd.ts.length c3, .string C.td.n, .int .i64 C.td.z0, .int .i64 C.td.z1, .int .i64 C.td.z2, .slice a4 C.td.ws.length c4, .slice a5 C.td.bs.length c5, .string C.td.g, .string C.td.a, .int .i64 C.td.r, .string C.na, .string C.on, .int .u64 (C.fe : Nat)] := by
      unfold orC cdC
      rw [hk]; rfl
    show Bxn _ _ _
    rw [← e]
    exact Bxn.made w _ _
  obtain ⟨CS, hCS⟩ : ∃ CS, CS = (orC C (.slice a2 C.nd.ls.length c2) (.slice a3 C.nd.ts.length c3) (.slice a4 C.td.ws.length c4) (.slice a5 C.td.bs.length c5)).toArray := ⟨_, rfl⟩
  rw [← hCS] at HB0 HX0 ⊢
  clear hCS
  have K1 : Hid (∀ z, Below w.heap.size w z → Calls Try.prog 66 #[.agg #[.string C.td.n, .int .i64 C.td.z0, .int .i64 C.td.z1, .int .i64 C.td.z2, .slice a4 C.td.ws.length c4, .slice a5 C.td.bs.length c5, .string C.td.g, .string C.td.a, .int .i64 C.td.r]] z fun e w' => e = .returned (.int .i64 (tE C.td : Nat)) ∧ Below z.heap.size z w') := fun z hb => task_any _ _ _ _ _ _ _ _ _ _ _ _ _ _ _ z hs (h1.ovr hb) (h2.ovr hb)
  clear h1 h2 hs
  go_enter Try.func35, Try.ntmps35
  go_upto_region 1 with fail
  generalize w.alloc (.cells CS 31) = W0 at *
  have k0 : W0.cell? ⟨w.heap.size, 0, none⟩ = some (.int .u8 3) := HX0.out.cell 0
  have k7 : W0.cell? ⟨w.heap.size, 7, none⟩ = some (.string C.td.n) := HX0.out.cell 7
  have k8 : W0.cell? ⟨w.heap.size, 8, none⟩ = some (.int .i64 C.td.z0) := HX0.out.cell 8
  have k9 : W0.cell? ⟨w.heap.size, 9, none⟩ = some (.int .i64 C.td.z1) := HX0.out.cell 9
  have k10 : W0.cell? ⟨w.heap.size, 10, none⟩ = some (.int .i64 C.td.z2) := HX0.out.cell 10
  have k11 : W0.cell? ⟨w.heap.size, 11, none⟩ = some (.slice a4 C.td.ws.length c4) := HX0.out.cell 11
  have k12 : W0.cell? ⟨w.heap.size, 12, none⟩ = some (.slice a5 C.td.bs.length c5) := HX0.out.cell 12
  have k13 : W0.cell? ⟨w.heap.size, 13, none⟩ = some (.string C.td.g) := HX0.out.cell 13
  have k14 : W0.cell? ⟨w.heap.size, 14, none⟩ = some (.string C.td.a) := HX0.out.cell 14
  have k15 : W0.cell? ⟨w.heap.size, 15, none⟩ = some (.int .i64 C.td.r) := HX0.out.cell 15
  generalize tE C.td = q at *
  go_wp2_with fail
  refine (K1.out _ HB0.out).mono ?_
  rintro e w1 ⟨rfl, hb⟩
  have HB1 := Lib.hid (HB0.out.trans (hb.mono HB0.out.size))
  clear hb k0 k7 k8 k9 k10 k11 k12 k13 k14 k15
  by_cases hq : q = 0
  · have HR : Hid (r = true) := hr.trans (decide_eq_true hq)
    clear hr
    subst hq
    go_wp2
    go_ret
    exact ⟨by rw [HR.out]; rfl, HB1.out⟩
  · have HR : Hid (r = false) := hr.trans (decide_eq_false hq)
    have m1 : ¬ ((q : Nat) : Int) = 0 := by omega
    have m2 : (((q : Nat) : Int) == 0) = false := by simpa using m1
    clear hr hq
    go_wp2
    go_ret
    exact ⟨by rw [HR.out]; rfl, HB1.out⟩
set_option maxRecDepth 100000 in
set_option maxHeartbeats 2000000 in
theorem rf_bind (C : Cd) (a2 a3 a4 a5 : Option Addr) (c2 c3 c4 c5 : Nat) (w : World) (hk : C.k = 5) (hs : C.na.size ≤ maxLen) (hs2 : C.on.size ≤ maxLen) (r : Bool) (hr : r = (nameB C.na && nameB C.on)) : Calls Try.prog 35 #[.agg (orC C (.slice a2 C.nd.ls.length c2) (.slice a3 C.nd.ts.length c3) (.slice a4 C.td.ws.length c4) (.slice a5 C.td.bs.length c5)).toArray] w fun e w' => e = .returned (.bool r) ∧ Below w.heap.size w w' := by
  have HB0 : Hid (Below w.heap.size w (w.alloc (.cells (orC C (.slice a2 C.nd.ls.length c2) (.slice a3 C.nd.ts.length c3) (.slice a4 C.td.ws.length c4) (.slice a5 C.td.bs.length c5)).toArray 31))) := (Below.refl _ _).alloc (Nat.le_refl _) _
  have HX0 : Hid (Bxn (w.alloc (.cells (orC C (.slice a2 C.nd.ls.length c2) (.slice a3 C.nd.ts.length c3) (.slice a4 C.td.ws.length c4) (.slice a5 C.td.bs.length c5)).toArray 31)) w.heap.size [.int .u8 5, .string C.nd.n, .int .i64 C.nd.z0, .int .i64 C.nd.z1, .int .i64 C.nd.z2, .slice a2 C.nd.ls.length c2, .slice a3 C.nd.ts.length c3, .string C.td.n, .int .i64 C.td.z0, .int .i64 C.td.z1, .int .i64 C.td.z2, .slice a4 C.td.ws.length c4, .slice a5 C.td.bs.length c5, .string C.td.g, .string C.td.a, .int .i64 C.td.r, .string C.na, .string C.on, .int .u64 (C.fe : Nat)]) := by
    have e : orC C (.slice a2 C.nd.ls.length c2) (.slice a3 C.nd.ts.length c3) (.slice a4 C.td.ws.length c4) (.slice a5 C.td.bs.length c5) = [.int .u8 5, .string C.nd.n, .int .i64 C.nd.z0, .int .i64 C.nd.z1, .int .i64 C.nd.z2, .slice a2 C.nd.ls.length c2, .slice a3 C.nd.ts.length c3, .string C.td.n, .int .i64 C.td.z0, .int .i64 C.td.z1, .int .i64 C.td.z2, .slice a4 C.td.ws.length c4, .slice a5 C.td.bs.length c5, .string C.td.g, .string C.td.a, .int .i64 C.td.r, .string C.na, .string C.on, .int .u64 (C.fe : Nat)] := by
      unfold orC cdC
      rw [hk]; rfl
    show Bxn _ _ _
    rw [← e]
    exact Bxn.made w _ _
  obtain ⟨CS, hCS⟩ : ∃ CS, CS = (orC C (.slice a2 C.nd.ls.length c2) (.slice a3 C.nd.ts.length c3) (.slice a4 C.td.ws.length c4) (.slice a5 C.td.bs.length c5)).toArray := ⟨_, rfl⟩
  rw [← hCS] at HB0 HX0 ⊢
  clear hCS
  have K1 := Lib.hid (fun z => name_any C.na z hs)
  have K2 := Lib.hid (fun z => name_any C.on z hs2)
  clear hs hs2
  go_enter Try.func35, Try.ntmps35
  go_upto_region 1 with fail
  generalize w.alloc (.cells CS 31) = W0 at *
  have k0 : W0.cell? ⟨w.heap.size, 0, none⟩ = some (.int .u8 5) := HX0.out.cell 0
  have k16 : W0.cell? ⟨w.heap.size, 16, none⟩ = some (.string C.na) := HX0.out.cell 16
  have k17 : W0.cell? ⟨w.heap.size, 17, none⟩ = some (.string C.on) := HX0.out.cell 17
  generalize nameB C.na = q1 at *
  generalize nameB C.on = q2 at *
  go_wp2_with fail
  refine (K1.out _).mono ?_
  rintro e w1 ⟨rfl, rfl⟩
  cases q1
  · have HR : Hid (r = false) := hr
    clear hr
    go_wp2
    go_ret
    exact ⟨by rw [HR.out]; rfl, HB0.out⟩
  · go_wp2_with fail
    refine (K2.out _).mono ?_
    rintro e w1 ⟨rfl, rfl⟩
    have HR : Hid (r = q2) := hr
    clear hr
    go_wp2
    go_ret
    exact ⟨by rw [HR.out]; rfl, HB0.out⟩
set_option maxRecDepth 100000 in
set_option maxHeartbeats 2000000 in
theorem rf_name (C : Cd) (a2 a3 a4 a5 : Option Addr) (c2 c3 c4 c5 : Nat) (w : World) (e1 : C.k ≠ 1) (e3 : C.k ≠ 3) (e5 : C.k ≠ 5) (hs : C.na.size ≤ maxLen) (r : Bool) (hr : r = nameB C.na) : Calls Try.prog 35 #[.agg (orC C (.slice a2 C.nd.ls.length c2) (.slice a3 C.nd.ts.length c3) (.slice a4 C.td.ws.length c4) (.slice a5 C.td.bs.length c5)).toArray] w fun e w' => e = .returned (.bool r) ∧ Below w.heap.size w w' := by
  have HB0 : Hid (Below w.heap.size w (w.alloc (.cells (orC C (.slice a2 C.nd.ls.length c2) (.slice a3 C.nd.ts.length c3) (.slice a4 C.td.ws.length c4) (.slice a5 C.td.bs.length c5)).toArray 31))) := (Below.refl _ _).alloc (Nat.le_refl _) _
  have HX0 : Hid (Bxn (w.alloc (.cells (orC C (.slice a2 C.nd.ls.length c2) (.slice a3 C.nd.ts.length c3) (.slice a4 C.td.ws.length c4) (.slice a5 C.td.bs.length c5)).toArray 31)) w.heap.size [.int .u8 (C.k : Nat), .string C.nd.n, .int .i64 C.nd.z0, .int .i64 C.nd.z1, .int .i64 C.nd.z2, .slice a2 C.nd.ls.length c2, .slice a3 C.nd.ts.length c3, .string C.td.n, .int .i64 C.td.z0, .int .i64 C.td.z1, .int .i64 C.td.z2, .slice a4 C.td.ws.length c4, .slice a5 C.td.bs.length c5, .string C.td.g, .string C.td.a, .int .i64 C.td.r, .string C.na, .string C.on, .int .u64 (C.fe : Nat)]) := by
    have e : orC C (.slice a2 C.nd.ls.length c2) (.slice a3 C.nd.ts.length c3) (.slice a4 C.td.ws.length c4) (.slice a5 C.td.bs.length c5) = [.int .u8 (C.k : Nat), .string C.nd.n, .int .i64 C.nd.z0, .int .i64 C.nd.z1, .int .i64 C.nd.z2, .slice a2 C.nd.ls.length c2, .slice a3 C.nd.ts.length c3, .string C.td.n, .int .i64 C.td.z0, .int .i64 C.td.z1, .int .i64 C.td.z2, .slice a4 C.td.ws.length c4, .slice a5 C.td.bs.length c5, .string C.td.g, .string C.td.a, .int .i64 C.td.r, .string C.na, .string C.on, .int .u64 (C.fe : Nat)] := by
      unfold orC cdC
      rfl
    show Bxn _ _ _
    rw [← e]
    exact Bxn.made w _ _
  obtain ⟨CS, hCS⟩ : ∃ CS, CS = (orC C (.slice a2 C.nd.ls.length c2) (.slice a3 C.nd.ts.length c3) (.slice a4 C.td.ws.length c4) (.slice a5 C.td.bs.length c5)).toArray := ⟨_, rfl⟩
  rw [← hCS] at HB0 HX0 ⊢
  clear hCS
  have K1 := Lib.hid (fun z => name_any C.na z hs)
  clear hs
  have h1 : ¬ ((C.k : Nat) : Int) = 1 := by omega
  have g1 : (((C.k : Nat) : Int) == 1) = false := by simpa using h1
  clear e1
  have h3 : ¬ ((C.k : Nat) : Int) = 3 := by omega
  have g3 : (((C.k : Nat) : Int) == 3) = false := by simpa using h3
  clear e3
  have h5 : ¬ ((C.k : Nat) : Int) = 5 := by omega
  have g5 : (((C.k : Nat) : Int) == 5) = false := by simpa using h5
  clear e5
  go_enter Try.func35, Try.ntmps35
  go_upto_region 1 with fail
  generalize w.alloc (.cells CS 31) = W0 at *
  have k0 : W0.cell? ⟨w.heap.size, 0, none⟩ = some (.int .u8 (C.k : Nat)) := HX0.out.cell 0
  have k16 : W0.cell? ⟨w.heap.size, 16, none⟩ = some (.string C.na) := HX0.out.cell 16
  rw [← hr] at K1
  go_wp2_with fail
  refine (K1.out _).mono ?_
  rintro e w1 ⟨rfl, rfl⟩
  clear hr
  go_wp2
  go_ret
  exact ⟨rfl, HB0.out⟩
/-- The names are no longer than may be. -/
structure Lens (c : Cd) : Prop where
  nn : c.nd.n.size ≤ maxLen
  tn : c.td.n.size ≤ maxLen
  tg : c.td.g.size ≤ maxLen
  ta : c.td.a.size ≤ maxLen
  na : c.na.size ≤ maxLen
  on : c.on.size ≤ maxLen
theorem rightFields_any (C : Cd) (v2 v3 v4 v5 : Value) (w : World) (hp : PrsIn w w.heap.size C v2 v3 v4 v5) (hl : Lens C) :
    Calls Try.prog 35 #[.agg (orC C v2 v3 v4 v5).toArray] w fun e w' => e = .returned (.bool (rfB C)) ∧ Below w.heap.size w w' := by
  obtain ⟨h2, h3, h4, h5⟩ := hp
  have s2 := h2
  have s3 := h3
  have s4 := h4
  have s5 := h5
  obtain ⟨a2, c2, rfl, -⟩ := s2
  obtain ⟨a3, c3, rfl, -⟩ := s3
  obtain ⟨a4, c4, rfl, -⟩ := s4
  obtain ⟨a5, c5, rfl, -⟩ := s5
  unfold rfB
  by_cases e1 : C.k = 1
  · rw [if_pos e1]; exact rf_node C a2 a3 a4 a5 c2 c3 c4 c5 w e1 hl.nn h2 h3 _ rfl
  rw [if_neg e1]
  by_cases e3 : C.k = 3
  · rw [if_pos e3]; exact rf_task C a2 a3 a4 a5 c2 c3 c4 c5 w e3 ⟨hl.tn, hl.tg, hl.ta⟩ h4 h5 _ rfl
  rw [if_neg e3]
  by_cases e5 : C.k = 5
  · rw [if_pos e5]; exact rf_bind C a2 a3 a4 a5 c2 c3 c4 c5 w e5 hl.na hl.on _ rfl
  rw [if_neg e5]
  exact rf_name C a2 a3 a4 a5 c2 c3 c4 c5 w e1 e3 e5 hl.na _ rfl
end Hd
end Go.Proofs.Ythlchdlgafincaa
