/-
  WALK of the law on a node with more used.
-/
import Derived.Test.YthnajkpnchaciaaScoreOf
namespace Go.Proofs.Ythnajkpnchaciaa
open Go.RowKit
namespace Rg
/-- What is used then of a kind. -/
def moreU (u m : Int) : Int := if (0 < m ∧ m < 35184372088832) ∧ (0 ≤ u ∧ u < 35184372088832) then u + m else u
def moreK (b k : Nat) (u m : Int) : Int := if b < k then moreU u m else u
theorem moreU_up (u m : Int) : u ≤ moreU u m := by unfold moreU; split <;> omega
theorem moreU_yes (u m : Int) (h1 : 0 < m) (h2 : m < 35184372088832) (h3 : 0 ≤ u) (h4 : u < 35184372088832) : moreU u m = u + m := if_pos ⟨⟨h1, h2⟩, h3, h4⟩
theorem moreU_no1 (u m : Int) (h : ¬ 0 < m) : moreU u m = u := if_neg fun e => h e.1.1
theorem moreU_no2 (u m : Int) (h : ¬ m < 35184372088832) : moreU u m = u := if_neg fun e => h e.1.2
theorem moreU_no3 (u m : Int) (h : ¬ 0 ≤ u) : moreU u m = u := if_neg fun e => h e.2.1
theorem moreU_no4 (u m : Int) (h : ¬ u < 35184372088832) : moreU u m = u := if_neg fun e => h e.2.2
theorem sumS_up (x0 x1 x2 u0 u1 u2 v0 v1 v2 n0 n1 n2 : Int) (h0 : u0 ≤ v0) (h1 : u1 ≤ v1) (h2 : u2 ≤ v2) : sumS x0 x1 x2 u0 u1 u2 n0 n1 n2 ≤ sumS x0 x1 x2 v0 v1 v2 n0 n1 n2 := by
  have a := kS_up x0 u0 v0 n0 h0
  have b := kS_up x1 u1 v1 n1 h1
  have c := kS_up x2 u2 v2 n2 h2
  unfold sumS
  omega
theorem boxed3L {w w1 : World} {a b c : Array Value} {t u v : TypeId} (hb : Below (((w.alloc (.cells a t)).alloc (.cells b u)).alloc (.cells c v)).heap.size (((w.alloc (.cells a t)).alloc (.cells b u)).alloc (.cells c v)) w1) :
    (∀ i, w1.cell? ⟨w.heap.size, i, none⟩ = a[i]?) ∧ (∀ i, w1.cell? ⟨w.heap.size + 1, i, none⟩ = b[i]?) ∧ (∀ i, w1.cell? ⟨w.heap.size + 2, i, none⟩ = c[i]?) ∧ Below w.heap.size w w1 ∧ w.heap.size + 3 ≤ w1.heap.size := by
  refine ⟨fun i => ?_, fun i => ?_, fun i => ?_, ((two w _ _).alloc (by simp; omega) _).trans (hb.mono (by simp; omega)), by have := hb.size; simp at this; omega⟩
  · rw [hb.cell (by simp <;> omega)]
    simp [go_sem]
  · rw [hb.cell (by simp <;> omega)]
    simp [go_sem]
  · rw [hb.cell (by simp)]
    simp [go_sem]
/-- The load that is made: in block g, of which the first k kinds are done. -/
def MoreIs (w1 z : World) (g k : Nat) (xn : ByteArray) (x0 x1 x2 : Int) (xla xta : Option Addr) (xln xlc xtn xtc : Nat) (xu0 xu1 xu2 : Int) (m0 m1 m2 : Int) : Prop :=
  z.cell? ⟨g, 0, none⟩ = some (.string xn) ∧ z.cell? ⟨g, 1, none⟩ = some (.int .i64 x0) ∧ z.cell? ⟨g, 2, none⟩ = some (.int .i64 x1) ∧ z.cell? ⟨g, 3, none⟩ = some (.int .i64 x2) ∧ z.cell? ⟨g, 4, none⟩ = some (.slice xla xln xlc) ∧ z.cell? ⟨g, 5, none⟩ = some (.slice xta xtn xtc) ∧
  z.cell? ⟨g, 6, none⟩ = some (.int .i64 (moreK 0 k xu0 m0)) ∧ z.cell? ⟨g, 7, none⟩ = some (.int .i64 (moreK 1 k xu1 m1)) ∧ z.cell? ⟨g, 8, none⟩ = some (.int .i64 (moreK 2 k xu2 m2)) ∧
  (∀ i, z.frozen? ⟨g, i, none⟩ = false) ∧ g + 1 ≤ z.heap.size ∧ Below g w1 z
theorem MoreIs.same {w1 z : World} {g k j : Nat} {xn : ByteArray} {x0 x1 x2 : Int} {xla xta : Option Addr} {xln xlc xtn xtc : Nat} {xu0 xu1 xu2 : Int} {m0 m1 m2 : Int} (h : MoreIs w1 z g k xn x0 x1 x2 xla xta xln xlc xtn xtc xu0 xu1 xu2 m0 m1 m2) (h0 : moreK 0 j xu0 m0 = moreK 0 k xu0 m0) (h1 : moreK 1 j xu1 m1 = moreK 1 k xu1 m1) (h2 : moreK 2 j xu2 m2 = moreK 2 k xu2 m2) : MoreIs w1 z g j xn x0 x1 x2 xla xta xln xlc xtn xtc xu0 xu1 xu2 m0 m1 m2 := by
  unfold MoreIs at *
  rw [h0, h1, h2]
  exact h
theorem MoreIs.set0 {w1 z : World} {g : Nat} {xn : ByteArray} {x0 x1 x2 : Int} {xla xta : Option Addr} {xln xlc xtn xtc : Nat} {xu0 xu1 xu2 : Int} {m0 m1 m2 v : Int} (h : MoreIs w1 z g 0 xn x0 x1 x2 xla xta xln xlc xtn xtc xu0 xu1 xu2 m0 m1 m2) (hv : v = moreK 0 1 xu0 m0) : MoreIs w1 (z.setCell ⟨g, 6, none⟩ (.int .i64 v)) g 1 xn x0 x1 x2 xla xta xln xlc xtn xtc xu0 xu1 xu2 m0 m1 m2 := by
  obtain ⟨d0, d1, d2, d3, d4, d5, d6, d7, d8, hf, hz, hb⟩ := h
  exact ⟨(World.cell?_setCell_other _ _ _ _ (by simp)).trans d0, (World.cell?_setCell_other _ _ _ _ (by simp)).trans d1, (World.cell?_setCell_other _ _ _ _ (by simp)).trans d2, (World.cell?_setCell_other _ _ _ _ (by simp)).trans d3, (World.cell?_setCell_other _ _ _ _ (by simp)).trans d4, (World.cell?_setCell_other _ _ _ _ (by simp)).trans d5, (World.cell?_setCell_same _ _ _ d6).trans (by rw [hv]), (World.cell?_setCell_other _ _ _ _ (by simp)).trans (d7.trans (by rw [show moreK 1 1 xu1 m1 = moreK 1 0 xu1 m1 from rfl])), (World.cell?_setCell_other _ _ _ _ (by simp)).trans (d8.trans (by rw [show moreK 2 1 xu2 m2 = moreK 2 0 xu2 m2 from rfl])), fun i => (World.frozen?_setCell _ _ _ _).trans (hf i), by simpa using hz, bsetL hb (Nat.le_refl _) _⟩
theorem MoreIs.set1 {w1 z : World} {g : Nat} {xn : ByteArray} {x0 x1 x2 : Int} {xla xta : Option Addr} {xln xlc xtn xtc : Nat} {xu0 xu1 xu2 : Int} {m0 m1 m2 v : Int} (h : MoreIs w1 z g 1 xn x0 x1 x2 xla xta xln xlc xtn xtc xu0 xu1 xu2 m0 m1 m2) (hv : v = moreK 1 2 xu1 m1) : MoreIs w1 (z.setCell ⟨g, 7, none⟩ (.int .i64 v)) g 2 xn x0 x1 x2 xla xta xln xlc xtn xtc xu0 xu1 xu2 m0 m1 m2 := by
  obtain ⟨d0, d1, d2, d3, d4, d5, d6, d7, d8, hf, hz, hb⟩ := h
  exact ⟨(World.cell?_setCell_other _ _ _ _ (by simp)).trans d0, (World.cell?_setCell_other _ _ _ _ (by simp)).trans d1, (World.cell?_setCell_other _ _ _ _ (by simp)).trans d2, (World.cell?_setCell_other _ _ _ _ (by simp)).trans d3, (World.cell?_setCell_other _ _ _ _ (by simp)).trans d4, (World.cell?_setCell_other _ _ _ _ (by simp)).trans d5, (World.cell?_setCell_other _ _ _ _ (by simp)).trans (d6.trans (by rw [show moreK 0 2 xu0 m0 = moreK 0 1 xu0 m0 from rfl])), (World.cell?_setCell_same _ _ _ d7).trans (by rw [hv]), (World.cell?_setCell_other _ _ _ _ (by simp)).trans (d8.trans (by rw [show moreK 2 2 xu2 m2 = moreK 2 1 xu2 m2 from rfl])), fun i => (World.frozen?_setCell _ _ _ _).trans (hf i), by simpa using hz, bsetL hb (Nat.le_refl _) _⟩
theorem MoreIs.set2 {w1 z : World} {g : Nat} {xn : ByteArray} {x0 x1 x2 : Int} {xla xta : Option Addr} {xln xlc xtn xtc : Nat} {xu0 xu1 xu2 : Int} {m0 m1 m2 v : Int} (h : MoreIs w1 z g 2 xn x0 x1 x2 xla xta xln xlc xtn xtc xu0 xu1 xu2 m0 m1 m2) (hv : v = moreK 2 3 xu2 m2) : MoreIs w1 (z.setCell ⟨g, 8, none⟩ (.int .i64 v)) g 3 xn x0 x1 x2 xla xta xln xlc xtn xtc xu0 xu1 xu2 m0 m1 m2 := by
  obtain ⟨d0, d1, d2, d3, d4, d5, d6, d7, d8, hf, hz, hb⟩ := h
  exact ⟨(World.cell?_setCell_other _ _ _ _ (by simp)).trans d0, (World.cell?_setCell_other _ _ _ _ (by simp)).trans d1, (World.cell?_setCell_other _ _ _ _ (by simp)).trans d2, (World.cell?_setCell_other _ _ _ _ (by simp)).trans d3, (World.cell?_setCell_other _ _ _ _ (by simp)).trans d4, (World.cell?_setCell_other _ _ _ _ (by simp)).trans d5, (World.cell?_setCell_other _ _ _ _ (by simp)).trans (d6.trans (by rw [show moreK 0 3 xu0 m0 = moreK 0 2 xu0 m0 from rfl])), (World.cell?_setCell_other _ _ _ _ (by simp)).trans (d7.trans (by rw [show moreK 1 3 xu1 m1 = moreK 1 2 xu1 m1 from rfl])), (World.cell?_setCell_same _ _ _ d8).trans (by rw [hv]), fun i => (World.frozen?_setCell _ _ _ _).trans (hf i), by simpa using hz, bsetL hb (Nat.le_refl _) _⟩
set_option maxRecDepth 100000 in
set_option maxHeartbeats 8000000 in
theorem scoreFuller (yn yg ya : ByteArray) (y0 y1 y2 yr : Int) (ywa yba : Option Addr) (ywn ywc ybn ybc : Nat) (xn : ByteArray) (x0 x1 x2 : Int) (xla xta : Option Addr) (xln xlc xtn xtc : Nat) (xu0 xu1 xu2 : Int) (m0 m1 m2 : Int) (ws bs ls ts : List Pr) (w : World) (hx : xn.size ≤ maxLen) (hy : yn.size ≤ maxLen ∧ yg.size ≤ maxLen ∧ ya.size ≤ maxLen)
    (h1 : Pairs w w.heap.size (.slice ywa ywn ywc) ws) (h2 : Pairs w w.heap.size (.slice yba ybn ybc) bs) (h3 : Pairs w w.heap.size (.slice xla xln xlc) ls) (h4 : Pairs w w.heap.size (.slice xta xtn xtc) ts) :
    Calls Try.prog 7 #[.agg #[.string yn, .int .i64 y0, .int .i64 y1, .int .i64 y2, .slice ywa ywn ywc, .slice yba ybn ybc, .string yg, .string ya, .int .i64 yr], .agg #[.string xn, .int .i64 x0, .int .i64 x1, .int .i64 x2, .slice xla xln xlc, .slice xta xtn xtc, .int .i64 xu0, .int .i64 xu1, .int .i64 xu2], .agg #[.int .i64 m0, .int .i64 m1, .int .i64 m2]] w fun e w' => e = .returned (.bool true) ∧ Below w.heap.size w w' := by
  have g1 := fun z (hb : Below w.heap.size w z) => score_any yn yg ya y0 y1 y2 yr ywa yba ywn ywc ybn ybc xn x0 x1 x2 xla xta xln xlc xtn xtc xu0 xu1 xu2 ws bs ls ts z hx hy (h1.ovr hb) (h2.ovr hb) (h3.ovr hb) (h4.ovr hb)
  have g2 := fun z (hb : Below w.heap.size w z) => score_any yn yg ya y0 y1 y2 yr ywa yba ywn ywc ybn ybc xn x0 x1 x2 xla xta xln xlc xtn xtc (moreU xu0 m0) (moreU xu1 m1) (moreU xu2 m2) ws bs ls ts z hx hy (h1.ovr hb) (h2.ovr hb) (h3.ovr hb) (h4.ovr hb)
  have HUP := Lib.hid (sumS_up x0 x1 x2 xu0 xu1 xu2 (moreU xu0 m0) (moreU xu1 m1) (moreU xu2 m2) y0 y1 y2 (moreU_up _ _) (moreU_up _ _) (moreU_up _ _))
  generalize fitE (taskE yn yg ya y0 y1 y2 yr ws bs) (loadE xn x0 x1 x2 ls ts xu0 xu1 xu2) (suitB ws ls ts bs) (roomB x0 x1 x2 xu0 xu1 xu2 y0 y1 y2) = er at g1
  generalize fitE (taskE yn yg ya y0 y1 y2 yr ws bs) (loadE xn x0 x1 x2 ls ts (moreU xu0 m0) (moreU xu1 m1) (moreU xu2 m2)) (suitB ws ls ts bs) (roomB x0 x1 x2 (moreU xu0 m0) (moreU xu1 m1) (moreU xu2 m2) y0 y1 y2) = er2 at g2
  generalize sumS x0 x1 x2 xu0 xu1 xu2 y0 y1 y2 = sv at g1 HUP
  generalize sumS x0 x1 x2 (moreU xu0 m0) (moreU xu1 m1) (moreU xu2 m2) y0 y1 y2 = sv2 at g2 HUP
  unfold ScoreIs at g1 g2
  have G1 := Lib.hid g1
  have G2 := Lib.hid g2
  have HB0 := Lib.hid (Below.refl (((w.alloc (.cells #[.string yn, .int .i64 y0, .int .i64 y1, .int .i64 y2, .slice ywa ywn ywc, .slice yba ybn ybc, .string yg, .string ya, .int .i64 yr] 25)).alloc (.cells #[.string xn, .int .i64 x0, .int .i64 x1, .int .i64 x2, .slice xla xln xlc, .slice xta xtn xtc, .int .i64 xu0, .int .i64 xu1, .int .i64 xu2] 29)).alloc (.cells #[.int .i64 m0, .int .i64 m1, .int .i64 m2] 22)).heap.size (((w.alloc (.cells #[.string yn, .int .i64 y0, .int .i64 y1, .int .i64 y2, .slice ywa ywn ywc, .slice yba ybn ybc, .string yg, .string ya, .int .i64 yr] 25)).alloc (.cells #[.string xn, .int .i64 x0, .int .i64 x1, .int .i64 x2, .slice xla xln xlc, .slice xta xtn xtc, .int .i64 xu0, .int .i64 xu1, .int .i64 xu2] 29)).alloc (.cells #[.int .i64 m0, .int .i64 m1, .int .i64 m2] 22)))
  have A0 := arr0 m0 m1 m2
  have A1 := arr1 m0 m1 m2
  have A2 := arr2 m0 m1 m2
  clear g1 g2 h1 h2 h3 h4 hx hy
  go_enter Try.func7, Try.ntmps7
  go_wp2_with fail
  refine (lives_true _).mono ?_
  rintro e w1 ⟨rfl, hb⟩
  have HB1 := Lib.hid (HB0.out.trans (hb.mono HB0.out.size))
  clear hb
  obtain ⟨c0, c1, c2, hbw, hz1⟩ := boxed3L HB1.out
  have HW1 := Lib.hid hbw
  clear hbw
  go_wp2_with fail
  refine (G1.out _ HW1.out).mono ?_
  rintro e w2 ⟨rfl, hb⟩
  have HB2 := Lib.hid (HB1.out.trans (hb.mono HB1.out.size))
  clear hb c0 c1 c2 hz1
  obtain ⟨c0, c1, c2, hbw, hz2⟩ := boxed3L HB2.out
  have HW2 := Lib.hid hbw
  have C0 := Lib.hid c0
  have q2 : ∀ o i, (w2.alloc o).cell? ⟨w.heap.size + 2, i, none⟩ = #[.int .i64 m0, .int .i64 m1, .int .i64 m2][i]? := fun o i => by rw [World.cell?_alloc_lt _ _ _ (by show w.heap.size + 2 < _; omega)]; exact c2 i
  clear hbw c0 c2 HB0 HB1 HB2 HW1 G1
  go_wp2
  clear c1 q2
  go_loopg [24] 3 (fun g i wx => ∃ k : Nat, k + g = 3 ∧ i = .int .i64 k ∧ Aside (MoreIs w2 wx w2.heap.size k xn x0 x1 x2 xla xta xln xlc xtn xtc xu0 xu1 xu2 m0 m1 m2))
  case atStart => exact ⟨0, by omega, rfl, by
    show MoreIs _ _ _ _ _ _ _ _ _ _ _ _ _ _ _ _ _ _ _ _
    refine ⟨?_, ?_, ?_, ?_, ?_, ?_, ?_, ?_, ?_, ?_, by simp, one_ w2 _⟩ <;> simp [go_sem, moreK]⟩
  case round =>
    obtain ⟨k, hkg, rfl, HA⟩ := hrel
    cases gk with
    | zero =>
      obtain rfl : k = 3 := by omega
      have hA : MoreIs w2 wr w2.heap.size 3 xn x0 x1 x2 xla xta xln xlc xtn xtc xu0 xu1 xu2 m0 m1 m2 := HA.out
      have e0 : moreK 0 3 xu0 m0 = moreU xu0 m0 := rfl
      have e1 : moreK 1 3 xu1 m1 = moreU xu1 m1 := rfl
      have e2 : moreK 2 3 xu2 m2 = moreU xu2 m2 := rfl
      unfold MoreIs at hA
      rw [e0, e1, e2] at hA
      obtain ⟨d0, d1, d2, d3, d4, d5, d6, d7, d8, -, hzr, hbx⟩ := hA
      have t0 : ∀ i, wr.cell? ⟨w.heap.size, i, none⟩ = #[.string yn, .int .i64 y0, .int .i64 y1, .int .i64 y2, .slice ywa ywn ywc, .slice yba ybn ybc, .string yg, .string ya, .int .i64 yr][i]? := fun i => (hbx.cell (by show w.heap.size < _; omega)).trans (C0.out i)
      have HWR := Lib.hid (HW2.out.trans (hbx.mono (by omega)))
      clear hbx hkg e0 e1 e2 HA
      go_wp2_with fail
      refine (G2.out _ HWR.out).mono ?_
      rintro e w3 ⟨rfl, hb⟩
      have HW3 := Lib.hid (HWR.out.trans (hb.mono (by omega)))
      clear hb d0 d1 d2 d3 d4 d5 d6 d7 d8 t0
      by_cases he1 : er = 0
      · by_cases he2 : er2 = 0
        · subst he1 he2
          have f1 : fitV 0 sv = sv := if_pos rfl
          have f2 : fitV 0 sv2 = sv2 := if_pos rfl
          have hup := HUP.out
          go_wp2
          go_ret
          exact ⟨by simp <;> omega, HW3.out⟩
        · subst he1
          have hn : ¬ (er2 : Int) = 0 := by omega
          go_wp2
          go_ret
          exact ⟨by simp <;> omega, HW3.out⟩
      · have hn : ¬ (er : Int) = 0 := by omega
        go_wp2
        go_ret
        exact ⟨by simp <;> omega, HW3.out⟩
    | succ g =>
      have HG := Lib.hid hkg
      have h3 : k = 0 ∨ k = 1 ∨ k = 2 := by omega
      clear hkg
      rcases h3 with rfl | rfl | rfl
      · have hA : MoreIs w2 wr w2.heap.size 0 xn x0 x1 x2 xla xta xln xlc xtn xtc xu0 xu1 xu2 m0 m1 m2 := HA.out
        have HM : Hid (moreU xu0 m0 = xu0 → MoreIs w2 wr w2.heap.size 1 xn x0 x1 x2 xla xta xln xlc xtn xtc xu0 xu1 xu2 m0 m1 m2) := fun h => hA.same (by show moreU xu0 m0 = xu0; exact h) rfl rfl
        have HS : Hid (∀ v : Int, v = moreU xu0 m0 → MoreIs w2 (wr.setCell ⟨w2.heap.size, 6, none⟩ (.int .i64 v)) w2.heap.size 1 xn x0 x1 x2 xla xta xln xlc xtn xtc xu0 xu1 xu2 m0 m1 m2) := fun v h => hA.set0 (h.trans rfl)
        obtain ⟨-, -, -, -, -, -, d6, d7, d8, hfr, hzr, -⟩ := hA
        have dk : wr.cell? ⟨w2.heap.size, 6, none⟩ = some (.int .i64 xu0) := d6
        have hf := hfr 6
        clear d6 d7 d8 hfr HA
        by_cases q1 : 0 < m0
        · by_cases q2 : m0 < 35184372088832
          · by_cases q3 : 0 ≤ xu0
            · by_cases q4 : xu0 < 35184372088832
              · have HN := Lib.hid (moreU_yes xu0 m0 q1 q2 q3 q4)
                go_wp2
                go_roundg g
                case measure => omega
                case rel => exact ⟨1, by have := HG.out; omega, rfl, HS.out _ (by rw [HN.out])⟩
              · have HN := Lib.hid (moreU_no4 xu0 m0 q4)
                have q4' : decide (xu0 < 35184372088832) = false := by simpa using q4
                go_wp2
                go_roundg g
                case measure => omega
                case rel => exact ⟨1, by have := HG.out; omega, rfl, HM.out HN.out⟩
            · have HN := Lib.hid (moreU_no3 xu0 m0 q3)
              have q3' : decide (0 ≤ xu0) = false := by simpa using q3
              go_wp2
              go_roundg g
              case measure => omega
              case rel => exact ⟨1, by have := HG.out; omega, rfl, HM.out HN.out⟩
          · have HN := Lib.hid (moreU_no2 xu0 m0 q2)
            have q2' : decide (m0 < 35184372088832) = false := by simpa using q2
            go_wp2
            go_roundg g
            case measure => omega
            case rel => exact ⟨1, by have := HG.out; omega, rfl, HM.out HN.out⟩
        · have HN := Lib.hid (moreU_no1 xu0 m0 q1)
          have q1' : decide (0 < m0) = false := by simpa using q1
          go_wp2
          go_roundg g
          case measure => omega
          case rel => exact ⟨1, by have := HG.out; omega, rfl, HM.out HN.out⟩
      · have hA : MoreIs w2 wr w2.heap.size 1 xn x0 x1 x2 xla xta xln xlc xtn xtc xu0 xu1 xu2 m0 m1 m2 := HA.out
        have HM : Hid (moreU xu1 m1 = xu1 → MoreIs w2 wr w2.heap.size 2 xn x0 x1 x2 xla xta xln xlc xtn xtc xu0 xu1 xu2 m0 m1 m2) := fun h => hA.same rfl (by show moreU xu1 m1 = xu1; exact h) rfl
        have HS : Hid (∀ v : Int, v = moreU xu1 m1 → MoreIs w2 (wr.setCell ⟨w2.heap.size, 7, none⟩ (.int .i64 v)) w2.heap.size 2 xn x0 x1 x2 xla xta xln xlc xtn xtc xu0 xu1 xu2 m0 m1 m2) := fun v h => hA.set1 (h.trans rfl)
        obtain ⟨-, -, -, -, -, -, d6, d7, d8, hfr, hzr, -⟩ := hA
        have dk : wr.cell? ⟨w2.heap.size, 7, none⟩ = some (.int .i64 xu1) := d7
        have hf := hfr 7
        clear d6 d7 d8 hfr HA
        by_cases q1 : 0 < m1
        · by_cases q2 : m1 < 35184372088832
          · by_cases q3 : 0 ≤ xu1
            · by_cases q4 : xu1 < 35184372088832
              · have HN := Lib.hid (moreU_yes xu1 m1 q1 q2 q3 q4)
                go_wp2
                go_roundg g
                case measure => omega
                case rel => exact ⟨2, by have := HG.out; omega, rfl, HS.out _ (by rw [HN.out])⟩
              · have HN := Lib.hid (moreU_no4 xu1 m1 q4)
                have q4' : decide (xu1 < 35184372088832) = false := by simpa using q4
                go_wp2
                go_roundg g
                case measure => omega
                case rel => exact ⟨2, by have := HG.out; omega, rfl, HM.out HN.out⟩
            · have HN := Lib.hid (moreU_no3 xu1 m1 q3)
              have q3' : decide (0 ≤ xu1) = false := by simpa using q3
              go_wp2
              go_roundg g
              case measure => omega
              case rel => exact ⟨2, by have := HG.out; omega, rfl, HM.out HN.out⟩
          · have HN := Lib.hid (moreU_no2 xu1 m1 q2)
            have q2' : decide (m1 < 35184372088832) = false := by simpa using q2
            go_wp2
            go_roundg g
            case measure => omega
            case rel => exact ⟨2, by have := HG.out; omega, rfl, HM.out HN.out⟩
        · have HN := Lib.hid (moreU_no1 xu1 m1 q1)
          have q1' : decide (0 < m1) = false := by simpa using q1
          go_wp2
          go_roundg g
          case measure => omega
          case rel => exact ⟨2, by have := HG.out; omega, rfl, HM.out HN.out⟩
      · have hA : MoreIs w2 wr w2.heap.size 2 xn x0 x1 x2 xla xta xln xlc xtn xtc xu0 xu1 xu2 m0 m1 m2 := HA.out
        have HM : Hid (moreU xu2 m2 = xu2 → MoreIs w2 wr w2.heap.size 3 xn x0 x1 x2 xla xta xln xlc xtn xtc xu0 xu1 xu2 m0 m1 m2) := fun h => hA.same rfl rfl (by show moreU xu2 m2 = xu2; exact h)
        have HS : Hid (∀ v : Int, v = moreU xu2 m2 → MoreIs w2 (wr.setCell ⟨w2.heap.size, 8, none⟩ (.int .i64 v)) w2.heap.size 3 xn x0 x1 x2 xla xta xln xlc xtn xtc xu0 xu1 xu2 m0 m1 m2) := fun v h => hA.set2 (h.trans rfl)
        obtain ⟨-, -, -, -, -, -, d6, d7, d8, hfr, hzr, -⟩ := hA
        have dk : wr.cell? ⟨w2.heap.size, 8, none⟩ = some (.int .i64 xu2) := d8
        have hf := hfr 8
        clear d6 d7 d8 hfr HA
        by_cases q1 : 0 < m2
        · by_cases q2 : m2 < 35184372088832
          · by_cases q3 : 0 ≤ xu2
            · by_cases q4 : xu2 < 35184372088832
              · have HN := Lib.hid (moreU_yes xu2 m2 q1 q2 q3 q4)
                go_wp2
                go_roundg g
                case measure => omega
                case rel => exact ⟨3, by have := HG.out; omega, rfl, HS.out _ (by rw [HN.out])⟩
              · have HN := Lib.hid (moreU_no4 xu2 m2 q4)
                have q4' : decide (xu2 < 35184372088832) = false := by simpa using q4
                go_wp2
                go_roundg g
                case measure => omega
                case rel => exact ⟨3, by have := HG.out; omega, rfl, HM.out HN.out⟩
            · have HN := Lib.hid (moreU_no3 xu2 m2 q3)
              have q3' : decide (0 ≤ xu2) = false := by simpa using q3
              go_wp2
              go_roundg g
              case measure => omega
              case rel => exact ⟨3, by have := HG.out; omega, rfl, HM.out HN.out⟩
          · have HN := Lib.hid (moreU_no2 xu2 m2 q2)
            have q2' : decide (m2 < 35184372088832) = false := by simpa using q2
            go_wp2
            go_roundg g
            case measure => omega
            case rel => exact ⟨3, by have := HG.out; omega, rfl, HM.out HN.out⟩
        · have HN := Lib.hid (moreU_no1 xu2 m2 q1)
          have q1' : decide (0 < m2) = false := by simpa using q1
          go_wp2
          go_roundg g
          case measure => omega
          case rel => exact ⟨3, by have := HG.out; omega, rfl, HM.out HN.out⟩
end Rg
end Go.Proofs.Ythnajkpnchaciaa
