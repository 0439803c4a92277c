/-
  WHETHER TWO ORDERS, two commands are one: gafferref08.SameOrder, gafferref09.Same.
-/
import Derived.Test.YthlchdlgafincaaBookSame
import Derived.Test.YthlchdlgafincaaOrdCheck
namespace Go.Proofs.Ythlchdlgafincaa
open Go.RowKit
namespace Hd
open PM Hc Rg
set_option maxRecDepth 100000 in
set_option maxHeartbeats 4000000 in
theorem same_order0 (C D : Cd) (p2 p3 p4 p5 q2 q3 q4 q5 : Option Addr) (pc2 pc3 pc4 pc5 qc2 qc3 qc4 qc5 : Nat) (w : World) (hx : PrsIn w w.heap.size C (.slice p2 C.nd.ls.length pc2) (.slice p3 C.nd.ts.length pc3) (.slice p4 C.td.ws.length pc4) (.slice p5 C.td.bs.length pc5)) (hy : PrsIn w w.heap.size D (.slice q2 D.nd.ls.length qc2) (.slice q3 D.nd.ts.length qc3) (.slice q4 D.td.ws.length qc4) (.slice q5 D.td.bs.length qc5)) (r : Bool) (hr : r = (smN C.k D.k && (smNd C.nd D.nd && (smTd C.td D.td && (smS C.na D.na && (smS C.on D.on && (smN C.fe D.fe))))))) : Calls Try.prog 33 #[.agg #[.int .u8 (C.k : Nat), .string C.nd.n, .int .i64 C.nd.z0, .int .i64 C.nd.z1, .int .i64 C.nd.z2, .slice p2 C.nd.ls.length pc2, .slice p3 C.nd.ts.length pc3, .string C.td.n, .int .i64 C.td.z0, .int .i64 C.td.z1, .int .i64 C.td.z2, .slice p4 C.td.ws.length pc4, .slice p5 C.td.bs.length pc5, .string C.td.g, .string C.td.a, .int .i64 C.td.r, .string C.na, .string C.on, .int .u64 (C.fe : Nat)], .agg #[.int .u8 (D.k : Nat), .string D.nd.n, .int .i64 D.nd.z0, .int .i64 D.nd.z1, .int .i64 D.nd.z2, .slice q2 D.nd.ls.length qc2, .slice q3 D.nd.ts.length qc3, .string D.td.n, .int .i64 D.td.z0, .int .i64 D.td.z1, .int .i64 D.td.z2, .slice q4 D.td.ws.length qc4, .slice q5 D.td.bs.length qc5, .string D.td.g, .string D.td.a, .int .i64 D.td.r, .string D.na, .string D.on, .int .u64 (D.fe : Nat)]] w fun e w' => e = .returned (.bool r) ∧ Below w.heap.size w w' := by
  have HR := Lib.hid hr
  clear hr
  have HB0 := Lib.hid (Bb.made w [.int .u8 (C.k : Nat), .string C.nd.n, .int .i64 C.nd.z0, .int .i64 C.nd.z1, .int .i64 C.nd.z2, .slice p2 C.nd.ls.length pc2, .slice p3 C.nd.ts.length pc3, .string C.td.n, .int .i64 C.td.z0, .int .i64 C.td.z1, .int .i64 C.td.z2, .slice p4 C.td.ws.length pc4, .slice p5 C.td.bs.length pc5, .string C.td.g, .string C.td.a, .int .i64 C.td.r, .string C.na, .string C.on, .int .u64 (C.fe : Nat)] [.int .u8 (D.k : Nat), .string D.nd.n, .int .i64 D.nd.z0, .int .i64 D.nd.z1, .int .i64 D.nd.z2, .slice q2 D.nd.ls.length qc2, .slice q3 D.nd.ts.length qc3, .string D.td.n, .int .i64 D.td.z0, .int .i64 D.td.z1, .int .i64 D.td.z2, .slice q4 D.td.ws.length qc4, .slice q5 D.td.bs.length qc5, .string D.td.g, .string D.td.a, .int .i64 D.td.r, .string D.na, .string D.on, .int .u64 (D.fe : Nat)] 31)
  have K0 : ∀ z, Below w.heap.size w z → Calls Try.prog 61 #[.agg #[.string C.nd.n, .int .i64 C.nd.z0, .int .i64 C.nd.z1, .int .i64 C.nd.z2, .slice p2 C.nd.ls.length pc2, .slice p3 C.nd.ts.length pc3], .agg #[.string D.nd.n, .int .i64 D.nd.z0, .int .i64 D.nd.z1, .int .i64 D.nd.z2, .slice q2 D.nd.ls.length qc2, .slice q3 D.nd.ts.length qc3]] z fun e w' => e = .returned (.bool (smNd C.nd D.nd)) ∧ Below z.heap.size z w' := fun z hb => same_node C.nd D.nd _ _ _ _ z (hx.h2.ovr hb) (hx.h3.ovr hb) (hy.h2.ovr hb) (hy.h3.ovr hb)
  have K1 : ∀ z, Below w.heap.size w z → Calls Try.prog 62 #[.agg #[.string C.td.n, .int .i64 C.td.z0, .int .i64 C.td.z1, .int .i64 C.td.z2, .slice p4 C.td.ws.length pc4, .slice p5 C.td.bs.length pc5, .string C.td.g, .string C.td.a, .int .i64 C.td.r], .agg #[.string D.td.n, .int .i64 D.td.z0, .int .i64 D.td.z1, .int .i64 D.td.z2, .slice q4 D.td.ws.length qc4, .slice q5 D.td.bs.length qc5, .string D.td.g, .string D.td.a, .int .i64 D.td.r]] z fun e w' => e = .returned (.bool (smTd C.td D.td)) ∧ Below z.heap.size z w' := fun z hb => same_task C.td D.td _ _ _ _ z (hx.h4.ovr hb) (hx.h5.ovr hb) (hy.h4.ovr hb) (hy.h5.ovr hb)
  clear hx hy
  go_enter Try.func33, Try.ntmps33
  go_upto_region 1 with fail
  generalize (w.alloc (.cells #[.int .u8 (C.k : Nat), .string C.nd.n, .int .i64 C.nd.z0, .int .i64 C.nd.z1, .int .i64 C.nd.z2, .slice p2 C.nd.ls.length pc2, .slice p3 C.nd.ts.length pc3, .string C.td.n, .int .i64 C.td.z0, .int .i64 C.td.z1, .int .i64 C.td.z2, .slice p4 C.td.ws.length pc4, .slice p5 C.td.bs.length pc5, .string C.td.g, .string C.td.a, .int .i64 C.td.r, .string C.na, .string C.on, .int .u64 (C.fe : Nat)] 31)).alloc (.cells #[.int .u8 (D.k : Nat), .string D.nd.n, .int .i64 D.nd.z0, .int .i64 D.nd.z1, .int .i64 D.nd.z2, .slice q2 D.nd.ls.length qc2, .slice q3 D.nd.ts.length qc3, .string D.td.n, .int .i64 D.td.z0, .int .i64 D.td.z1, .int .i64 D.td.z2, .slice q4 D.td.ws.length qc4, .slice q5 D.td.bs.length qc5, .string D.td.g, .string D.td.a, .int .i64 D.td.r, .string D.na, .string D.on, .int .u64 (D.fe : Nat)] 31) = W0 at *
  have fx0 : W0.cell? ⟨w.heap.size, 0, none⟩ = some (.int .u8 (C.k : Nat)) := HB0.out.bx.cell 0
  have fy0 : W0.cell? ⟨w.heap.size + 1, 0, none⟩ = some (.int .u8 (D.k : Nat)) := HB0.out.bz.cell 0
  by_cases h0 : C.k = D.k
  · have q0 : smN C.k D.k = true := by unfold smN; exact decide_eq_true h0
    have Q0 := Lib.hid q0
    rw [h0] at fx0
    clear q0 h0
    have fx1 : W0.cell? ⟨w.heap.size, 1, none⟩ = some (.string C.nd.n) := HB0.out.bx.cell 1
    have fy1 : W0.cell? ⟨w.heap.size + 1, 1, none⟩ = some (.string D.nd.n) := HB0.out.bz.cell 1
    have fx2 : W0.cell? ⟨w.heap.size, 2, none⟩ = some (.int .i64 C.nd.z0) := HB0.out.bx.cell 2
    have fy2 : W0.cell? ⟨w.heap.size + 1, 2, none⟩ = some (.int .i64 D.nd.z0) := HB0.out.bz.cell 2
    have fx3 : W0.cell? ⟨w.heap.size, 3, none⟩ = some (.int .i64 C.nd.z1) := HB0.out.bx.cell 3
    have fy3 : W0.cell? ⟨w.heap.size + 1, 3, none⟩ = some (.int .i64 D.nd.z1) := HB0.out.bz.cell 3
    have fx4 : W0.cell? ⟨w.heap.size, 4, none⟩ = some (.int .i64 C.nd.z2) := HB0.out.bx.cell 4
    have fy4 : W0.cell? ⟨w.heap.size + 1, 4, none⟩ = some (.int .i64 D.nd.z2) := HB0.out.bz.cell 4
    have fx5 : W0.cell? ⟨w.heap.size, 5, none⟩ = some (.slice p2 C.nd.ls.length pc2) := HB0.out.bx.cell 5
    have fy5 : W0.cell? ⟨w.heap.size + 1, 5, none⟩ = some (.slice q2 D.nd.ls.length qc2) := HB0.out.bz.cell 5
    have fx6 : W0.cell? ⟨w.heap.size, 6, none⟩ = some (.slice p3 C.nd.ts.length pc3) := HB0.out.bx.cell 6
    have fy6 : W0.cell? ⟨w.heap.size + 1, 6, none⟩ = some (.slice q3 D.nd.ts.length qc3) := HB0.out.bz.cell 6
    cases h1 : smNd C.nd D.nd
    · rw [h1] at K0
      have Q1 := Lib.hid h1
      clear h1
      go_wp2_with fail
      refine (K0 _ HB0.out.be).mono ?_
      rintro e w1 ⟨rfl, hb⟩
      have HB1 := Lib.hid (HB0.out.below hb)
      clear hb
      have HN : Hid (r = false) := HR.out.trans (andT Q0.out (andF Q1.out))
      go_wp2
      go_ret
      exact ⟨by rw [HN.out]; rfl, HB1.out.be⟩
    · rw [h1] at K0
      have Q1 := Lib.hid h1
      clear h1
      go_wp2_with fail
      refine (K0 _ HB0.out.be).mono ?_
      rintro e w1 ⟨rfl, hb⟩
      have HB1 := Lib.hid (HB0.out.below hb)
      clear hb
      have fx7 : w1.cell? ⟨w.heap.size, 7, none⟩ = some (.string C.td.n) := HB1.out.bx.cell 7
      have fy7 : w1.cell? ⟨w.heap.size + 1, 7, none⟩ = some (.string D.td.n) := HB1.out.bz.cell 7
      have fx8 : w1.cell? ⟨w.heap.size, 8, none⟩ = some (.int .i64 C.td.z0) := HB1.out.bx.cell 8
      have fy8 : w1.cell? ⟨w.heap.size + 1, 8, none⟩ = some (.int .i64 D.td.z0) := HB1.out.bz.cell 8
      have fx9 : w1.cell? ⟨w.heap.size, 9, none⟩ = some (.int .i64 C.td.z1) := HB1.out.bx.cell 9
      have fy9 : w1.cell? ⟨w.heap.size + 1, 9, none⟩ = some (.int .i64 D.td.z1) := HB1.out.bz.cell 9
      have fx10 : w1.cell? ⟨w.heap.size, 10, none⟩ = some (.int .i64 C.td.z2) := HB1.out.bx.cell 10
      have fy10 : w1.cell? ⟨w.heap.size + 1, 10, none⟩ = some (.int .i64 D.td.z2) := HB1.out.bz.cell 10
      have fx11 : w1.cell? ⟨w.heap.size, 11, none⟩ = some (.slice p4 C.td.ws.length pc4) := HB1.out.bx.cell 11
      have fy11 : w1.cell? ⟨w.heap.size + 1, 11, none⟩ = some (.slice q4 D.td.ws.length qc4) := HB1.out.bz.cell 11
      have fx12 : w1.cell? ⟨w.heap.size, 12, none⟩ = some (.slice p5 C.td.bs.length pc5) := HB1.out.bx.cell 12
      have fy12 : w1.cell? ⟨w.heap.size + 1, 12, none⟩ = some (.slice q5 D.td.bs.length qc5) := HB1.out.bz.cell 12
      have fx13 : w1.cell? ⟨w.heap.size, 13, none⟩ = some (.string C.td.g) := HB1.out.bx.cell 13
      have fy13 : w1.cell? ⟨w.heap.size + 1, 13, none⟩ = some (.string D.td.g) := HB1.out.bz.cell 13
      have fx14 : w1.cell? ⟨w.heap.size, 14, none⟩ = some (.string C.td.a) := HB1.out.bx.cell 14
      have fy14 : w1.cell? ⟨w.heap.size + 1, 14, none⟩ = some (.string D.td.a) := HB1.out.bz.cell 14
      have fx15 : w1.cell? ⟨w.heap.size, 15, none⟩ = some (.int .i64 C.td.r) := HB1.out.bx.cell 15
      have fy15 : w1.cell? ⟨w.heap.size + 1, 15, none⟩ = some (.int .i64 D.td.r) := HB1.out.bz.cell 15
      cases h2 : smTd C.td D.td
      · rw [h2] at K1
        have Q2 := Lib.hid h2
        clear h2
        go_wp2_with fail
        refine (K1 _ HB1.out.be).mono ?_
        rintro e w2 ⟨rfl, hb⟩
        have HB2 := Lib.hid (HB1.out.below hb)
        clear hb
        have HN : Hid (r = false) := HR.out.trans (andT Q0.out (andT Q1.out (andF Q2.out)))
        go_wp2
        go_ret
        exact ⟨by rw [HN.out]; rfl, HB2.out.be⟩
      · rw [h2] at K1
        have Q2 := Lib.hid h2
        clear h2
        go_wp2_with fail
        refine (K1 _ HB1.out.be).mono ?_
        rintro e w2 ⟨rfl, hb⟩
        have HB2 := Lib.hid (HB1.out.below hb)
        clear hb
        have fx16 : w2.cell? ⟨w.heap.size, 16, none⟩ = some (.string C.na) := HB2.out.bx.cell 16
        have fy16 : w2.cell? ⟨w.heap.size + 1, 16, none⟩ = some (.string D.na) := HB2.out.bz.cell 16
        by_cases h3 : C.na = D.na
        · have q3 : smS C.na D.na = true := by unfold smS; exact decide_eq_true h3
          have Q3 := Lib.hid q3
          rw [h3] at fx16
          clear q3 h3
          have fx17 : w2.cell? ⟨w.heap.size, 17, none⟩ = some (.string C.on) := HB2.out.bx.cell 17
          have fy17 : w2.cell? ⟨w.heap.size + 1, 17, none⟩ = some (.string D.on) := HB2.out.bz.cell 17
          by_cases h4 : C.on = D.on
          · have q4 : smS C.on D.on = true := by unfold smS; exact decide_eq_true h4
            have Q4 := Lib.hid q4
            rw [h4] at fx17
            clear q4 h4
            have fx18 : w2.cell? ⟨w.heap.size, 18, none⟩ = some (.int .u64 (C.fe : Nat)) := HB2.out.bx.cell 18
            have fy18 : w2.cell? ⟨w.heap.size + 1, 18, none⟩ = some (.int .u64 (D.fe : Nat)) := HB2.out.bz.cell 18
            by_cases h5 : C.fe = D.fe
            · have q5 : smN C.fe D.fe = true := by unfold smN; exact decide_eq_true h5
              have Q5 := Lib.hid q5
              rw [h5] at fx18
              clear q5 h5
              have HN : Hid (r = true) := HR.out.trans (andT Q0.out (andT Q1.out (andT Q2.out (andT Q3.out (andT Q4.out (Q5.out))))))
              go_wp2
              go_ret
              exact ⟨by rw [HN.out]; rfl, HB2.out.be⟩
            · have q5 : smN C.fe D.fe = false := by unfold smN; exact decide_eq_false h5
              have Q5 := Lib.hid q5
              have m5 : ¬ ((C.fe : Nat) : Int) = ((D.fe : Nat) : Int) := by omega
              have l5 : (((C.fe : Nat) : Int) == ((D.fe : Nat) : Int)) = false := beq_eq_false_iff_ne.2 m5
              clear q5 h5
              have HN : Hid (r = false) := HR.out.trans (andT Q0.out (andT Q1.out (andT Q2.out (andT Q3.out (andT Q4.out (Q5.out))))))
              go_wp2
              go_ret
              exact ⟨by rw [HN.out]; rfl, HB2.out.be⟩
          · have q4 : smS C.on D.on = false := by unfold smS; exact decide_eq_false h4
            have Q4 := Lib.hid q4
            obtain ⟨m4, l4⟩ := ba_no h4
            clear q4 h4
            have HN : Hid (r = false) := HR.out.trans (andT Q0.out (andT Q1.out (andT Q2.out (andT Q3.out (andF Q4.out)))))
            go_wp2
            go_ret
            exact ⟨by rw [HN.out]; rfl, HB2.out.be⟩
        · have q3 : smS C.na D.na = false := by unfold smS; exact decide_eq_false h3
          have Q3 := Lib.hid q3
          obtain ⟨m3, l3⟩ := ba_no h3
          clear q3 h3
          have HN : Hid (r = false) := HR.out.trans (andT Q0.out (andT Q1.out (andT Q2.out (andF Q3.out))))
          go_wp2
          go_ret
          exact ⟨by rw [HN.out]; rfl, HB2.out.be⟩
  · have q0 : smN C.k D.k = false := by unfold smN; exact decide_eq_false h0
    have Q0 := Lib.hid q0
    have m0 : ¬ ((C.k : Nat) : Int) = ((D.k : Nat) : Int) := by omega
    have l0 : (((C.k : Nat) : Int) == ((D.k : Nat) : Int)) = false := beq_eq_false_iff_ne.2 m0
    clear q0 h0
    have HN : Hid (r = false) := HR.out.trans (andF Q0.out)
    go_wp2
    go_ret
    exact ⟨by rw [HN.out]; rfl, HB0.out.be⟩
def smO (C D : Cd) : Bool := smN C.k D.k && (smNd C.nd D.nd && (smTd C.td D.td && (smS C.na D.na && (smS C.on D.on && (smN C.fe D.fe)))))
theorem same_order (C D : Cd) (v2 v3 v4 v5 u2 u3 u4 u5 : Value) (w : World) (hx : PrsIn w w.heap.size C v2 v3 v4 v5) (hy : PrsIn w w.heap.size D u2 u3 u4 u5) :
    Calls Try.prog 33 #[.agg (orC C v2 v3 v4 v5).toArray, .agg (orC D u2 u3 u4 u5).toArray] w fun e w' => e = .returned (.bool (smO C D)) ∧ Below w.heap.size w w' := by
  have sx := hx
  have sy := hy
  obtain ⟨⟨a2, c2, rfl, -⟩, ⟨a3, c3, rfl, -⟩, ⟨a4, c4, rfl, -⟩, ⟨a5, c5, rfl, -⟩⟩ := sx
  obtain ⟨⟨b2, d2, rfl, -⟩, ⟨b3, d3, rfl, -⟩, ⟨b4, d4, rfl, -⟩, ⟨b5, d5, rfl, -⟩⟩ := sy
  exact same_order0 C D _ _ _ _ _ _ _ _ _ _ _ _ _ _ _ _ w hx hy _ rfl
def smC (C D : Cd) : Bool := smN C.cl D.cl && (smN C.sq D.sq && (smO C D))
theorem smC_iff {a b : Cd} : smC a b = true ↔ a = b := by
  obtain ⟨cl, sq, k, nd, td, na, on, fe⟩ := a
  obtain ⟨cl2, sq2, k2, nd2, td2, na2, on2, fe2⟩ := b
  unfold smC smO smN smS
  simp only [Bool.and_eq_true, decide_eq_true_eq, smNd_iff, smTd_iff, Cd.mk.injEq]
set_option maxRecDepth 100000 in
set_option maxHeartbeats 4000000 in
theorem same_cmd (C D : Cd) (v2 v3 v4 v5 u2 u3 u4 u5 : Value) (w : World) (hx : PrsIn w w.heap.size C v2 v3 v4 v5) (hy : PrsIn w w.heap.size D u2 u3 u4 u5) :
    Calls Try.prog 15 #[.agg (cdC C v2 v3 v4 v5).toArray, .agg (cdC D u2 u3 u4 u5).toArray] w fun e w' => e = .returned (.bool (smC C D)) ∧ Below w.heap.size w w' := by
  have HB0 : Hid (Bb w (cdC C v2 v3 v4 v5) (cdC D u2 u3 u4 u5) ((w.alloc (.cells (cdC C v2 v3 v4 v5).toArray 33)).alloc (.cells (cdC D u2 u3 u4 u5).toArray 33))) := Bb.made w _ _ _
  have K0 : ∀ z, Below w.heap.size w z → Calls Try.prog 33 #[.agg (orC C v2 v3 v4 v5).toArray, .agg (orC D u2 u3 u4 u5).toArray] z fun e w' => e = .returned (.bool (smO C D)) ∧ Below z.heap.size z w' := fun z hb => same_order _ _ _ _ _ _ _ _ _ _ z (hx.ovr hb) (hy.ovr hb)
  obtain ⟨⟨a2, c2, rfl, -⟩, ⟨a3, c3, rfl, -⟩, ⟨a4, c4, rfl, -⟩, ⟨a5, c5, rfl, -⟩⟩ := hx
  obtain ⟨⟨b2, d2, rfl, -⟩, ⟨b3, d3, rfl, -⟩, ⟨b4, d4, rfl, -⟩, ⟨b5, d5, rfl, -⟩⟩ := hy
  obtain ⟨r, hr⟩ : ∃ r, r = smC C D := ⟨_, rfl⟩
  rw [← hr]
  have HR : Hid (r = (smN C.cl D.cl && (smN C.sq D.sq && (smO C D)))) := hr
  clear hr
  obtain ⟨AX, hAX⟩ : ∃ A, A = (cdC C (.slice a2 C.nd.ls.length c2) (.slice a3 C.nd.ts.length c3) (.slice a4 C.td.ws.length c4) (.slice a5 C.td.bs.length c5)).toArray := ⟨_, rfl⟩
  obtain ⟨AY, hAY⟩ : ∃ A, A = (cdC D (.slice b2 D.nd.ls.length d2) (.slice b3 D.nd.ts.length d3) (.slice b4 D.td.ws.length d4) (.slice b5 D.td.bs.length d5)).toArray := ⟨_, rfl⟩
  rw [← hAX, ← hAY] at HB0 ⊢
  clear hAX hAY
  go_enter Try.func15, Try.ntmps15
  go_upto_region 1 with fail
  generalize (w.alloc (.cells AX 33)).alloc (.cells AY 33) = W0 at *
  have fx0 : W0.cell? ⟨w.heap.size, 0, none⟩ = some (.int .u64 (C.cl : Nat)) := HB0.out.bx.cell 0
  have fy0 : W0.cell? ⟨w.heap.size + 1, 0, none⟩ = some (.int .u64 (D.cl : Nat)) := HB0.out.bz.cell 0
  by_cases h0 : C.cl = D.cl
  · have Q0 : Hid (smN C.cl D.cl = true) := decide_eq_true h0
    rw [h0] at fx0
    clear h0
    have fx1 : W0.cell? ⟨w.heap.size, 1, none⟩ = some (.int .u64 (C.sq : Nat)) := HB0.out.bx.cell 1
    have fy1 : W0.cell? ⟨w.heap.size + 1, 1, none⟩ = some (.int .u64 (D.sq : Nat)) := HB0.out.bz.cell 1
    by_cases h1 : C.sq = D.sq
    · have Q1 : Hid (smN C.sq D.sq = true) := decide_eq_true h1
      rw [h1] at fx1
      clear h1
      have RX := Lib.hid (HB0.out.bx.range 2)
      have RY := Lib.hid (HB0.out.bz.range 2)
      have HQ : Hid (r = smO C D) := HR.out.trans (andT Q0.out (andT Q1.out rfl))
      generalize smO C D = q at *
      refine wp_region_list ?_
      refine wpList_plain rfl fun K hK => ?_
      go_simp
      refine hK _ _ ?_
      clear hK K
      refine wpList_plain rfl fun K hK => ?_
      go_simp
      refine hK _ _ ?_
      clear hK K
      refine wpList_plain rfl fun K hK => ?_
      go_simp
      refine hK _ _ ?_
      clear hK K
      refine wpList_plain rfl fun K hK => ?_
      go_simp
      refine hK _ _ ?_
      clear hK K
      refine wpList_plain rfl fun K hK => ?_
      go_simp
      refine hK _ _ ?_
      clear hK K
      refine wpList_plain rfl fun K hK => ?_
      go_simp
      refine hK _ _ ?_
      clear hK K
      refine BigFrame.wpList_want rfl fun K hK => ?_
      go_simp
      refine hK _ _ ?_
      clear hK K
      refine BigFrame.wpList_want rfl fun K hK => ?_
      go_simp
      refine hK _ _ ?_
      clear hK K
      refine BigFrame.wpList_want rfl fun K hK => ?_
      go_simp
      refine hK _ _ ?_
      clear hK K
      refine BigFrame.wpList_want rfl fun K hK => ?_
      go_simp
      refine hK _ _ ?_
      clear hK K
      refine BigFrame.wpList_want rfl fun K hK => ?_
      go_simp
      refine hK _ _ ?_
      clear hK K
      refine wpList_plain rfl fun K hK => ?_
      go_simp
      refine hK _ _ ?_
      clear hK K
      refine wpList_plain rfl fun K hK => ?_
      go_simp
      refine hK _ _ ?_
      clear hK K
      refine BigFrame.wpList_want rfl fun K hK => ?_
      go_simp
      refine hK _ _ ?_
      clear hK K
      refine wl_load_want rfl 31 (.tmp 18) rfl w.heap.size 2 rfl (orC C (.slice a2 C.nd.ls.length c2) (.slice a3 C.nd.ts.length c3) (.slice a4 C.td.ws.length c4) (.slice a5 C.td.bs.length c5)) _ RX.out Try.underlying31 rfl rfl ?_
      refine BigFrame.wpList_want rfl fun K hK => ?_
      go_simp
      refine hK _ _ ?_
      clear hK K
      refine wl_load_want rfl 31 (.tmp 20) rfl (w.heap.size + 1) 2 rfl (orC D (.slice b2 D.nd.ls.length d2) (.slice b3 D.nd.ts.length d3) (.slice b4 D.td.ws.length d4) (.slice b5 D.td.bs.length d5)) _ RY.out Try.underlying31 rfl rfl ?_
      go_wp2_with fail
      refine (K0 _ HB0.out.be).mono ?_
      rintro e w1 ⟨rfl, hb⟩
      have HB1 := Lib.hid (HB0.out.below hb)
      clear hb
      go_wp2
      go_ret
      exact ⟨by rw [HQ.out]; rfl, HB1.out.be⟩
    · have HN : Hid (r = false) := HR.out.trans (andT Q0.out (andF (decide_eq_false h1)))
      have m1 : ¬ ((C.sq : Nat) : Int) = ((D.sq : Nat) : Int) := by omega
      have l1 : (((C.sq : Nat) : Int) == ((D.sq : Nat) : Int)) = false := beq_eq_false_iff_ne.2 m1
      clear h1
      go_wp2
      go_ret
      exact ⟨by rw [HN.out]; rfl, HB0.out.be⟩
  · have HN : Hid (r = false) := HR.out.trans (andF (decide_eq_false h0))
    have m0 : ¬ ((C.cl : Nat) : Int) = ((D.cl : Nat) : Int) := by omega
    have l1 : (((C.cl : Nat) : Int) == ((D.cl : Nat) : Int)) = false := beq_eq_false_iff_ne.2 m0
    clear h0
    go_wp2
    go_ret
    exact ⟨by rw [HN.out]; rfl, HB0.out.be⟩
end Hd
end Go.Proofs.Ythlchdlgafincaa
