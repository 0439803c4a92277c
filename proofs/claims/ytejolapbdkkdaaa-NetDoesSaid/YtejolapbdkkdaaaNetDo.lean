/-
  NetDoes: the walk.
-/
import Derived.Test.YtejolapbdkkdaaaNetDo0
import Derived.Deep.RegionHeld3
namespace Go.Proofs.Ytejolapbdkkdaaa
open Go.RowKit Go.Lib
namespace Nt
open Rw
set_option linter.unusedVariables false
set_option maxHeartbeats 8000000 in
set_option maxRecDepth 100000 in
theorem netDoes (v vl : Value) (n l : List Pk) (i : Int) (w : World) (h : Sl w 0 w.heap.size v n) (hl : Sl w 0 w.heap.size vl l) :
    Calls Try.prog 3 #[.agg #[v], vl, .int .i64 i] w fun e w' => e = .returned (.bool true) ∧ Below w.heap.size w w' := by
  have KL : Hid (∀ z, Calls Try.prog 12 #[] z fun e w' => e = .returned (.bool true) ∧ Below z.heap.size z w') := fun z => lives_true z
  have hnl := h.len
  have KC : Hid (∀ z u, Sl z 0 z.heap.size u n → Calls Try.prog 7 #[.agg #[u]] z fun e w' => ∃ a c, e = .returned (.agg #[.slice a n.length c]) ∧ Sl w' 0 w'.heap.size (.slice a n.length c) n ∧ Below z.heap.size z w') := fun z u hs => (copy_ref u n z hs).mono fun e w' ht => copy_d ht hnl

  have KS1 : Hid (∀ z u, Sl z 0 z.heap.size u n → Below w.heap.size w z → Calls Try.prog 8 #[.agg #[u], vl] z fun e w' => ∃ a c, e = .returned (.tuple #[.agg #[.slice a (putR n l).length c], .int .i64 (putN n l : Nat), .int .i64 (errN n)]) ∧ Sl w' 0 w'.heap.size (.slice a (putR n l).length c) (putR n l) ∧ Below z.heap.size z w') := fun z u hs hz => (send_any u vl n l z hs (hl.on hz)).mono fun e w' ht => send_d ht
  have KS2 : Hid (∀ z u, Sl z 0 z.heap.size u n → Below w.heap.size w z → Calls Try.prog 9 #[.agg #[u], vl] z fun e w' => ∃ a c, e = .returned (.tuple #[.agg #[.slice a (putR n l).length c], .int .i64 (putN n l : Nat), .int .i64 (errN n)]) ∧ Sl w' 0 w'.heap.size (.slice a (putR n l).length c) (putR n l) ∧ Below z.heap.size z w') := fun z u hs hz => (send_ref u vl n l z hs (hl.on hz)).mono fun e w' ht => send_d ht
  have KG1 : Hid (∀ z u, Sl z 0 z.heap.size u n → Calls Try.prog 10 #[.agg #[u], .int .i64 i] z fun e w' => ∃ a c, e = .returned (.tuple #[.agg #[.slice a (givR n i).length c], .agg #[.int .i64 (givP n i).f, .int .i64 (givP n i).t, .string (givP n i).d], .int .i64 (refN n i)]) ∧ Sl w' 0 w'.heap.size (.slice a (givR n i).length c) (givR n i) ∧ Below z.heap.size z w') := fun z u hs => (give_own u n i z hs).mono fun e w' ht => give_d ht hnl
  have KG2 : Hid (∀ z u, Sl z 0 z.heap.size u n → Calls Try.prog 11 #[.agg #[u], .int .i64 i] z fun e w' => ∃ a c, e = .returned (.tuple #[.agg #[.slice a (givR n i).length c], .agg #[.int .i64 (givP n i).f, .int .i64 (givP n i).t, .string (givP n i).d], .int .i64 (refN n i)]) ∧ Sl w' 0 w'.heap.size (.slice a (givR n i).length c) (givR n i) ∧ Below z.heap.size z w') := fun z u hs => (give_ref u n i z hs).mono fun e w' ht => give_d ht hnl
  have KT1 : Hid (∀ z u, Sl z 0 z.heap.size u n → Calls Try.prog 14 #[.agg #[u], .int .i64 i] z fun e w' => ∃ a c, e = .returned (.tuple #[.agg #[.slice a (twR n i).length c], .int .i64 (twN n i)]) ∧ Sl w' 0 w'.heap.size (.slice a (twR n i).length c) (twR n i) ∧ Below z.heap.size z w') := fun z u hs => (twice_own u n i z hs).mono fun e w' ht => twice_d ht
  have KT2 : Hid (∀ z u, Sl z 0 z.heap.size u n → Calls Try.prog 15 #[.agg #[u], .int .i64 i] z fun e w' => ∃ a c, e = .returned (.tuple #[.agg #[.slice a (twR n i).length c], .int .i64 (twN n i)]) ∧ Sl w' 0 w'.heap.size (.slice a (twR n i).length c) (twR n i) ∧ Below z.heap.size z w') := fun z u hs => (twice_ref u n i z hs).mono fun e w' ht => twice_d ht
  have KK1 : Hid (∀ z u, Sl z 0 z.heap.size u n → Calls Try.prog 16 #[.agg #[u]] z fun e w' => ∃ a c, e = .returned (.tuple #[.slice a (tkR n).length c, .agg #[.slice none 0 0], .int .i64 (errN n)]) ∧ Sl w' 0 w'.heap.size (.slice a (tkR n).length c) (tkR n) ∧ Below z.heap.size z w') := fun z u hs => (take_own u n z hs).mono fun e w' ht => take_d ht hnl
  have KK2 : Hid (∀ z u, Sl z 0 z.heap.size u n → Calls Try.prog 17 #[.agg #[u]] z fun e w' => ∃ a c, e = .returned (.tuple #[.slice a (tkR n).length c, .agg #[.slice none 0 0], .int .i64 (errN n)]) ∧ Sl w' 0 w'.heap.size (.slice a (tkR n).length c) (tkR n) ∧ Below z.heap.size z w') := fun z u hs => (take_ref u n z hs).mono fun e w' ht => take_d ht hnl
  have KH1 : Hid (∀ z u, Sl z 0 z.heap.size u n → Calls Try.prog 18 #[.agg #[u]] z fun e w' => e = .returned (.int .i64 (errN n)) ∧ Below z.heap.size z w') := fun z u hs => check_own u n z hs
  have KH2 : Hid (∀ z u, Sl z 0 z.heap.size u n → Calls Try.prog 19 #[.agg #[u]] z fun e w' => e = .returned (.int .i64 (errN n)) ∧ Below z.heap.size z w') := fun z u hs => check_ref u n z hs
  have KE : Hid (∀ z u v (R : List Pk), Sl z 0 z.heap.size u R → Sl z 0 z.heap.size v R → Calls Try.prog 13 #[.agg #[u], .agg #[v]] z fun e w' => e = .returned (.bool true) ∧ Below z.heap.size z w') := fun z u v R hu hv => (same_ref u v R R z hu hv).mono fun e w' ⟨⟨b, h1, h2⟩, h3⟩ => by
    obtain rfl : b = true := h2.2 rfl
    exact ⟨h1, h3⟩
  obtain ⟨a, c, rfl⟩ := h.slice
  obtain ⟨a2, c2, rfl⟩ := hl.slice
  have HK0 := Lib.hid (Kp.start w h 24)
  clear h hl hnl
  generalize putR n l = R1 at *
  generalize putN n l = k1 at *
  generalize givR n i = R2 at *
  generalize givP n i = x2 at *
  rcases x2 with ⟨f, t, d⟩
  dsimp only at KG1 KG2
  generalize refN n i = e2 at *
  generalize twR n i = R3 at *
  generalize twN n i = e3 at *
  generalize tkR n = R4 at *
  generalize errN n = e1 at *
  have y0 := HK0.out.c (.head _)
  go_enter Try.func3, Try.ntmps3
  go_wp2_with fail

  refine Calls.mono (KC.out _ _ (HK0.out.s (.head _))) ?_
  rintro e w1 ⟨a1, c1, rfl, hs, hb⟩
  have HK1 := Lib.hid ((HK0.out.go hb).box hs 24)
  have y1_t7 := HK1.out.c (.head _)
  clear hs hb y0
  go_wp2_with fail
  generalize (w1.alloc (.cells #[.slice a1 n.length c1] 24)) = W1 at *
  refine Calls.mono (KS1.out _ _ (HK1.out.s (.head _)) HK1.out.be) ?_
  rintro e w2 ⟨a2, c2, rfl, hs, hb⟩
  have HK2 := Lib.hid ((HK1.out.go hb).box hs 24)
  have y2_t3 := HK2.out.c (.tail _ (.tail _ (.head _)))
  clear hs hb y1_t7
  go_wp2_with fail
  generalize (w2.alloc (.cells #[.slice a2 R1.length c2] 24)) = W2 at *
  refine Calls.mono (KS2.out _ _ (HK2.out.s (.tail _ (.tail _ (.head _)))) HK2.out.be) ?_
  rintro e w3 ⟨a3, c3, rfl, hs, hb⟩
  have HK3 := Lib.hid ((HK2.out.go hb).box hs 24)
  have y3_t7 := HK3.out.c (.tail _ (.tail _ (.head _)))
  clear hs hb y2_t3
  go_wp2_with fail
  generalize (w3.alloc (.cells #[.slice a3 R1.length c3] 24)) = W3 at *
  refine Calls.mono (KG1.out _ _ (HK3.out.s (.tail _ (.tail _ (.head _))))) ?_
  rintro e w4 ⟨a4, c4, rfl, hs, hb⟩
  have HK4 := Lib.hid (((HK3.out.go hb).box hs 24).pbox ⟨f, t, d⟩ 30 (World.size_alloc _ _))
  have y4_t3 := HK4.out.c (.tail _ (.tail _ (.tail _ (.tail _ (.head _)))))
  clear hs hb y3_t7
  go_wp2_with fail
  generalize ((w4.alloc (.cells #[.slice a4 R2.length c4] 24)).alloc (.cells #[.int .i64 f, .int .i64 t, .string d] 30)) = W4 at *
  refine Calls.mono (KG2.out _ _ (HK4.out.s (.tail _ (.tail _ (.tail _ (.tail _ (.head _))))))) ?_
  rintro e w5 ⟨a5, c5, rfl, hs, hb⟩
  have HK5 := Lib.hid (((HK4.out.go hb).box hs 24).pbox ⟨f, t, d⟩ 30 (World.size_alloc _ _))
  clear hs hb y4_t3
  go_wp2_with fail
  generalize ((w5.alloc (.cells #[.slice a5 R2.length c5] 24)).alloc (.cells #[.int .i64 f, .int .i64 t, .string d] 30)) = W5 at *
  refine Calls.mono (KL.out _) ?_
  rintro e w6 ⟨rfl, hb⟩
  have HK6 := Lib.hid (HK5.out.go hb)
  have y6_t8 := HK6.out.c (.tail _ (.tail _ (.tail _ (.head _))))
  have y6_t11 := HK6.out.c (.tail _ (.tail _ (.head _)))
  clear hb
  go_wp2_with fail
  refine Calls.mono (KE.out _ _ _ _ (HK6.out.s (.tail _ (.tail _ (.tail _ (.head _))))) (HK6.out.s (.tail _ (.tail _ (.head _))))) ?_
  rintro e w7 ⟨rfl, hb⟩
  have HK7 := Lib.hid (HK6.out.go hb)
  have y7_t14 := HK7.out.c (.tail _ (.head _))
  have y7_t17 := HK7.out.c (.head _)
  clear hb y6_t8 y6_t11
  go_wp2_with fail
  refine Calls.mono (KE.out _ _ _ _ (HK7.out.s (.tail _ (.head _))) (HK7.out.s (.head _))) ?_
  rintro e w8 ⟨rfl, hb⟩
  have HK8 := Lib.hid (HK7.out.go hb)
  have y8_t7 := HK8.out.c (.tail _ (.tail _ (.tail _ (.tail _ (.head _)))))
  obtain ⟨p0, p1, p2⟩ := HK8.out.p (.head _)
  obtain ⟨q0, q1, q2⟩ := HK8.out.p (.tail _ (.head _))
  have gp := guard_pk
  have hq := neq_pk f t d f t d
  have he := eqP_self f t d
  clear hb y7_t14 y7_t17
  go_wp2_with fail
  clear p0 p1 p2 q0 q1 q2 gp hq he
  refine Calls.mono (KT1.out _ _ (HK8.out.s (.tail _ (.tail _ (.tail _ (.tail _ (.head _))))))) ?_
  rintro e w9 ⟨a9, c9, rfl, hs, hb⟩
  have HK9 := Lib.hid ((HK8.out.go hb).box hs 24)
  have y9_t3 := HK9.out.c (.tail _ (.tail _ (.tail _ (.tail _ (.tail _ (.tail _ (.head _)))))))
  clear hs hb y8_t7
  go_wp2_with fail
  generalize (w9.alloc (.cells #[.slice a9 R3.length c9] 24)) = W9 at *
  refine Calls.mono (KT2.out _ _ (HK9.out.s (.tail _ (.tail _ (.tail _ (.tail _ (.tail _ (.tail _ (.head _))))))))) ?_
  rintro e w10 ⟨a10, c10, rfl, hs, hb⟩
  have HK10 := Lib.hid ((HK9.out.go hb).box hs 24)
  have y10_t7 := HK10.out.c (.tail _ (.tail _ (.tail _ (.tail _ (.tail _ (.tail _ (.head _)))))))
  clear hs hb y9_t3
  go_wp2_with fail
  generalize (w10.alloc (.cells #[.slice a10 R3.length c10] 24)) = W10 at *
  refine Calls.mono (KK1.out _ _ (HK10.out.s (.tail _ (.tail _ (.tail _ (.tail _ (.tail _ (.tail _ (.head _))))))))) ?_
  rintro e w11 ⟨a11, c11, rfl, hs, hb⟩
  have HK11 := Lib.hid (((HK10.out.go hb).row hs).box (Sl.nil _ _ _) 24)
  have y11_t3 := HK11.out.c (.tail _ (.tail _ (.tail _ (.tail _ (.tail _ (.tail _ (.tail _ (.tail _ (.head _)))))))))
  clear hs hb y10_t7
  go_wp2_with fail
  generalize (w11.alloc (.cells #[.slice none 0 0] 24)) = W11 at *
  refine Calls.mono (KK2.out _ _ (HK11.out.s (.tail _ (.tail _ (.tail _ (.tail _ (.tail _ (.tail _ (.tail _ (.tail _ (.head _))))))))))) ?_
  rintro e w12 ⟨a12, c12, rfl, hs, hb⟩
  have HK12 := Lib.hid (((HK11.out.go hb).row hs).box (Sl.nil _ _ _) 24)
  clear hs hb y11_t3
  go_wp2
  generalize (w12.alloc (.cells #[.slice none 0 0] 24)) = W12 at *
  clear KC KS1 KS2 KG1 KG2 KT1 KT2 KK1 KK2 KL HK0 HK1 HK2 HK3 HK4 HK5 HK6 HK7 HK8 HK9 HK10 HK11
  have PB : Hid (∀ y, Below W12.heap.size W12 y → (y.cell? ⟨w9.heap.size, 0, none⟩ = some (.slice a9 R3.length c9) ∧ y.cell? ⟨w10.heap.size, 0, none⟩ = some (.slice a10 R3.length c10) ∧ y.cell? ⟨w11.heap.size, 0, none⟩ = some (.slice none 0 0) ∧ y.cell? ⟨w12.heap.size, 0, none⟩ = some (.slice none 0 0) ∧ y.cell? ⟨w1.heap.size, 0, none⟩ = some (.slice a1 n.length c1) ∧ y.cell? ⟨w.heap.size, 0, none⟩ = some (.slice a n.length c) ∧ Hid (Below W12.heap.size W12 y))) := fun y hy => ⟨(HK12.out.go hy).c (.tail _ (.tail _ (.tail _ (.head _)))), (HK12.out.go hy).c (.tail _ (.tail _ (.head _))), (HK12.out.go hy).c (.tail _ (.head _)), (HK12.out.go hy).c (.head _), (HK12.out.go hy).c (.tail _ (.tail _ (.tail _ (.tail _ (.tail _ (.tail _ (.tail _ (.tail _ (.head _))))))))), (HK12.out.go hy).c (.tail _ (.tail _ (.tail _ (.tail _ (.tail _ (.tail _ (.tail _ (.tail _ (.tail _ (.head _)))))))))), hy⟩
  have KA1 : Hid (∀ y, (y.cell? ⟨w9.heap.size, 0, none⟩ = some (.slice a9 R3.length c9) ∧ y.cell? ⟨w10.heap.size, 0, none⟩ = some (.slice a10 R3.length c10) ∧ y.cell? ⟨w11.heap.size, 0, none⟩ = some (.slice none 0 0) ∧ y.cell? ⟨w12.heap.size, 0, none⟩ = some (.slice none 0 0) ∧ y.cell? ⟨w1.heap.size, 0, none⟩ = some (.slice a1 n.length c1) ∧ y.cell? ⟨w.heap.size, 0, none⟩ = some (.slice a n.length c) ∧ Hid (Below W12.heap.size W12 y)) → Calls Try.prog 13 #[.agg #[.slice a9 R3.length c9], .agg #[.slice a10 R3.length c10]] y fun e y' => e = .returned (.bool true) ∧ (y'.cell? ⟨w9.heap.size, 0, none⟩ = some (.slice a9 R3.length c9) ∧ y'.cell? ⟨w10.heap.size, 0, none⟩ = some (.slice a10 R3.length c10) ∧ y'.cell? ⟨w11.heap.size, 0, none⟩ = some (.slice none 0 0) ∧ y'.cell? ⟨w12.heap.size, 0, none⟩ = some (.slice none 0 0) ∧ y'.cell? ⟨w1.heap.size, 0, none⟩ = some (.slice a1 n.length c1) ∧ y'.cell? ⟨w.heap.size, 0, none⟩ = some (.slice a n.length c) ∧ Hid (Below W12.heap.size W12 y'))) := by
    rintro y ⟨-, -, -, -, -, -, hb⟩
    have hk := HK12.out.go hb.out
    refine (KE.out _ _ _ _ (hk.s (.tail _ (.tail _ (.tail _ (.head _))))) (hk.s (.tail _ (.tail _ (.head _))))).mono ?_
    rintro e y' ⟨rfl, hb2⟩
    exact ⟨rfl, PB.out _ (hb.out.trans (hb2.mono hb.out.size))⟩
  have KA2 : Hid (∀ y, (y.cell? ⟨w9.heap.size, 0, none⟩ = some (.slice a9 R3.length c9) ∧ y.cell? ⟨w10.heap.size, 0, none⟩ = some (.slice a10 R3.length c10) ∧ y.cell? ⟨w11.heap.size, 0, none⟩ = some (.slice none 0 0) ∧ y.cell? ⟨w12.heap.size, 0, none⟩ = some (.slice none 0 0) ∧ y.cell? ⟨w1.heap.size, 0, none⟩ = some (.slice a1 n.length c1) ∧ y.cell? ⟨w.heap.size, 0, none⟩ = some (.slice a n.length c) ∧ Hid (Below W12.heap.size W12 y)) → Calls Try.prog 13 #[.agg #[.slice a11 R4.length c11], .agg #[.slice a12 R4.length c12]] y fun e y' => e = .returned (.bool true) ∧ (y'.cell? ⟨w9.heap.size, 0, none⟩ = some (.slice a9 R3.length c9) ∧ y'.cell? ⟨w10.heap.size, 0, none⟩ = some (.slice a10 R3.length c10) ∧ y'.cell? ⟨w11.heap.size, 0, none⟩ = some (.slice none 0 0) ∧ y'.cell? ⟨w12.heap.size, 0, none⟩ = some (.slice none 0 0) ∧ y'.cell? ⟨w1.heap.size, 0, none⟩ = some (.slice a1 n.length c1) ∧ y'.cell? ⟨w.heap.size, 0, none⟩ = some (.slice a n.length c) ∧ Hid (Below W12.heap.size W12 y'))) := by
    rintro y ⟨-, -, -, -, -, -, hb⟩
    have hk := HK12.out.go hb.out
    refine (KE.out _ _ _ _ (hk.q (.tail _ (.head _))) (hk.q (.head _))).mono ?_
    rintro e y' ⟨rfl, hb2⟩
    exact ⟨rfl, PB.out _ (hb.out.trans (hb2.mono hb.out.size))⟩
  have KA3 : Hid (∀ y, (y.cell? ⟨w9.heap.size, 0, none⟩ = some (.slice a9 R3.length c9) ∧ y.cell? ⟨w10.heap.size, 0, none⟩ = some (.slice a10 R3.length c10) ∧ y.cell? ⟨w11.heap.size, 0, none⟩ = some (.slice none 0 0) ∧ y.cell? ⟨w12.heap.size, 0, none⟩ = some (.slice none 0 0) ∧ y.cell? ⟨w1.heap.size, 0, none⟩ = some (.slice a1 n.length c1) ∧ y.cell? ⟨w.heap.size, 0, none⟩ = some (.slice a n.length c) ∧ Hid (Below W12.heap.size W12 y)) → Calls Try.prog 13 #[.agg #[.slice none 0 0], .agg #[.slice none 0 0]] y fun e y' => e = .returned (.bool true) ∧ (y'.cell? ⟨w9.heap.size, 0, none⟩ = some (.slice a9 R3.length c9) ∧ y'.cell? ⟨w10.heap.size, 0, none⟩ = some (.slice a10 R3.length c10) ∧ y'.cell? ⟨w11.heap.size, 0, none⟩ = some (.slice none 0 0) ∧ y'.cell? ⟨w12.heap.size, 0, none⟩ = some (.slice none 0 0) ∧ y'.cell? ⟨w1.heap.size, 0, none⟩ = some (.slice a1 n.length c1) ∧ y'.cell? ⟨w.heap.size, 0, none⟩ = some (.slice a n.length c) ∧ Hid (Below W12.heap.size W12 y'))) := by
    rintro y ⟨-, -, -, -, -, -, hb⟩
    have hk := HK12.out.go hb.out
    refine (KE.out _ _ _ [] (Sl.nil _ _ _) (Sl.nil _ _ _)).mono ?_
    rintro e y' ⟨rfl, hb2⟩
    exact ⟨rfl, PB.out _ (hb.out.trans (hb2.mono hb.out.size))⟩
  have KA4 : Hid (∀ y, (y.cell? ⟨w9.heap.size, 0, none⟩ = some (.slice a9 R3.length c9) ∧ y.cell? ⟨w10.heap.size, 0, none⟩ = some (.slice a10 R3.length c10) ∧ y.cell? ⟨w11.heap.size, 0, none⟩ = some (.slice none 0 0) ∧ y.cell? ⟨w12.heap.size, 0, none⟩ = some (.slice none 0 0) ∧ y.cell? ⟨w1.heap.size, 0, none⟩ = some (.slice a1 n.length c1) ∧ y.cell? ⟨w.heap.size, 0, none⟩ = some (.slice a n.length c) ∧ Hid (Below W12.heap.size W12 y)) → Calls Try.prog 18 #[.agg #[.slice a1 n.length c1]] y fun e y' => e = .returned (.int .i64 e1) ∧ (y'.cell? ⟨w9.heap.size, 0, none⟩ = some (.slice a9 R3.length c9) ∧ y'.cell? ⟨w10.heap.size, 0, none⟩ = some (.slice a10 R3.length c10) ∧ y'.cell? ⟨w11.heap.size, 0, none⟩ = some (.slice none 0 0) ∧ y'.cell? ⟨w12.heap.size, 0, none⟩ = some (.slice none 0 0) ∧ y'.cell? ⟨w1.heap.size, 0, none⟩ = some (.slice a1 n.length c1) ∧ y'.cell? ⟨w.heap.size, 0, none⟩ = some (.slice a n.length c) ∧ Hid (Below W12.heap.size W12 y'))) := by
    rintro y ⟨-, -, -, -, -, -, hb⟩
    have hk := HK12.out.go hb.out
    refine (KH1.out _ _ (hk.s (.tail _ (.tail _ (.tail _ (.tail _ (.tail _ (.tail _ (.tail _ (.tail _ (.head _))))))))))).mono ?_
    rintro e y' ⟨rfl, hb2⟩
    exact ⟨rfl, PB.out _ (hb.out.trans (hb2.mono hb.out.size))⟩
  have KA5 : Hid (∀ y, (y.cell? ⟨w9.heap.size, 0, none⟩ = some (.slice a9 R3.length c9) ∧ y.cell? ⟨w10.heap.size, 0, none⟩ = some (.slice a10 R3.length c10) ∧ y.cell? ⟨w11.heap.size, 0, none⟩ = some (.slice none 0 0) ∧ y.cell? ⟨w12.heap.size, 0, none⟩ = some (.slice none 0 0) ∧ y.cell? ⟨w1.heap.size, 0, none⟩ = some (.slice a1 n.length c1) ∧ y.cell? ⟨w.heap.size, 0, none⟩ = some (.slice a n.length c) ∧ Hid (Below W12.heap.size W12 y)) → Calls Try.prog 19 #[.agg #[.slice a n.length c]] y fun e y' => e = .returned (.int .i64 e1) ∧ (y'.cell? ⟨w9.heap.size, 0, none⟩ = some (.slice a9 R3.length c9) ∧ y'.cell? ⟨w10.heap.size, 0, none⟩ = some (.slice a10 R3.length c10) ∧ y'.cell? ⟨w11.heap.size, 0, none⟩ = some (.slice none 0 0) ∧ y'.cell? ⟨w12.heap.size, 0, none⟩ = some (.slice none 0 0) ∧ y'.cell? ⟨w1.heap.size, 0, none⟩ = some (.slice a1 n.length c1) ∧ y'.cell? ⟨w.heap.size, 0, none⟩ = some (.slice a n.length c) ∧ Hid (Below W12.heap.size W12 y'))) := by
    rintro y ⟨-, -, -, -, -, -, hb⟩
    have hk := HK12.out.go hb.out
    refine (KH2.out _ _ (hk.s (.tail _ (.tail _ (.tail _ (.tail _ (.tail _ (.tail _ (.tail _ (.tail _ (.tail _ (.head _)))))))))))).mono ?_
    rintro e y' ⟨rfl, hb2⟩
    exact ⟨rfl, PB.out _ (hb.out.trans (hb2.mono hb.out.size))⟩
  have KA6 : Hid (∀ y, (y.cell? ⟨w9.heap.size, 0, none⟩ = some (.slice a9 R3.length c9) ∧ y.cell? ⟨w10.heap.size, 0, none⟩ = some (.slice a10 R3.length c10) ∧ y.cell? ⟨w11.heap.size, 0, none⟩ = some (.slice none 0 0) ∧ y.cell? ⟨w12.heap.size, 0, none⟩ = some (.slice none 0 0) ∧ y.cell? ⟨w1.heap.size, 0, none⟩ = some (.slice a1 n.length c1) ∧ y.cell? ⟨w.heap.size, 0, none⟩ = some (.slice a n.length c) ∧ Hid (Below W12.heap.size W12 y)) → Calls Try.prog 13 #[.agg #[.slice a1 n.length c1], .agg #[.slice a n.length c]] y fun e y' => e = .returned (.bool true) ∧ (y'.cell? ⟨w9.heap.size, 0, none⟩ = some (.slice a9 R3.length c9) ∧ y'.cell? ⟨w10.heap.size, 0, none⟩ = some (.slice a10 R3.length c10) ∧ y'.cell? ⟨w11.heap.size, 0, none⟩ = some (.slice none 0 0) ∧ y'.cell? ⟨w12.heap.size, 0, none⟩ = some (.slice none 0 0) ∧ y'.cell? ⟨w1.heap.size, 0, none⟩ = some (.slice a1 n.length c1) ∧ y'.cell? ⟨w.heap.size, 0, none⟩ = some (.slice a n.length c) ∧ Hid (Below W12.heap.size W12 y'))) := by
    rintro y ⟨-, -, -, -, -, -, hb⟩
    have hk := HK12.out.go hb.out
    refine (KE.out _ _ _ _ (hk.s (.tail _ (.tail _ (.tail _ (.tail _ (.tail _ (.tail _ (.tail _ (.tail _ (.head _)))))))))) (hk.s (.tail _ (.tail _ (.tail _ (.tail _ (.tail _ (.tail _ (.tail _ (.tail _ (.tail _ (.head _)))))))))))).mono ?_
    rintro e y' ⟨rfl, hb2⟩
    exact ⟨rfl, PB.out _ (hb.out.trans (hb2.mono hb.out.size))⟩
  have KD := Lib.hid (PB.out _ ((Below.refl _ W12).drew))
  have HBE := Lib.hid HK12.out.be
  clear HK12 PB KE KH1 KH2
  go_region_held3 (fun y => y.cell? ⟨w9.heap.size, 0, none⟩ = some (.slice a9 R3.length c9) ∧ y.cell? ⟨w10.heap.size, 0, none⟩ = some (.slice a10 R3.length c10) ∧ y.cell? ⟨w11.heap.size, 0, none⟩ = some (.slice none 0 0) ∧ y.cell? ⟨w12.heap.size, 0, none⟩ = some (.slice none 0 0) ∧ y.cell? ⟨w1.heap.size, 0, none⟩ = some (.slice a1 n.length c1) ∧ y.cell? ⟨w.heap.size, 0, none⟩ = some (.slice a n.length c) ∧ Hid (Below W12.heap.size W12 y)) (first | assumption | with_reducible exact KD.out) (first
    | ((with_reducible refine (KA1.out _ ?_).mono ?_); assumption; rintro e w20 ⟨rfl, hS⟩)
    | ((with_reducible refine (KA2.out _ ?_).mono ?_); assumption; rintro e w20 ⟨rfl, hS⟩)
    | ((with_reducible refine (KA3.out _ ?_).mono ?_); assumption; rintro e w20 ⟨rfl, hS⟩)
    | ((with_reducible refine (KA4.out _ ?_).mono ?_); assumption; rintro e w20 ⟨rfl, hS⟩)
    | ((with_reducible refine (KA5.out _ ?_).mono ?_); assumption; rintro e w20 ⟨rfl, hS⟩)
    | ((with_reducible refine (KA6.out _ ?_).mono ?_); assumption; rintro e w20 ⟨rfl, hS⟩))
  all_goals obtain ⟨-, -, -, -, -, -, hbw⟩ := hS
  all_goals have HBW := Lib.hid (HBE.out.trans (hbw.out.mono HBE.out.size))
  all_goals clear hbw KD KA1 KA2 KA3 KA4 KA5 KA6
  all_goals go_wp2
  all_goals go_ret
  all_goals exact ⟨rfl, HBW.out⟩
/-- As NetA gives it. -/
theorem netDoesA (v vl : Value) (n l : List Pk) (i : Int) (w : World) (h : ∃ u, v = .agg #[u] ∧ Sl w 0 w.heap.size u n) (hl : Sl w 0 w.heap.size vl l) :
    Calls Try.prog 3 #[v, vl, .int .i64 i] w fun e w' => e = .returned (.bool true) ∧ Below w.heap.size w w' := by
  obtain ⟨u, rfl, hu⟩ := h
  exact netDoes u vl n l i w hu hl
end Nt
end Go.Proofs.Ytejolapbdkkdaaa
