/-
  LogAsks: what a log is asked is answered as the document says.
-/
import Derived.Test.YthcjnnbnacdhoaaLogLive
import Derived.Test.YthcjnnbnacdhoaaLogSame
import Derived.Test.YthcjnnbnacdhoaaLogArg
import Derived.Test.YthcjnnbnacdhoaaLogMb
import Derived.Test.YthcjnnbnacdhoaaLogRfF
namespace Go.Proofs.Ythcjnnbnacdhoaa
open Go.RowKit Go.Lib
namespace Lo
set_option linter.unusedVariables false
theorem siB_self (ks : List Int) : siB ks ks = true := decide_eq_true rfl
theorem same_ints1 (v u : Value) (ks : List Int) (w : World) {A A2 : Nat} (hv : IntsR w A w.heap.size v ks) (hu : IntsR w A2 w.heap.size u ks) :
    Calls Try.prog 21 #[v, u] w fun e w' => e = .returned (.bool true) ∧ Below w.heap.size w w' := by
  have := same_ints v u ks ks w hv hu
  rw [siB_self] at this
  exact this
theorem same_entsA (a : Option Addr) (c : Nat) (l : List En) (a2 : Option Addr) (c2 : Nat) (w : World) {A A2 : Nat} (h : Sl w A w.heap.size a c l) (h2 : Sl w A2 w.heap.size a2 c2 l) :
    Calls Try.prog 16 #[.slice a l.length c, .slice a2 l.length c2] w fun e w' => e = .returned (.bool true) ∧ Below w.heap.size w w' := by
  have := same_ents a c l a2 c2 l w h h2
  rw [sameL_self] at this
  exact this
set_option maxHeartbeats 16000000 in
set_option maxRecDepth 100000 in
theorem logAsks (v : Value) (x : Lg) (ix te : Int) (mo : Int) (u : Value) (ks : List Int) (w : World) (hx : LogA w v x) (hi : (Lit.int .u64 ix).wf = true) (ht : (Lit.int .u64 te).wf = true) (hu : IntsR w 0 w.heap.size u ks) :
    Calls Try.prog 3 #[v, .int .u64 ix, .int .u64 te, .int .i64 mo, u] w fun e w' => e = .returned (.bool true) ∧ Below w.heap.size w w' := by
  obtain ⟨ix, rfl, hix⟩ := u64_of hi
  obtain ⟨te, rfl, hte⟩ := u64_of ht
  obtain ⟨b, t, a, c, l⟩ := x
  obtain ⟨rfl, hs, hb, htt⟩ := hx
  simp only at hs hb htt ⊢
  have hB : Below w.heap.size w (w.alloc (.cells #[.int .u64 (b : Nat), .int .u64 (t : Nat), .slice a l.length c] 25)) := (Below.refl _ _).alloc (Nat.le_refl _) _
  have HB0 := Lib.hid hB
  have C0 := Lib.hid (Bx3.made w (.int .u64 (b : Nat)) (.int .u64 (t : Nat)) (.slice a l.length c) 25)
  have HS0 := Lib.hid (hs.on hB)
  have HI0 := Lib.hid ((hu.keep hB).more hB.size (Nat.le_refl _))
  have KL := Lib.hid lives_true
  have HE1 := Lib.hid (fun z h => the_end b t a c l z (A := 0) h)
  have HE2 := Lib.hid (fun z h => end_ref b t a c l z (A := 0) h hb)
  have HT1 := Lib.hid (fun z h => the_term b t ix a c l z (A := 0) h hb hix)
  have HT2 := Lib.hid (fun z h => term_ref b t ix a c l z (A := 0) h hb hix)
  have HF1 := Lib.hid (fun z h => the_from b t ix mo a c l z (A := 0) h hb hix)
  have HF2 := Lib.hid (fun z h => from_ref b t ix mo a c l z (A := 0) h hb hix)
  have HN1 := Lib.hid (fun z h => the_newer b t ix te a c l z (A := 0) h)
  have HN2 := Lib.hid (fun z h => newer_ref b t ix te a c l z (A := 0) h hb)
  have HM1 := Lib.hid (fun z h hv => members_any b t ix u ks a c l z (A := 0) (A2 := 0) h hv hb hix)
  have HM2 := Lib.hid (fun z h hv => members_doc b t ix u ks a c l z (A := 0) (A2 := 0) h hv hb hix)
  have HC1 := Lib.hid (fun z h => log_check b t a c l z (A := 0) h)
  have HC2 := Lib.hid (fun z h => check_log b t a c l z (A := 0) h hb)
  have HSE := Lib.hid (fun f a1 c1 a2 c2 z h h2 => same_entsA a1 c1 f a2 c2 z (A := 0) (A2 := 0) h h2)
  obtain ⟨ua, uc, rfl⟩ := hu.slice
  clear hB hs hu
  unfold FromIs at HF1
  unfold FrIs at HF2
  unfold MbIs at HM1 HM2
  unfold lgE at HC2
  obtain ⟨cc, hcc⟩ : ∃ z : Int, (if okB b t l = true then (0 : Int) else 10) = z := ⟨_, rfl⟩
  rw [hcc] at HC1 HC2
  generalize lgE (okB b t l) = lg at *
  obtain ⟨e1, e2, e3, hE⟩ : ∃ e1 e2 e3 : Int, (if okB b t l = true then Value.tuple #[.int .u64 (eI b l : Nat), .int .u64 (eT t l : Nat), .int .i64 0] else .tuple #[.int .u64 0, .int .u64 0, .int .i64 10]) = .tuple #[.int .u64 e1, .int .u64 e2, .int .i64 e3] := by split <;> exact ⟨_, _, _, rfl⟩
  rw [hE] at HE1 HE2
  obtain ⟨t1, t2, hT⟩ : ∃ t1 t2 : Int, (if okB b t l = true then Value.tuple #[.int .u64 (tmV b t l ix : Nat), .int .i64 (tmE b l.length ix : Nat)] else .tuple #[.int .u64 0, .int .i64 10]) = .tuple #[.int .u64 t1, .int .i64 t2] := by split <;> exact ⟨_, _, rfl⟩
  rw [hT] at HT1 HT2
  obtain ⟨n1, n2, hN⟩ : ∃ (n1 : Bool) (n2 : Int), (if okB b t l = true then Value.tuple #[.bool (nwB b t l ix te), .int .i64 0] else .tuple #[.bool false, .int .i64 10]) = .tuple #[.bool n1, .int .i64 n2] := by split <;> exact ⟨_, _, rfl⟩
  rw [hN] at HN1 HN2
  generalize frL b t l ix mo = f at *
  generalize frE b t l ix = fe at *
  generalize mbO b t l ix ks = mk at *
  clear hcc hE hT hN hix hte hb htt
  have z1 : (e1 != e1) = false := by simp
  have z2 : (e2 != e2) = false := by simp
  have z3 : (e3 != e3) = false := by simp
  have z4 : (t1 != t1) = false := by simp
  have z5 : (t2 != t2) = false := by simp
  have z6 : ((fe : Int) != (fe : Int)) = false := by simp
  have z7 : (n1 == n1) = true := by simp
  have z8 : (n2 == n2) = true := by simp
  have z9 : (lg == lg) = true := by simp
  have z10 : (cc == cc) = true := by simp
  go_enter Try.func3, Try.ntmps3
  go_upto_region 1 with fail
  generalize (w.alloc (.cells #[.int .u64 (b : Nat), .int .u64 (t : Nat), .slice a l.length c] 25)) = W0 at *
  obtain ⟨d00, d01, d02⟩ := C0.out.cells
  go_wp2_with (go_at_call 9; go_loud ((with_reducible refine (HE1.out _ HS0.out).mono ?_); rintro e w1 ⟨rfl, hb⟩; have HB1 := Lib.hid (HB0.out.trans (hb.mono HB0.out.size)); have HS1 := Lib.hid (HS0.out.on hb); have HI1 := Lib.hid ((HI0.out.keep hb).more hb.size (Nat.le_refl _)); have C1 := Lib.hid (C0.out.below hb); obtain ⟨d10, d11, d12⟩ := C1.out.cells; clear hb))
  go_wp2_with (go_at_call 10; go_loud ((with_reducible refine (HE2.out _ HS1.out).mono ?_); rintro e w2 ⟨rfl, hb⟩; have HB2 := Lib.hid (HB1.out.trans (hb.mono HB1.out.size)); have HS2 := Lib.hid (HS1.out.on hb); have HI2 := Lib.hid ((HI1.out.keep hb).more hb.size (Nat.le_refl _)); have C2 := Lib.hid (C1.out.below hb); obtain ⟨d20, d21, d22⟩ := C2.out.cells; clear hb))
  go_wp2_with (go_at_call 11; go_loud ((with_reducible refine (HT1.out _ HS2.out).mono ?_); rintro e w3 ⟨rfl, hb⟩; have HB3 := Lib.hid (HB2.out.trans (hb.mono HB2.out.size)); have HS3 := Lib.hid (HS2.out.on hb); have HI3 := Lib.hid ((HI2.out.keep hb).more hb.size (Nat.le_refl _)); have C3 := Lib.hid (C2.out.below hb); obtain ⟨d30, d31, d32⟩ := C3.out.cells; clear hb))
  go_wp2_with (go_at_call 12; go_loud ((with_reducible refine (HT2.out _ HS3.out).mono ?_); rintro e w4 ⟨rfl, hb⟩; have HB4 := Lib.hid (HB3.out.trans (hb.mono HB3.out.size)); have HS4 := Lib.hid (HS3.out.on hb); have HI4 := Lib.hid ((HI3.out.keep hb).more hb.size (Nat.le_refl _)); have C4 := Lib.hid (C3.out.below hb); obtain ⟨d40, d41, d42⟩ := C4.out.cells; clear hb))
  go_wp2_with (go_at_call 13; go_loud ((with_reducible refine (HF1.out _ HS4.out).mono ?_); rintro e w5 ⟨⟨a5, c5, rfl, ho⟩, hb⟩; have HB5 := Lib.hid (HB4.out.trans (hb.mono HB4.out.size)); have HS5 := Lib.hid (HS4.out.on hb); have HI5 := Lib.hid ((HI4.out.keep hb).more hb.size (Nat.le_refl _)); have C5 := Lib.hid (C4.out.below hb); obtain ⟨d50, d51, d52⟩ := C5.out.cells; have HG5 := Lib.hid (ho.sl.more (Nat.le_refl _) (Nat.zero_le _)); clear ho; clear hb))
  go_wp2_with (go_at_call 14; go_loud ((with_reducible refine (HF2.out _ HS5.out).mono ?_); rintro e w6 ⟨⟨a6, c6, rfl, ho⟩, hb⟩; have HB6 := Lib.hid (HB5.out.trans (hb.mono HB5.out.size)); have HS6 := Lib.hid (HS5.out.on hb); have HI6 := Lib.hid ((HI5.out.keep hb).more hb.size (Nat.le_refl _)); have C6 := Lib.hid (C5.out.below hb); obtain ⟨d60, d61, d62⟩ := C6.out.cells; have HG6 := Lib.hid (HG5.out.on hb); have HH6 := Lib.hid ho; clear ho; clear hb))
  go_wp2_with (go_at_call 15; go_loud ((with_reducible refine (KL.out _).mono ?_); rintro e w7 ⟨rfl, hb⟩; have HB7 := Lib.hid (HB6.out.trans (hb.mono HB6.out.size)); have HS7 := Lib.hid (HS6.out.on hb); have HI7 := Lib.hid ((HI6.out.keep hb).more hb.size (Nat.le_refl _)); have C7 := Lib.hid (C6.out.below hb); obtain ⟨d70, d71, d72⟩ := C7.out.cells; have HG7 := Lib.hid (HG6.out.on hb); have HH7 := Lib.hid (HH6.out.on hb); clear hb))
  go_wp2_with (go_at_call 16; go_loud ((with_reducible refine (HSE.out _ _ _ _ _ _ HG7.out HH7.out).mono ?_); rintro e w8 ⟨rfl, hb⟩; have HB8 := Lib.hid (HB7.out.trans (hb.mono HB7.out.size)); have HS8 := Lib.hid (HS7.out.on hb); have HI8 := Lib.hid ((HI7.out.keep hb).more hb.size (Nat.le_refl _)); have C8 := Lib.hid (C7.out.below hb); obtain ⟨d80, d81, d82⟩ := C8.out.cells; clear hb))
  go_wp2_with (go_at_call 17; go_loud ((with_reducible refine (HN1.out _ HS8.out).mono ?_); rintro e w9 ⟨rfl, hb⟩; have HB9 := Lib.hid (HB8.out.trans (hb.mono HB8.out.size)); have HS9 := Lib.hid (HS8.out.on hb); have HI9 := Lib.hid ((HI8.out.keep hb).more hb.size (Nat.le_refl _)); have C9 := Lib.hid (C8.out.below hb); obtain ⟨d90, d91, d92⟩ := C9.out.cells; clear hb))
  go_wp2_with (go_at_call 18; go_loud ((with_reducible refine (HN2.out _ HS9.out).mono ?_); rintro e w10 ⟨rfl, hb⟩; have HB10 := Lib.hid (HB9.out.trans (hb.mono HB9.out.size)); have HS10 := Lib.hid (HS9.out.on hb); have HI10 := Lib.hid ((HI9.out.keep hb).more hb.size (Nat.le_refl _)); have C10 := Lib.hid (C9.out.below hb); obtain ⟨d100, d101, d102⟩ := C10.out.cells; clear hb))
  go_wp2_with (go_at_call 19; go_loud ((with_reducible refine (HM1.out _ HS10.out HI10.out).mono ?_); rintro e w11 ⟨⟨a11, c11, rfl, ho⟩, hb⟩; have HB11 := Lib.hid (HB10.out.trans (hb.mono HB10.out.size)); have HS11 := Lib.hid (HS10.out.on hb); have HI11 := Lib.hid ((HI10.out.keep hb).more hb.size (Nat.le_refl _)); have C11 := Lib.hid (C10.out.below hb); obtain ⟨d110, d111, d112⟩ := C11.out.cells; have HP11 := Lib.hid ho; clear ho; clear hb))
  go_upto_region 13 with (go_at_call 20; go_loud ((with_reducible refine (HM2.out _ HS11.out HI11.out).mono ?_); rintro e w12 ⟨⟨a12, c12, rfl, ho⟩, hb⟩; have HB12 := Lib.hid (HB11.out.trans (hb.mono HB11.out.size)); have HS12 := Lib.hid (HS11.out.on hb); have HI12 := Lib.hid ((HI11.out.keep hb).more hb.size (Nat.le_refl _)); have C12 := Lib.hid (C11.out.below hb); obtain ⟨d120, d121, d122⟩ := C12.out.cells; have HQ12 := Lib.hid ho; have HP12 := Lib.hid ((HP11.out.keep hb).more hb.size (Nat.le_refl _)); clear ho; clear hb))
  have KS : Hid (∀ z, (fun z => z.cell? ⟨w.heap.size, 0, none⟩ = some (.int .u64 (b : Nat)) ∧ z.cell? ⟨w.heap.size, 1, none⟩ = some (.int .u64 (t : Nat)) ∧ z.cell? ⟨w.heap.size, 2, none⟩ = some (.slice a l.length c) ∧ Hid (Below w12.heap.size w12 z)) z → Calls Try.prog 21 #[.slice a11 mk.length c11, .slice a12 mk.length c12] z fun e z' => e = .returned (.bool true) ∧ (fun z => z.cell? ⟨w.heap.size, 0, none⟩ = some (.int .u64 (b : Nat)) ∧ z.cell? ⟨w.heap.size, 1, none⟩ = some (.int .u64 (t : Nat)) ∧ z.cell? ⟨w.heap.size, 2, none⟩ = some (.slice a l.length c) ∧ Hid (Below w12.heap.size w12 z)) z') := by
    intro z ⟨q0, q1, q2, hS⟩
    refine Calls.mono (same_ints1 _ _ mk z (A := 0) (A2 := 0) ((HP12.out.keep hS.out).more hS.out.size (Nat.le_refl _)) ((HQ12.out.keep hS.out).more hS.out.size (Nat.le_refl _))) ?_
    rintro e z' ⟨he, hb⟩
    have hP : w.heap.size < z.heap.size := Nat.lt_of_lt_of_le C12.out.lt hS.out.size
    exact ⟨he, (hb.cell (by exact hP)).trans q0, (hb.cell (by exact hP)).trans q1, (hb.cell (by exact hP)).trans q2, hS.out.trans (hb.mono hS.out.size)⟩
  have KC : Hid (∀ z, (fun z => z.cell? ⟨w.heap.size, 0, none⟩ = some (.int .u64 (b : Nat)) ∧ z.cell? ⟨w.heap.size, 1, none⟩ = some (.int .u64 (t : Nat)) ∧ z.cell? ⟨w.heap.size, 2, none⟩ = some (.slice a l.length c) ∧ Hid (Below w12.heap.size w12 z)) z → Calls Try.prog 22 #[.agg #[.int .u64 (b : Nat), .int .u64 (t : Nat), .slice a l.length c]] z fun e z' => e = .returned (.int .i64 cc) ∧ (fun z => z.cell? ⟨w.heap.size, 0, none⟩ = some (.int .u64 (b : Nat)) ∧ z.cell? ⟨w.heap.size, 1, none⟩ = some (.int .u64 (t : Nat)) ∧ z.cell? ⟨w.heap.size, 2, none⟩ = some (.slice a l.length c) ∧ Hid (Below w12.heap.size w12 z)) z') := by
    intro z ⟨q0, q1, q2, hS⟩
    refine Calls.mono (HC1.out z (HS12.out.on hS.out)) ?_
    rintro e z' ⟨he, hb⟩
    have hP : w.heap.size < z.heap.size := Nat.lt_of_lt_of_le C12.out.lt hS.out.size
    exact ⟨he, (hb.cell (by exact hP)).trans q0, (hb.cell (by exact hP)).trans q1, (hb.cell (by exact hP)).trans q2, hS.out.trans (hb.mono hS.out.size)⟩
  have KR : Hid (∀ z, (fun z => z.cell? ⟨w.heap.size, 0, none⟩ = some (.int .u64 (b : Nat)) ∧ z.cell? ⟨w.heap.size, 1, none⟩ = some (.int .u64 (t : Nat)) ∧ z.cell? ⟨w.heap.size, 2, none⟩ = some (.slice a l.length c) ∧ Hid (Below w12.heap.size w12 z)) z → Calls Try.prog 23 #[.agg #[.int .u64 (b : Nat), .int .u64 (t : Nat), .slice a l.length c]] z fun e z' => e = .returned (.int .i64 cc) ∧ (fun z => z.cell? ⟨w.heap.size, 0, none⟩ = some (.int .u64 (b : Nat)) ∧ z.cell? ⟨w.heap.size, 1, none⟩ = some (.int .u64 (t : Nat)) ∧ z.cell? ⟨w.heap.size, 2, none⟩ = some (.slice a l.length c) ∧ Hid (Below w12.heap.size w12 z)) z') := by
    intro z ⟨q0, q1, q2, hS⟩
    refine Calls.mono (HC2.out z (HS12.out.on hS.out)) ?_
    rintro e z' ⟨he, hb⟩
    have hP : w.heap.size < z.heap.size := Nat.lt_of_lt_of_le C12.out.lt hS.out.size
    exact ⟨he, (hb.cell (by exact hP)).trans q0, (hb.cell (by exact hP)).trans q1, (hb.cell (by exact hP)).trans q2, hS.out.trans (hb.mono hS.out.size)⟩
  have KD : Hid ((fun z => z.cell? ⟨w.heap.size, 0, none⟩ = some (.int .u64 (b : Nat)) ∧ z.cell? ⟨w.heap.size, 1, none⟩ = some (.int .u64 (t : Nat)) ∧ z.cell? ⟨w.heap.size, 2, none⟩ = some (.slice a l.length c) ∧ Hid (Below w12.heap.size w12 z)) w12.drew) := ⟨d120, d121, d122, (Below.refl _ _).drew⟩
  have KB : Hid (∀ z, (fun z => z.cell? ⟨w.heap.size, 0, none⟩ = some (.int .u64 (b : Nat)) ∧ z.cell? ⟨w.heap.size, 1, none⟩ = some (.int .u64 (t : Nat)) ∧ z.cell? ⟨w.heap.size, 2, none⟩ = some (.slice a l.length c) ∧ Hid (Below w12.heap.size w12 z)) z → Below w.heap.size w z) := fun z h => HB12.out.trans (h.2.2.2.out.mono HB12.out.size)
  clear KL HE1 HE2 HT1 HT2 HF1 HF2 HN1 HN2 HM1 HM2 HC1 HC2 HSE
  go_region_held3 (fun z => z.cell? ⟨w.heap.size, 0, none⟩ = some (.int .u64 (b : Nat)) ∧ z.cell? ⟨w.heap.size, 1, none⟩ = some (.int .u64 (t : Nat)) ∧ z.cell? ⟨w.heap.size, 2, none⟩ = some (.slice a l.length c) ∧ Hid (Below w12.heap.size w12 z)) (first | assumption | exact KD.out)
    (first
      | (go_at_call 21; go_loud ((with_reducible refine (KS.out _ ?_).mono ?_); assumption; rintro e w7 ⟨rfl, hS⟩))
      | (go_at_call 22; go_loud ((with_reducible refine (KC.out _ ?_).mono ?_); assumption; rintro e w7 ⟨rfl, hS⟩))
      | (go_at_call 23; go_loud ((with_reducible refine (KR.out _ ?_).mono ?_); assumption; rintro e w7 ⟨rfl, hS⟩)))
  all_goals
    have HBF := Lib.hid (KB.out _ ‹_›)
    go_wp2
    go_ret
    exact ⟨by first | rfl | simp, HBF.out⟩
end Lo
end Go.Proofs.Ythcjnnbnacdhoaa
