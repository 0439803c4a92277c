/-
  LogTrimmed: behind a trim all above is as it was.
-/
import Derived.Test.YtjalmciaaenmjaaLogLive
import Derived.Test.YtjalmciaaenmjaaLogSame
import Derived.Test.YtjalmciaaenmjaaLogArg
namespace Go.Proofs.Ytjalmciaaenmjaa
open Go.RowKit Go.Lib
namespace Lo
set_option linter.unusedVariables false
theorem tm_in {b t : Nat} {l : List En} {x : Nat} (h1 : b < x) (h2 : x ≤ b + l.length) : tmV b t l x = (l[x - b - 1]'(by omega)).t := by
  unfold tmV
  rw [if_neg (by omega), if_neg (by omega), if_neg (by omega), List.getElem?_eq_getElem (by omega : x - b - 1 < l.length)]
/-- What a trimmed log is. -/
theorem trim_math {b t : Nat} {l : List En} {x : Nat} (hb : Lt64 b) (h : trOk b t l x = true) :
    okB b t l = true ∧ okB (trB b t l x) (trT b t l x) (trL b t l x) = true ∧ eI (trB b t l x) (trL b t l x) = eI b l ∧ eT (trT b t l x) (trL b t l x) = eT t l ∧ Lt64 (trB b t l x) ∧
      (∀ i, i < trB b t l x → tmE (trB b t l x) (trL b t l x).length i = 15) ∧ (∀ i, trB b t l x ≤ i → tmE (trB b t l x) (trL b t l x).length i = tmE b l.length i ∧ tmV (trB b t l x) (trT b t l x) (trL b t l x) i = tmV b t l i) := by
  have hk : okB b t l = true := by unfold trOk at h; simp only [Bool.and_eq_true] at h; exact h.1
  have hx : x ≤ eI b l := by unfold trOk at h; simp only [Bool.and_eq_true, decide_eq_true_eq] at h; exact h.2
  have he := eI_ok hk hb
  have h15 : ∀ (B n i : Nat), i < B → tmE B n i = 15 := fun B n i hi => by unfold tmE; rw [if_pos hi]
  unfold trB trT trL
  rw [if_pos h, if_pos h, if_pos h]
  by_cases h1 : x ≤ b
  · rw [if_pos h1, if_pos h1, if_pos h1]
    exact ⟨hk, hk, rfl, rfl, hb, h15 _ _, fun i _ => ⟨rfl, rfl⟩⟩
  · rw [if_neg h1, if_neg h1, if_neg h1]
    rw [he] at hx
    obtain ⟨k, hk0⟩ : ∃ k, x = b + k := ⟨x - b, by omega⟩
    have hm : mny b l.length x = k := by unfold mny; rw [if_neg h1]; omega
    rw [hm, tm_in (by omega) hx]
    subst hk0
    obtain ⟨h2, h3, h4⟩ := ok_is hk
    obtain ⟨r1, r2⟩ := row_is l b h3 hb
    obtain ⟨f1, f2⟩ := (fall_is l t).1 h4
    have hkn : k ≤ l.length := by omega
    have hk1 : 1 ≤ k := by omega
    have hz : ∀ (hi : b + k - b - 1 < l.length), l[b + k - b - 1] = l[k - 1]'(by omega) := fun hi => by congr 1; omega
    rw [hz]
    have hx64 : Lt64 (b + k) := by unfold Lt64 at r1 ⊢; omega
    have hn : okB (b + k) (l[k - 1]'(by omega)).t (l.drop k) = true := by
      refine ok_of (fun e => absurd e (by omega)) (row_of _ _ ?_ ?_) ((fall_is _ _).2 ⟨fun hp => ?_, fun i hi => ?_⟩)
      · rw [List.length_drop]; unfold Lt64 at r1 ⊢; omega
      · intro i hi
        rw [List.length_drop] at hi
        obtain ⟨q1, q2⟩ := r2 (k + i) (by omega)
        rw [List.getElem_drop]
        exact ⟨by rw [q1]; omega, q2⟩
      · rw [List.length_drop] at hp
        rw [List.getElem_drop]
        have := f2 (k - 1) (by omega)
        have e : k - 1 + 1 = k + 0 := by omega
        simp only [e] at this
        exact this
      · rw [List.length_drop] at hi
        rw [List.getElem_drop, List.getElem_drop]
        exact f2 (k + i) (by omega)
    refine ⟨hk, hn, ?_, ?_, hx64, h15 _ _, fun i hi => ⟨?_, ?_⟩⟩
    · rw [eI_ok hn hx64, he, List.length_drop]; omega
    · by_cases hl : k = l.length
      · have e0 : l.drop k = [] := List.drop_eq_nil_of_le (by omega)
        rw [e0, eT_nil, eT_at t l (by omega)]
        congr 1
        subst hl
        rfl
      · rw [eT_at _ _ (by rw [List.length_drop]; omega), eT_at t l (by omega), List.getElem_drop]
        congr 2
        rw [List.length_drop]; omega
    · unfold tmE
      rw [List.length_drop]
      by_cases c1 : b + l.length < i
      · rw [if_neg (by omega), if_pos (by omega), if_neg (by omega), if_pos c1]
      · rw [if_neg (by omega), if_neg (by omega), if_neg (by omega), if_neg c1]
    · by_cases c1 : b + l.length < i
      · unfold tmV
        rw [if_neg (by omega), if_pos (by rw [List.length_drop]; omega), if_neg (by omega), if_pos c1]
      · by_cases c2 : i = b + k
        · subst c2
          rw [tm_in (b := b) (t := t) (l := l) (x := b + k) (by omega) (by omega)]
          unfold tmV
          rw [if_neg (by omega), if_neg (by omega), if_pos rfl]
          congr 1
          simp only [hz]
        · rw [tm_in (by omega) (by rw [List.length_drop]; omega), tm_in (by omega) (by omega), List.getElem_drop]
          congr 2
          omega
theorem trim_bad {b t : Nat} {l : List En} {x : Nat} (h : trOk b t l x = false) : trB b t l x = 0 ∧ trT b t l x = 0 ∧ trL b t l x = [] ∧ trE b t l x ≠ 0 := by
  refine ⟨by unfold trB; rw [h]; rfl, by unfold trT; rw [h]; rfl, by unfold trL; rw [h]; rfl, ?_⟩
  unfold trE
  unfold trOk at h
  split
  · next hk =>
    rw [hk, Bool.true_and, decide_eq_false_iff_not] at h
    rw [if_neg h]; decide
  · decide
theorem trim_good {b t : Nat} {l : List En} {x : Nat} (h : trOk b t l x = true) : trE b t l x = 0 := by
  unfold trOk at h
  simp only [Bool.and_eq_true, decide_eq_true_eq] at h
  unfold trE
  rw [if_pos h.1, if_pos h.2]
set_option maxHeartbeats 16000000 in
theorem logTrimmed (v : Value) (x : Lg) (up ix te : Int) (w : World) (hx : LogA w v x) (hu : (Lit.int .u64 up).wf = true) (hi : (Lit.int .u64 ix).wf = true) (ht : (Lit.int .u64 te).wf = true) :
    Calls Try.prog 6 #[v, .int .u64 up, .int .u64 ix, .int .u64 te] w fun e w' => e = .returned (.bool true) ∧ Below w.heap.size w w' := by
  obtain ⟨up, rfl, hup⟩ := u64_of hu
  obtain ⟨ix, rfl, hix⟩ := u64_of hi
  obtain ⟨te, rfl, hte⟩ := u64_of ht
  obtain ⟨b, t, a, c, l⟩ := x
  obtain ⟨rfl, hs, hb, htt⟩ := hx
  simp only at hs hb htt ⊢
  have hB : Below w.heap.size w (w.alloc (.cells #[.int .u64 (b : Nat), .int .u64 (t : Nat), .slice a l.length c] 25)) := (Below.refl _ _).alloc (Nat.le_refl _) _
  have HB0 := Lib.hid hB
  have C0 := Lib.hid (Bx3.made w (.int .u64 (b : Nat)) (.int .u64 (t : Nat)) (.slice a l.length c) 25)
  have HS0 := Lib.hid (hs.on hB)
  have KL := Lib.hid lives_true
  have HTR := Lib.hid (fun z h => the_trim b t up a c l z (A := 0) h hb hup)
  unfold TrimIs at HTR
  clear hB hs
  cases hq : trOk b t l up
  · obtain ⟨q1, q2, q3, q4⟩ := trim_bad hq
    rw [q1, q2, q3] at HTR
    obtain ⟨r, hr⟩ : ∃ r, trE b t l up = r := ⟨_, rfl⟩
    rw [hr] at HTR q4
    have q5 : ¬ (r : Int) = 0 := by omega
    have q6 : ((r : Int) != 0) = true := by simp; omega
    have HSM := Lib.hid (fun a1 c1 z h1 => same_log 0 0 a1 c1 [] 0 0 none 0 [] z (A := 0) (A2 := 0) h1 (Sl.empty _ _ _ _ _ (fun _ => rfl)))
    simp only [sameG_self] at HSM
    simp only [List.length_nil] at HTR HSM
    simp only [show ((0 : Nat) : Int) = 0 from rfl] at HTR HSM
    clear q1 q2 q3 q4 hr hq hup hix hte hb htt
    go_enter Try.func6, Try.ntmps6
    go_upto_region 1 with fail
    generalize (w.alloc (.cells #[.int .u64 (b : Nat), .int .u64 (t : Nat), .slice a l.length c] 25)) = W0 at *
    obtain ⟨d00, d01, d02⟩ := C0.out.cells
    go_upto_region 4 with (first
      | (go_at_call 15; go_loud ((with_reducible refine (KL.out _).mono ?_); rintro e w1 ⟨rfl, hb⟩; have HB1 := Lib.hid (HB0.out.trans (hb.mono HB0.out.size)); have HS1 := Lib.hid (HS0.out.on hb); have C1 := Lib.hid (C0.out.below hb); obtain ⟨d10, d11, d12⟩ := C1.out.cells; clear hb))
      | (go_at_call 28; go_loud ((with_reducible refine (HTR.out _ HS1.out).mono ?_); rintro e w2 ⟨⟨a2, c2, rfl, ho⟩, hb⟩; have HB2 := Lib.hid (HB1.out.trans (hb.mono HB1.out.size)); have HO := Lib.hid (ho.sl.more (Nat.le_refl _) (Nat.zero_le _)); clear hb ho)))
    have ha : Below w2.heap.size w2 (w2.alloc (.cells #[.int .u64 0, .int .u64 0, .slice a2 0 c2] 25)) := ((Below.refl _ _).alloc (Nat.le_refl _) _)
    have R3 := Lib.hid (Bx3.made w2 (.int .u64 0) (.int .u64 0) (.slice a2 0 c2) 25)
    have HB3 := Lib.hid (HB2.out.trans (ha.mono HB2.out.size))
    have HO3 := Lib.hid (HO.out.on ha)
    clear ha
    generalize w2.alloc (.cells #[.int .u64 0, .int .u64 0, .slice a2 0 c2] 25) = w3 at *
    generalize w2.heap.size = N at *
    obtain ⟨e30, e31, e32⟩ := R3.out.cells
    go_wp2_with (go_at_call 30; go_loud ((with_reducible refine (HSM.out _ _ _ HO3.out).mono ?_); rintro e w4 ⟨rfl, hb⟩; have HB4 := Lib.hid (HB3.out.trans (hb.mono HB3.out.size)); clear hb))
    go_wp2
    go_ret
    exact ⟨rfl, HB4.out⟩
  · obtain ⟨hk, m1, m2, m3, m4, m5, m6⟩ := trim_math hb hq
    rw [trim_good hq] at HTR
    have HN : nwB (trB b t l up) (trT b t l up) (trL b t l up) ix te = nwB b t l ix te := by unfold nwB; rw [m2, m3]
    have HE1 := Lib.hid (fun z h => the_end b t a c l z (A := 0) h)
    have HE2 := Lib.hid (fun a2 c2 z h => the_end (trB b t l up) (trT b t l up) a2 c2 (trL b t l up) z (A := 0) h)
    have HN1 := Lib.hid (fun z h => the_newer b t ix te a c l z (A := 0) h)
    have HN2 := Lib.hid (fun a2 c2 z h => the_newer (trB b t l up) (trT b t l up) ix te a2 c2 (trL b t l up) z (A := 0) h)
    have HT1 := Lib.hid (fun z h => the_term b t ix a c l z (A := 0) h hb hix)
    have HT2 := Lib.hid (fun a2 c2 z h => the_term (trB b t l up) (trT b t l up) ix a2 c2 (trL b t l up) z (A := 0) h m4 hix)
    have HC2 := Lib.hid (fun a2 c2 z h => log_check (trB b t l up) (trT b t l up) a2 c2 (trL b t l up) z (A := 0) h)
    simp only [hk, if_true] at HE1 HN1 HT1
    simp only [m1, if_true, m2, m3, HN] at HE2 HN2 HT2 HC2
    generalize eI b l = y1 at *
    generalize eT t l = y2 at *
    generalize nwB b t l ix te = y3 at *
    generalize trB b t l up = B at *
    generalize trT b t l up = U at *
    generalize trL b t l up = L at *
    have z1 : ((y1 : Int) != (y1 : Int)) = false := by simp
    have z2 : ((y2 : Int) != (y2 : Int)) = false := by simp
    have z3 : (y3 != y3) = false := by simp
    by_cases hlt : ix < B
    · have hi1 : (ix : Int) < (B : Int) := by omega
      rw [m5 ix hlt] at HT2
      generalize tmE b l.length ix = y4 at *
      generalize tmV b t l ix = y5 at *
      generalize tmV B U L ix = y6 at *
      have HFIN : True := trivial
      clear m1 m2 m3 m4 m5 m6 hk hq hup hix hte hb htt hlt HN
      go_enter Try.func6, Try.ntmps6
      go_upto_region 1 with fail
      generalize (w.alloc (.cells #[.int .u64 (b : Nat), .int .u64 (t : Nat), .slice a l.length c] 25)) = W0 at *
      obtain ⟨d00, d01, d02⟩ := C0.out.cells
      go_upto_region 4 with (first
        | (go_at_call 15; go_loud ((with_reducible refine (KL.out _).mono ?_); rintro e w1 ⟨rfl, hb⟩; have HB1 := Lib.hid (HB0.out.trans (hb.mono HB0.out.size)); have HS1 := Lib.hid (HS0.out.on hb); have C1 := Lib.hid (C0.out.below hb); obtain ⟨d10, d11, d12⟩ := C1.out.cells; clear hb))
        | (go_at_call 28; go_loud ((with_reducible refine (HTR.out _ HS1.out).mono ?_); rintro e w2 ⟨⟨a2, c2, rfl, ho⟩, hb⟩; have HB2 := Lib.hid (HB1.out.trans (hb.mono HB1.out.size)); have HS2 := Lib.hid (HS1.out.on hb); have C2 := Lib.hid (C1.out.below hb); obtain ⟨d20, d21, d22⟩ := C2.out.cells; have HO := Lib.hid (ho.sl.more (Nat.le_refl _) (Nat.zero_le _)); clear hb ho)))
      have hb : Below w2.heap.size w2 (w2.alloc (.cells #[.int .u64 (B : Nat), .int .u64 (U : Nat), .slice a2 L.length c2] 25)) := ((Below.refl _ _).alloc (Nat.le_refl _) _)
      have R3 := Lib.hid (Bx3.made w2 (.int .u64 (B : Nat)) (.int .u64 (U : Nat)) (.slice a2 L.length c2) 25)
      have HM3 := Lib.hid (HO.out.on hb)
      have HB3 := Lib.hid (HB2.out.trans (hb.mono HB2.out.size))
      have HS3 := Lib.hid (HS2.out.on hb)
      have C3 := Lib.hid (C2.out.below hb)
      clear hb
      generalize w2.alloc (.cells #[.int .u64 (B : Nat), .int .u64 (U : Nat), .slice a2 L.length c2] 25) = w3 at *
      generalize w2.heap.size = N at *
      obtain ⟨d30, d31, d32⟩ := C3.out.cells
      obtain ⟨e30, e31, e32⟩ := R3.out.cells
      go_wp2_with (go_at_call 9; go_loud ((with_reducible refine (HE1.out _ HS3.out).mono ?_); rintro e w4 ⟨rfl, hb⟩; have HB4 := Lib.hid (HB3.out.trans (hb.mono HB3.out.size)); have HS4 := Lib.hid (HS3.out.on hb); have C4 := Lib.hid (C3.out.below hb); obtain ⟨d40, d41, d42⟩ := C4.out.cells; have HM4 := Lib.hid (HM3.out.on hb); have R4 := Lib.hid (R3.out.below hb); obtain ⟨e40, e41, e42⟩ := R4.out.cells; clear hb))
      go_wp2_with (go_at_call 9; go_loud ((with_reducible refine (HE2.out _ _ _ HM4.out).mono ?_); rintro e w5 ⟨rfl, hb⟩; have HB5 := Lib.hid (HB4.out.trans (hb.mono HB4.out.size)); have HS5 := Lib.hid (HS4.out.on hb); have C5 := Lib.hid (C4.out.below hb); obtain ⟨d50, d51, d52⟩ := C5.out.cells; have HM5 := Lib.hid (HM4.out.on hb); have R5 := Lib.hid (R4.out.below hb); obtain ⟨e50, e51, e52⟩ := R5.out.cells; clear hb))
      go_wp2_with (go_at_call 17; go_loud ((with_reducible refine (HN1.out _ HS5.out).mono ?_); rintro e w6 ⟨rfl, hb⟩; have HB6 := Lib.hid (HB5.out.trans (hb.mono HB5.out.size)); have HS6 := Lib.hid (HS5.out.on hb); have C6 := Lib.hid (C5.out.below hb); obtain ⟨d60, d61, d62⟩ := C6.out.cells; have HM6 := Lib.hid (HM5.out.on hb); have R6 := Lib.hid (R5.out.below hb); obtain ⟨e60, e61, e62⟩ := R6.out.cells; clear hb))
      go_wp2_with (go_at_call 17; go_loud ((with_reducible refine (HN2.out _ _ _ HM6.out).mono ?_); rintro e w7 ⟨rfl, hb⟩; have HB7 := Lib.hid (HB6.out.trans (hb.mono HB6.out.size)); have HS7 := Lib.hid (HS6.out.on hb); have C7 := Lib.hid (C6.out.below hb); obtain ⟨d70, d71, d72⟩ := C7.out.cells; have HM7 := Lib.hid (HM6.out.on hb); have R7 := Lib.hid (R6.out.below hb); obtain ⟨e70, e71, e72⟩ := R7.out.cells; clear hb))
      go_wp2_with (go_at_call 11; go_loud ((with_reducible refine (HT1.out _ HS7.out).mono ?_); rintro e w8 ⟨rfl, hb⟩; have HB8 := Lib.hid (HB7.out.trans (hb.mono HB7.out.size)); have HS8 := Lib.hid (HS7.out.on hb); have C8 := Lib.hid (C7.out.below hb); obtain ⟨d80, d81, d82⟩ := C8.out.cells; have HM8 := Lib.hid (HM7.out.on hb); have R8 := Lib.hid (R7.out.below hb); obtain ⟨e80, e81, e82⟩ := R8.out.cells; clear hb))
      go_wp2_with (go_at_call 11; go_loud ((with_reducible refine (HT2.out _ _ _ HM8.out).mono ?_); rintro e w9 ⟨rfl, hb⟩; have HB9 := Lib.hid (HB8.out.trans (hb.mono HB8.out.size)); have HS9 := Lib.hid (HS8.out.on hb); have C9 := Lib.hid (C8.out.below hb); obtain ⟨d90, d91, d92⟩ := C9.out.cells; have HM9 := Lib.hid (HM8.out.on hb); have R9 := Lib.hid (R8.out.below hb); obtain ⟨e90, e91, e92⟩ := R9.out.cells; clear hb))
      go_wp2_with (go_at_call 22; go_loud ((with_reducible refine (HC2.out _ _ _ HM9.out).mono ?_); rintro e w10 ⟨rfl, hb⟩; have HB10 := Lib.hid (HB9.out.trans (hb.mono HB9.out.size)); have HS10 := Lib.hid (HS9.out.on hb); have C10 := Lib.hid (C9.out.below hb); obtain ⟨d100, d101, d102⟩ := C10.out.cells; have HM10 := Lib.hid (HM9.out.on hb); have R10 := Lib.hid (R9.out.below hb); obtain ⟨e100, e101, e102⟩ := R10.out.cells; clear hb))
      go_wp2
      go_ret
      exact ⟨by first | rfl | simp, HB10.out⟩
    · have hi1 : ¬ (ix : Int) < (B : Int) := by omega
      have hi2 : decide ((ix : Int) < (B : Int)) = false := by simp; omega
      have hi3 : decide (ix < B) = false := by simp; omega
      obtain ⟨n1, n2⟩ := m6 ix (by omega)
      rw [n1, n2] at HT2
      generalize tmE b l.length ix = y4 at *
      generalize tmV b t l ix = y5 at *
      have z4 : ((y4 : Int) == (y4 : Int)) = true := by simp
      have z5 : ((y5 : Int) == (y5 : Int)) = true := by simp
      have HFIN : True := trivial
      clear m1 m2 m3 m4 m5 m6 hk hq hup hix hte hb htt hlt HN n1 n2
      go_enter Try.func6, Try.ntmps6
      go_upto_region 1 with fail
      generalize (w.alloc (.cells #[.int .u64 (b : Nat), .int .u64 (t : Nat), .slice a l.length c] 25)) = W0 at *
      obtain ⟨d00, d01, d02⟩ := C0.out.cells
      go_upto_region 4 with (first
        | (go_at_call 15; go_loud ((with_reducible refine (KL.out _).mono ?_); rintro e w1 ⟨rfl, hb⟩; have HB1 := Lib.hid (HB0.out.trans (hb.mono HB0.out.size)); have HS1 := Lib.hid (HS0.out.on hb); have C1 := Lib.hid (C0.out.below hb); obtain ⟨d10, d11, d12⟩ := C1.out.cells; clear hb))
        | (go_at_call 28; go_loud ((with_reducible refine (HTR.out _ HS1.out).mono ?_); rintro e w2 ⟨⟨a2, c2, rfl, ho⟩, hb⟩; have HB2 := Lib.hid (HB1.out.trans (hb.mono HB1.out.size)); have HS2 := Lib.hid (HS1.out.on hb); have C2 := Lib.hid (C1.out.below hb); obtain ⟨d20, d21, d22⟩ := C2.out.cells; have HO := Lib.hid (ho.sl.more (Nat.le_refl _) (Nat.zero_le _)); clear hb ho)))
      have hb : Below w2.heap.size w2 (w2.alloc (.cells #[.int .u64 (B : Nat), .int .u64 (U : Nat), .slice a2 L.length c2] 25)) := ((Below.refl _ _).alloc (Nat.le_refl _) _)
      have R3 := Lib.hid (Bx3.made w2 (.int .u64 (B : Nat)) (.int .u64 (U : Nat)) (.slice a2 L.length c2) 25)
      have HM3 := Lib.hid (HO.out.on hb)
      have HB3 := Lib.hid (HB2.out.trans (hb.mono HB2.out.size))
      have HS3 := Lib.hid (HS2.out.on hb)
      have C3 := Lib.hid (C2.out.below hb)
      clear hb
      generalize w2.alloc (.cells #[.int .u64 (B : Nat), .int .u64 (U : Nat), .slice a2 L.length c2] 25) = w3 at *
      generalize w2.heap.size = N at *
      obtain ⟨d30, d31, d32⟩ := C3.out.cells
      obtain ⟨e30, e31, e32⟩ := R3.out.cells
      go_wp2_with (go_at_call 9; go_loud ((with_reducible refine (HE1.out _ HS3.out).mono ?_); rintro e w4 ⟨rfl, hb⟩; have HB4 := Lib.hid (HB3.out.trans (hb.mono HB3.out.size)); have HS4 := Lib.hid (HS3.out.on hb); have C4 := Lib.hid (C3.out.below hb); obtain ⟨d40, d41, d42⟩ := C4.out.cells; have HM4 := Lib.hid (HM3.out.on hb); have R4 := Lib.hid (R3.out.below hb); obtain ⟨e40, e41, e42⟩ := R4.out.cells; clear hb))
      go_wp2_with (go_at_call 9; go_loud ((with_reducible refine (HE2.out _ _ _ HM4.out).mono ?_); rintro e w5 ⟨rfl, hb⟩; have HB5 := Lib.hid (HB4.out.trans (hb.mono HB4.out.size)); have HS5 := Lib.hid (HS4.out.on hb); have C5 := Lib.hid (C4.out.below hb); obtain ⟨d50, d51, d52⟩ := C5.out.cells; have HM5 := Lib.hid (HM4.out.on hb); have R5 := Lib.hid (R4.out.below hb); obtain ⟨e50, e51, e52⟩ := R5.out.cells; clear hb))
      go_wp2_with (go_at_call 17; go_loud ((with_reducible refine (HN1.out _ HS5.out).mono ?_); rintro e w6 ⟨rfl, hb⟩; have HB6 := Lib.hid (HB5.out.trans (hb.mono HB5.out.size)); have HS6 := Lib.hid (HS5.out.on hb); have C6 := Lib.hid (C5.out.below hb); obtain ⟨d60, d61, d62⟩ := C6.out.cells; have HM6 := Lib.hid (HM5.out.on hb); have R6 := Lib.hid (R5.out.below hb); obtain ⟨e60, e61, e62⟩ := R6.out.cells; clear hb))
      go_wp2_with (go_at_call 17; go_loud ((with_reducible refine (HN2.out _ _ _ HM6.out).mono ?_); rintro e w7 ⟨rfl, hb⟩; have HB7 := Lib.hid (HB6.out.trans (hb.mono HB6.out.size)); have HS7 := Lib.hid (HS6.out.on hb); have C7 := Lib.hid (C6.out.below hb); obtain ⟨d70, d71, d72⟩ := C7.out.cells; have HM7 := Lib.hid (HM6.out.on hb); have R7 := Lib.hid (R6.out.below hb); obtain ⟨e70, e71, e72⟩ := R7.out.cells; clear hb))
      go_wp2_with (go_at_call 11; go_loud ((with_reducible refine (HT1.out _ HS7.out).mono ?_); rintro e w8 ⟨rfl, hb⟩; have HB8 := Lib.hid (HB7.out.trans (hb.mono HB7.out.size)); have HS8 := Lib.hid (HS7.out.on hb); have C8 := Lib.hid (C7.out.below hb); obtain ⟨d80, d81, d82⟩ := C8.out.cells; have HM8 := Lib.hid (HM7.out.on hb); have R8 := Lib.hid (R7.out.below hb); obtain ⟨e80, e81, e82⟩ := R8.out.cells; clear hb))
      go_wp2_with (go_at_call 11; go_loud ((with_reducible refine (HT2.out _ _ _ HM8.out).mono ?_); rintro e w9 ⟨rfl, hb⟩; have HB9 := Lib.hid (HB8.out.trans (hb.mono HB8.out.size)); have HS9 := Lib.hid (HS8.out.on hb); have C9 := Lib.hid (C8.out.below hb); obtain ⟨d90, d91, d92⟩ := C9.out.cells; have HM9 := Lib.hid (HM8.out.on hb); have R9 := Lib.hid (R8.out.below hb); obtain ⟨e90, e91, e92⟩ := R9.out.cells; clear hb))
      go_wp2_with (go_at_call 22; go_loud ((with_reducible refine (HC2.out _ _ _ HM9.out).mono ?_); rintro e w10 ⟨rfl, hb⟩; have HB10 := Lib.hid (HB9.out.trans (hb.mono HB9.out.size)); have HS10 := Lib.hid (HS9.out.on hb); have C10 := Lib.hid (C9.out.below hb); obtain ⟨d100, d101, d102⟩ := C10.out.cells; have HM10 := Lib.hid (HM9.out.on hb); have R10 := Lib.hid (R9.out.below hb); obtain ⟨e100, e101, e102⟩ := R10.out.cells; clear hb))
      go_wp2
      go_ret
      exact ⟨by first | rfl | simp, HB10.out⟩
end Lo
end Go.Proofs.Ytjalmciaaenmjaa
