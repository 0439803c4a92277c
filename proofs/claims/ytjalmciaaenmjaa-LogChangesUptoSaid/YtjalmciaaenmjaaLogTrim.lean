/-
  A LOG WITHOUT ITS FIRST ENTRIES: log.Trim.
-/
import Derived.Test.YtjalmciaaenmjaaLogFrom
namespace Go.Proofs.Ytjalmciaaenmjaa
open Go.RowKit Go.Lib
namespace Lo
/-- What Trim comes to. -/
def trOk (b t : Nat) (l : List En) (x : Nat) : Bool := okB b t l && decide (x ≤ eI b l)
def trB (b t : Nat) (l : List En) (x : Nat) : Nat := if trOk b t l x = true then (if x ≤ b then b else x) else 0
def trT (b t : Nat) (l : List En) (x : Nat) : Nat := if trOk b t l x = true then (if x ≤ b then t else tmV b t l x) else 0
def trL (b t : Nat) (l : List En) (x : Nat) : List En := if trOk b t l x = true then (if x ≤ b then l else l.drop (mny b l.length x)) else []
def trE (b t : Nat) (l : List En) (x : Nat) : Nat := if okB b t l = true then (if x ≤ eI b l then 0 else 6) else 10
def TrimIs (w : World) (b t : Nat) (l : List En) (x : Nat) (e : Ending) (w' : World) : Prop :=
  ∃ a c, e = .returned (.tuple #[.agg #[.int .u64 (trB b t l x : Nat), .int .u64 (trT b t l x : Nat), .slice a (trL b t l x).length c], .int .i64 (trE b t l x : Nat)]) ∧ OwnS w' w.heap.size a c (trL b t l x)
theorem own_nil (w : World) (A : Nat) : OwnS w A none 0 [] := ⟨(fun h => absurd h (by simp)), by simp, fun _ => rfl, by simp⟩
theorem TrimIs.bad {w : World} {b t : Nat} {l : List En} {x : Nat} (h : trOk b t l x = false) (w' : World) {r : Nat} (hr : trE b t l x = r) : TrimIs w b t l x (.returned (.tuple #[.agg #[.int .u64 0, .int .u64 0, .slice none 0 0], .int .i64 (r : Nat)])) w' := by
  have e1 : trB b t l x = 0 := by unfold trB; rw [h]; rfl
  have e2 : trT b t l x = 0 := by unfold trT; rw [h]; rfl
  have e3 : trL b t l x = [] := by unfold trL; rw [h]; rfl
  refine ⟨none, 0, ?_, ?_⟩
  · rw [e1, e2, e3, hr]; rfl
  · rw [e3]; exact own_nil _ _
theorem TrimIs.good {w : World} {b t : Nat} {l : List En} {x : Nat} {B' T' : Nat} {L' : List En} (e1 : trB b t l x = B') (e2 : trT b t l x = T') (e3 : trL b t l x = L') (e4 : trE b t l x = 0) {w' : World} {A : Nat} {a : Option Addr} {c : Nat} (h : OwnS w' A a c L') (hA : w.heap.size ≤ A) :
    TrimIs w b t l x (.returned (.tuple #[.agg #[.int .u64 (B' : Nat), .int .u64 (T' : Nat), .slice a L'.length c], .int .i64 0])) w' :=
  ⟨a, c, by rw [e1, e2, e3, e4]; rfl, by rw [e3]; exact h.less hA⟩
set_option maxHeartbeats 8000000 in
theorem the_trim (b t x : Nat) (a : Option Addr) (c : Nat) (l : List En) (w : World) {A : Nat} (h : Sl w A w.heap.size a c l) (hb : Lt64 b) (hx : Lt64 x) :
    Calls Try.prog 28 #[.agg #[.int .u64 (b : Nat), .int .u64 (t : Nat), .slice a l.length c], .int .u64 (x : Nat)] w fun e w' => TrimIs w b t l x e w' ∧ Below w.heap.size w w' := by
  have hB : Below w.heap.size w ((w.alloc (.cells #[.int .u64 (b : Nat), .int .u64 (t : Nat), .slice a l.length c] 25)).alloc (.cells #[.int .u64 0, .int .u64 0, .slice none 0 0] 25)) := ((Below.refl _ _).alloc (Nat.le_refl _) _).alloc (by simp) _
  have HB0 := Lib.hid hB
  have C0 := Lib.hid ((Bx3.made w (.int .u64 (b : Nat)) (.int .u64 (t : Nat)) (.slice a l.length c) 25).al (.cells #[.int .u64 0, .int .u64 0, .slice none 0 0] 25))
  have R0 := Lib.hid (show Bx3 ((w.alloc (.cells #[.int .u64 (b : Nat), .int .u64 (t : Nat), .slice a l.length c] 25)).alloc (.cells #[.int .u64 0, .int .u64 0, .slice none 0 0] 25)) (w.heap.size + 1) (.int .u64 0) (.int .u64 0) (.slice none 0 0) by have h9 := Bx3.made (w.alloc (.cells #[.int .u64 (b : Nat), .int .u64 (t : Nat), .slice a l.length c] 25)) (.int .u64 0) (.int .u64 0) (.slice none 0 0) 25; rw [World.size_alloc] at h9; exact h9)
  have HC := Lib.hid (log_check b t a c l _ (h.on hB))
  have HS := Lib.hid (h.keep hB)
  clear hB h
  cases hk : okB b t l
  · rw [hk] at HC
    have HP := Lib.hid (fun w' => TrimIs.bad (w := w) (b := b) (t := t) (l := l) (x := x) (by unfold trOk; rw [hk]; rfl) w' (r := 10) (by unfold trE; rw [hk]; rfl))
    clear hk HS hb hx
    go_enter Try.func28, Try.ntmps28
    go_wp2_with (go_at_call 22; go_loud ((with_reducible refine HC.out.mono ?_); rintro e w1 ⟨rfl, hb⟩; have HB1 := Lib.hid (HB0.out.trans (hb.mono HB0.out.size)); have HL1 := Lib.hid hb; have C1 := Lib.hid (C0.out.below hb); have R1 := Lib.hid (R0.out.below hb); obtain ⟨d10, d11, d12⟩ := C1.out.cells; obtain ⟨f10, f11, f12⟩ := C1.out.fz; obtain ⟨e10, e11, e12⟩ := R1.out.cells; obtain ⟨g10, g11, g12⟩ := R1.out.fz; clear hb))
    go_wp2
    refine bodyPost_log2 rfl (w.heap.size + 1) 0 0 (.slice none 0 0) rfl rfl ?_ ?_
    case refine_1 => exact ((R1.out.set0 _).set1 _).set2 _
    case refine_2 => exact ⟨HP.out _, ((HB1.out.setCell (by exact Nat.le_succ _) _).setCell (by exact Nat.le_succ _) _).setCell (by exact Nat.le_succ _) _⟩
  · rw [hk] at HC
    have HE := Lib.hid (fun w1 (hb1 : Below ((w.alloc (.cells #[.int .u64 (b : Nat), .int .u64 (t : Nat), .slice a l.length c] 25)).alloc (.cells #[.int .u64 0, .int .u64 0, .slice none 0 0] 25)).heap.size ((w.alloc (.cells #[.int .u64 (b : Nat), .int .u64 (t : Nat), .slice a l.length c] 25)).alloc (.cells #[.int .u64 0, .int .u64 0, .slice none 0 0] 25)) w1) => end_of b t a c l w1 ((HS.out.keep (hb1.mono (by simp; omega))).more (by have := hb1.size; simp at this; omega) (Nat.le_refl _)))
    by_cases h1 : x ≤ eI b l
    · have h1' : ¬ ((eI b l : Nat) : Int) < (x : Int) := by omega
      have h1x : decide (((eI b l : Nat) : Int) < (x : Int)) = false := by simpa using h1'
      have h1y : decide (eI b l < x) = false := by simpa using h1
      have hok : trOk b t l x = true := by unfold trOk; rw [hk]; simpa using h1
      have HT4 : Hid (trE b t l x = 0) := by show _ = _; unfold trE; rw [hk, if_pos rfl, if_pos h1]
      by_cases h2 : x ≤ b
      · have h2' : ¬ (b : Int) < (x : Int) := by omega
        have h2x : decide ((b : Int) < (x : Int)) = false := by simpa using h2'
        have h2y : decide (b < x) = false := by simpa using h2
        have HT1 : Hid (trB b t l x = b) := by show _ = _; unfold trB; rw [hok, if_pos rfl, if_pos h2]
        have HT2 : Hid (trT b t l x = t) := by show _ = _; unfold trT; rw [hok, if_pos rfl, if_pos h2]
        have HT3 : Hid (trL b t l x = l) := by show _ = _; unfold trL; rw [hok, if_pos rfl, if_pos h2]
        have HO := Lib.hid (fun w1 (hb1 : Below ((w.alloc (.cells #[.int .u64 (b : Nat), .int .u64 (t : Nat), .slice a l.length c] 25)).alloc (.cells #[.int .u64 0, .int .u64 0, .slice none 0 0] 25)).heap.size ((w.alloc (.cells #[.int .u64 (b : Nat), .int .u64 (t : Nat), .slice a l.length c] 25)).alloc (.cells #[.int .u64 0, .int .u64 0, .slice none 0 0] 25)) w1) => own_of b t a c l w1 ((HS.out.keep (hb1.mono (by simp; omega))).more (by have := hb1.size; simp at this; omega) (Nat.le_refl _)))
        generalize eI b l = y at *
        generalize eT t l = z at *
        clear hk HS hb hx h1 h2 hok
        go_enter Try.func28, Try.ntmps28
        go_wp2_with (go_at_call 22; go_loud ((with_reducible refine HC.out.mono ?_); rintro e w1 ⟨rfl, hb⟩; have HB1 := Lib.hid (HB0.out.trans (hb.mono HB0.out.size)); have HL1 := Lib.hid hb; have C1 := Lib.hid (C0.out.below hb); have R1 := Lib.hid (R0.out.below hb); obtain ⟨d10, d11, d12⟩ := C1.out.cells; obtain ⟨f10, f11, f12⟩ := C1.out.fz; obtain ⟨e10, e11, e12⟩ := R1.out.cells; obtain ⟨g10, g11, g12⟩ := R1.out.fz; clear hb))
        go_wp2_with (go_at_call 31; go_loud ((with_reducible refine (HE.out _ HL1.out).mono ?_); rintro e w2 ⟨rfl, hb⟩; have HB2 := Lib.hid (HB1.out.trans (hb.mono HB1.out.size)); have HL2 := Lib.hid hb; have C2 := Lib.hid (C1.out.below hb); have R2 := Lib.hid (R1.out.below hb); obtain ⟨d20, d21, d22⟩ := C2.out.cells; obtain ⟨f20, f21, f22⟩ := C2.out.fz; obtain ⟨e20, e21, e22⟩ := R2.out.cells; obtain ⟨g20, g21, g22⟩ := R2.out.fz; clear hb))
        go_wp2_with (go_at_call 46; go_loud ((with_reducible refine (HO.out _ (HL1.out.trans (HL2.out.mono HL1.out.size))).mono ?_); rintro e w3 ⟨⟨a3, c3, rfl, ho⟩, hb⟩; have HB3 := Lib.hid (HB2.out.trans (hb.mono HB2.out.size)); have HL3 := Lib.hid hb; have C3 := Lib.hid (C2.out.below hb); have R3 := Lib.hid (R2.out.below hb); obtain ⟨d30, d31, d32⟩ := C3.out.cells; obtain ⟨f30, f31, f32⟩ := C3.out.fz; obtain ⟨e30, e31, e32⟩ := R3.out.cells; obtain ⟨g30, g31, g32⟩ := R3.out.fz; have HO3 := Lib.hid ho; clear ho; clear hb))
        go_wp2
        refine bodyPost_log2 rfl (w.heap.size + 1) b t (.slice a3 l.length c3) rfl rfl ?_ ?_
        case refine_1 => exact ((R3.out.set0 _).set1 _).set2 _
        case refine_2 => exact ⟨TrimIs.good HT1.out HT2.out HT3.out HT4.out (((HO3.out.put (p := w.heap.size + 1) (by have := R2.out.lt; omega) 0 _).put (p := w.heap.size + 1) (by have := R2.out.lt; omega) 1 _).put (p := w.heap.size + 1) (by have := R2.out.lt; omega) 2 _) HB2.out.size, ((HB3.out.setCell (by exact Nat.le_succ _) _).setCell (by exact Nat.le_succ _) _).setCell (by exact Nat.le_succ _) _⟩
      · have h2' : (b : Int) < (x : Int) := by omega
        have he := eI_ok hk hb
        have HT1 : Hid (trB b t l x = x) := by show _ = _; unfold trB; rw [hok, if_pos rfl, if_neg h2]
        have HT2 : Hid (trT b t l x = tmV b t l x) := by show _ = _; unfold trT; rw [hok, if_pos rfl, if_neg h2]
        have HT3 : Hid (trL b t l x = l.drop (mny b l.length x)) := by show _ = _; unfold trL; rw [hok, if_pos rfl, if_neg h2]
        have HTM := Lib.hid (fun w1 (hb1 : Below ((w.alloc (.cells #[.int .u64 (b : Nat), .int .u64 (t : Nat), .slice a l.length c] 25)).alloc (.cells #[.int .u64 0, .int .u64 0, .slice none 0 0] 25)).heap.size ((w.alloc (.cells #[.int .u64 (b : Nat), .int .u64 (t : Nat), .slice a l.length c] 25)).alloc (.cells #[.int .u64 0, .int .u64 0, .slice none 0 0] 25)) w1) => term_at b t x a c l w1 ((HS.out.keep (hb1.mono (by simp; omega))).more (by have := hb1.size; simp at this; omega) (Nat.le_refl _)) he hx)
        have HBH := Lib.hid (fun w1 (hb1 : Below ((w.alloc (.cells #[.int .u64 (b : Nat), .int .u64 (t : Nat), .slice a l.length c] 25)).alloc (.cells #[.int .u64 0, .int .u64 0, .slice none 0 0] 25)).heap.size ((w.alloc (.cells #[.int .u64 (b : Nat), .int .u64 (t : Nat), .slice a l.length c] 25)).alloc (.cells #[.int .u64 0, .int .u64 0, .slice none 0 0] 25)) w1) => behind_of b t x a c l w1 (HS.out.keep (hb1.mono (by simp; omega))) (by have := hb1.size; simp at this; omega) hx hb)
        generalize eI b l = y at *
        generalize eT t l = z at *
        generalize tmV b t l x = v at *
        generalize tmE b l.length x = ve at *
        generalize l.drop (mny b l.length x) = r at *
        have HO := Lib.hid (fun (w4 : World) (a4 : Option Addr) (hs : Sl w4 A w.heap.size a4 r.length r) (hz : w.heap.size ≤ w4.heap.size) => own_of x v a4 r.length r (((w4.setCell ⟨w.heap.size, 0, none⟩ (.int .u64 (x : Nat))).setCell ⟨w.heap.size, 1, none⟩ (.int .u64 (v : Nat))).setCell ⟨w.heap.size, 2, none⟩ (.slice a4 r.length r.length)) (A := A) ((((hs.lowput (Below.refl _ _) _ 0).lowput (Below.refl _ _) _ 1).lowput (Below.refl _ _) _ 2).more (by simpa using hz) (Nat.le_refl _)))
        clear hk HS hb hx h1 h2 hok he
        go_enter Try.func28, Try.ntmps28
        go_wp2_with (go_at_call 22; go_loud ((with_reducible refine HC.out.mono ?_); rintro e w1 ⟨rfl, hb⟩; have HB1 := Lib.hid (HB0.out.trans (hb.mono HB0.out.size)); have HL1 := Lib.hid hb; have C1 := Lib.hid (C0.out.below hb); have R1 := Lib.hid (R0.out.below hb); obtain ⟨d10, d11, d12⟩ := C1.out.cells; obtain ⟨f10, f11, f12⟩ := C1.out.fz; obtain ⟨e10, e11, e12⟩ := R1.out.cells; obtain ⟨g10, g11, g12⟩ := R1.out.fz; clear hb))
        go_wp2_with (go_at_call 31; go_loud ((with_reducible refine (HE.out _ HL1.out).mono ?_); rintro e w2 ⟨rfl, hb⟩; have HB2 := Lib.hid (HB1.out.trans (hb.mono HB1.out.size)); have HL2 := Lib.hid hb; have C2 := Lib.hid (C1.out.below hb); have R2 := Lib.hid (R1.out.below hb); obtain ⟨d20, d21, d22⟩ := C2.out.cells; obtain ⟨f20, f21, f22⟩ := C2.out.fz; obtain ⟨e20, e21, e22⟩ := R2.out.cells; obtain ⟨g20, g21, g22⟩ := R2.out.fz; clear hb))
        go_wp2_with (go_at_call 33; go_loud ((with_reducible refine (HTM.out _ (HL1.out.trans (HL2.out.mono HL1.out.size))).mono ?_); rintro e w3 ⟨rfl, hb⟩; have HB3 := Lib.hid (HB2.out.trans (hb.mono HB2.out.size)); have HL3 := Lib.hid hb; have C3 := Lib.hid (C2.out.below hb); have R3 := Lib.hid (R2.out.below hb); obtain ⟨d30, d31, d32⟩ := C3.out.cells; obtain ⟨f30, f31, f32⟩ := C3.out.fz; obtain ⟨e30, e31, e32⟩ := R3.out.cells; obtain ⟨g30, g31, g32⟩ := R3.out.fz; clear hb))
        go_wp2_with (go_at_call 35; go_loud ((with_reducible refine (HBH.out _ ((HL1.out.trans (HL2.out.mono HL1.out.size)).trans (HL3.out.mono (Nat.le_trans HL1.out.size HL2.out.size)))).mono ?_); rintro e w4 ⟨⟨a4, rfl, hs⟩, hb⟩; have HB4 := Lib.hid (HB3.out.trans (hb.mono HB3.out.size)); have HL4 := Lib.hid hb; have C4 := Lib.hid (C3.out.below hb); have R4 := Lib.hid (R3.out.below hb); obtain ⟨d40, d41, d42⟩ := C4.out.cells; obtain ⟨f40, f41, f42⟩ := C4.out.fz; obtain ⟨e40, e41, e42⟩ := R4.out.cells; obtain ⟨g40, g41, g42⟩ := R4.out.fz; have HS4 := Lib.hid hs; clear hs; clear hb))
        have C5 := Lib.hid (((C4.out.set0 (.int .u64 (x : Nat))).set1 (.int .u64 (v : Nat))).set2 (.slice a4 r.length r.length))
        have R5 := Lib.hid (((R4.out.far (p := w.heap.size) (by omega) 0 (.int .u64 (x : Nat))).far (p := w.heap.size) (by omega) 1 (.int .u64 (v : Nat))).far (p := w.heap.size) (by omega) 2 (.slice a4 r.length r.length))
        have HB5 := Lib.hid (((HB4.out.setCell (p := ⟨w.heap.size, 0, none⟩) (by exact Nat.le_refl _) (.int .u64 (x : Nat))).setCell (p := ⟨w.heap.size, 1, none⟩) (by exact Nat.le_refl _) (.int .u64 (v : Nat))).setCell (p := ⟨w.heap.size, 2, none⟩) (by exact Nat.le_refl _) (.slice a4 r.length r.length))
        go_wp2_with (go_at_call 46; go_loud ((with_reducible refine (HO.out _ _ HS4.out HB4.out.size).mono ?_); rintro e w6 ⟨⟨a6, c6, rfl, ho⟩, hb⟩; have HB6 := Lib.hid (HB5.out.trans (hb.mono HB5.out.size)); have HL6 := Lib.hid hb; have C6 := Lib.hid (C5.out.below hb); have R6 := Lib.hid (R5.out.below hb); obtain ⟨d60, d61, d62⟩ := C6.out.cells; obtain ⟨f60, f61, f62⟩ := C6.out.fz; obtain ⟨e60, e61, e62⟩ := R6.out.cells; obtain ⟨g60, g61, g62⟩ := R6.out.fz; have HO6 := Lib.hid ho; clear ho; clear hb))
        go_wp2
        refine bodyPost_log2 rfl (w.heap.size + 1) x v (.slice a6 r.length c6) rfl rfl ?_ ?_
        case refine_1 => exact ((R6.out.set0 _).set1 _).set2 _
        case refine_2 => exact ⟨TrimIs.good HT1.out HT2.out HT3.out HT4.out (((HO6.out.put (p := w.heap.size + 1) (by have := R5.out.lt; omega) 0 _).put (p := w.heap.size + 1) (by have := R5.out.lt; omega) 1 _).put (p := w.heap.size + 1) (by have := R5.out.lt; omega) 2 _) HB5.out.size, ((HB6.out.setCell (by exact Nat.le_succ _) _).setCell (by exact Nat.le_succ _) _).setCell (by exact Nat.le_succ _) _⟩
    · have h1' : ((eI b l : Nat) : Int) < (x : Int) := by omega
      have HP := Lib.hid (fun w' => TrimIs.bad (w := w) (b := b) (t := t) (l := l) (x := x) (by unfold trOk; rw [hk]; simpa using h1) w' (r := 6) (by unfold trE; rw [hk, if_pos rfl, if_neg h1]))
      generalize eI b l = y at *
      generalize eT t l = z at *
      clear hk HS hb hx h1
      go_enter Try.func28, Try.ntmps28
      go_wp2_with (go_at_call 22; go_loud ((with_reducible refine HC.out.mono ?_); rintro e w1 ⟨rfl, hb⟩; have HB1 := Lib.hid (HB0.out.trans (hb.mono HB0.out.size)); have HL1 := Lib.hid hb; have C1 := Lib.hid (C0.out.below hb); have R1 := Lib.hid (R0.out.below hb); obtain ⟨d10, d11, d12⟩ := C1.out.cells; obtain ⟨f10, f11, f12⟩ := C1.out.fz; obtain ⟨e10, e11, e12⟩ := R1.out.cells; obtain ⟨g10, g11, g12⟩ := R1.out.fz; clear hb))
      go_wp2_with (go_at_call 31; go_loud ((with_reducible refine (HE.out _ HL1.out).mono ?_); rintro e w2 ⟨rfl, hb⟩; have HB2 := Lib.hid (HB1.out.trans (hb.mono HB1.out.size)); have HL2 := Lib.hid hb; have C2 := Lib.hid (C1.out.below hb); have R2 := Lib.hid (R1.out.below hb); obtain ⟨d20, d21, d22⟩ := C2.out.cells; obtain ⟨f20, f21, f22⟩ := C2.out.fz; obtain ⟨e20, e21, e22⟩ := R2.out.cells; obtain ⟨g20, g21, g22⟩ := R2.out.fz; clear hb))
      go_wp2
      refine bodyPost_log2 rfl (w.heap.size + 1) 0 0 (.slice none 0 0) rfl rfl ?_ ?_
      case refine_1 => exact ((R2.out.set0 _).set1 _).set2 _
      case refine_2 => exact ⟨HP.out _, ((HB2.out.setCell (by exact Nat.le_succ _) _).setCell (by exact Nat.le_succ _) _).setCell (by exact Nat.le_succ _) _⟩
end Lo
end Go.Proofs.Ytjalmciaaenmjaa
