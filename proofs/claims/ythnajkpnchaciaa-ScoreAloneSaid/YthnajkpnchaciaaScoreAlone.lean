/-
  WALK of the law on one load alone.
-/
import Derived.Test.YthnajkpnchaciaaScoreOf
namespace Go.Proofs.Ythnajkpnchaciaa
open Go.RowKit
namespace Rg
theorem bestN_one (E : Ld → Nat) (V : Ld → Int) (x : Ld) : bestN E V [x] 1 = if E x = 0 then some 0 else none := by
  show (if okK E [x] 0 = true then _ else _) = _
  have : okK E [x] 0 = decide (E x = 0) := rfl
  rw [this]
  by_cases h : E x = 0 <;> simp [h, bestK]
theorem bestN_two (E : Ld → Nat) (V : Ld → Int) (x : Ld) : bestN E V [x, x] 2 = if E x = 0 then some 0 else none := by
  by_cases h : E x = 0
  · have h1 : bestN E V [x, x] 1 = some 0 := by
      show (if okK E [x, x] 0 = true then _ else _) = _
      have : okK E [x, x] 0 = decide (E x = 0) := rfl
      rw [this]
      simp [h]
    show (if okK E [x, x] 1 = true then _ else _) = _
    have h2 : okK E [x, x] 1 = true := by show decide (E x = 0) = true; simp [h]
    rw [if_pos h2, if_pos h]
    rw [show bestK (okK E [x, x]) (vK V [x, x]) (ltK [x, x]) 1 = some 0 from h1]
    have h3 : ltK [x, x] 1 0 = false := lt_irr _
    simp [h3]
    exact Int.le_refl _
  · show (if okK E [x, x] 1 = true then _ else (if okK E [x, x] 0 = true then _ else _)) = _
    have h2 : okK E [x, x] 1 = false := by show decide (E x = 0) = false; simp [h]
    have h3 : okK E [x, x] 0 = false := by show decide (E x = 0) = false; simp [h]
    rw [h2, h3, if_neg h]
    rfl
theorem bad_one (D : Ld → Nat) (x : Ld) : badK D [x] 1 = D x := rfl
theorem bad_two (D : Ld → Nat) (x : Ld) : badK D [x, x] 2 = D x := by
  show (if badK D [x, x] 1 = 0 then D x else badK D [x, x] 1) = D x
  have : badK D [x, x] 1 = D x := rfl
  rw [this]
  split <;> rfl
theorem bestE_like (te : Nat) (ws bs : List Pr) (y0 y1 y2 : Int) (x : Ld) (V : Ld → Int) (l : List Ld) (hb : badK ldE l l.length = ldE x) (hn : bestN (scE te ws bs y0 y1 y2) V l l.length = if scE te ws bs y0 y1 y2 x = 0 then some 0 else none) :
    bestE te ldE (scE te ws bs y0 y1 y2) V l = scE te ws bs y0 y1 y2 x ∧ bestV te ldE (scE te ws bs y0 y1 y2) V l = 0 := by
  refine ⟨?_, ?_⟩
  · by_cases ht : te = 0
    · subst ht
      have hk := scE_kinds ws bs y0 y1 y2 x
      unfold bestE
      rw [if_pos rfl, hb, hn]
      rcases hk with ⟨h | h, hd⟩ | ⟨h, h0, h13⟩
      · rw [hd, if_pos rfl, h, if_pos rfl]
      · rw [hd, if_pos rfl, h]; rfl
      · rw [← h, if_neg h0]
    · unfold bestE scE fitE; rw [if_neg ht, if_neg ht]
  · unfold bestV
    rw [hn]
    split
    · split <;> rfl
    · rfl
set_option maxRecDepth 100000 in
theorem loads_one (x : Ld) (w : World) (hx : x.n.size ≤ maxLen) (h3 : Pairs w w.heap.size (.slice x.la x.ls.length x.lc) x.ls) (h4 : Pairs w w.heap.size (.slice x.ta x.ts.length x.tc) x.ts) :
    Loads (w.alloc (.cells #[.string x.n, .int .i64 x.h0, .int .i64 x.h1, .int .i64 x.h2, .slice x.la x.ls.length x.lc, .slice x.ta x.ts.length x.tc, .int .i64 x.u0, .int .i64 x.u1, .int .i64 x.u2] 29)) (w.alloc (.cells #[.string x.n, .int .i64 x.h0, .int .i64 x.h1, .int .i64 x.h2, .slice x.la x.ls.length x.lc, .slice x.ta x.ts.length x.tc, .int .i64 x.u0, .int .i64 x.u1, .int .i64 x.u2] 29)).heap.size (.slice (some ⟨w.heap.size, 0, none⟩) 1 1) [x] := by
  refine ⟨_, _, rfl, by simp, fun z hz => ?_, fun _ => ⟨_, _, rfl, by simp, fun i hi => ?_⟩⟩
  · obtain rfl := List.mem_singleton.1 hz
    exact ⟨hx, h3.ovr (one_ _ _), h4.ovr (one_ _ _)⟩
  · obtain rfl : i = 0 := by simpa using hi
    simp [go_sem]
set_option maxRecDepth 100000 in
theorem loads_two (x : Ld) (w : World) (hx : x.n.size ≤ maxLen) (h3 : Pairs w w.heap.size (.slice x.la x.ls.length x.lc) x.ls) (h4 : Pairs w w.heap.size (.slice x.ta x.ts.length x.tc) x.ts) :
    Loads (w.alloc (.cells #[.string x.n, .int .i64 x.h0, .int .i64 x.h1, .int .i64 x.h2, .slice x.la x.ls.length x.lc, .slice x.ta x.ts.length x.tc, .int .i64 x.u0, .int .i64 x.u1, .int .i64 x.u2, .string x.n, .int .i64 x.h0, .int .i64 x.h1, .int .i64 x.h2, .slice x.la x.ls.length x.lc, .slice x.ta x.ts.length x.tc, .int .i64 x.u0, .int .i64 x.u1, .int .i64 x.u2] 29)) (w.alloc (.cells #[.string x.n, .int .i64 x.h0, .int .i64 x.h1, .int .i64 x.h2, .slice x.la x.ls.length x.lc, .slice x.ta x.ts.length x.tc, .int .i64 x.u0, .int .i64 x.u1, .int .i64 x.u2, .string x.n, .int .i64 x.h0, .int .i64 x.h1, .int .i64 x.h2, .slice x.la x.ls.length x.lc, .slice x.ta x.ts.length x.tc, .int .i64 x.u0, .int .i64 x.u1, .int .i64 x.u2] 29)).heap.size (.slice (some ⟨w.heap.size, 0, none⟩) 2 2) [x, x] := by
  refine ⟨_, _, rfl, by simp, fun z hz => ?_, fun _ => ⟨_, _, rfl, by simp, fun i hi => ?_⟩⟩
  · simp only [List.mem_cons, List.not_mem_nil, or_false, or_self] at hz
    subst hz
    exact ⟨hx, h3.ovr (one_ _ _), h4.ovr (one_ _ _)⟩
  · have h2 : i = 0 ∨ i = 1 := by simp at hi; omega
    rcases h2 with rfl | rfl <;> simp [go_sem]
set_option maxRecDepth 100000 in
set_option maxHeartbeats 4000000 in
theorem scoreAlone (yn yg ya : ByteArray) (y0 y1 y2 yr : Int) (ywa yba : Option Addr) (ywn ywc ybn ybc : Nat) (x : Ld) (ws bs : List Pr) (w : World) (hx : x.n.size ≤ maxLen) (hy : yn.size ≤ maxLen ∧ yg.size ≤ maxLen ∧ ya.size ≤ maxLen)
    (h1 : Pairs w w.heap.size (.slice ywa ywn ywc) ws) (h2 : Pairs w w.heap.size (.slice yba ybn ybc) bs) (h3 : Pairs w w.heap.size (.slice x.la x.ls.length x.lc) x.ls) (h4 : Pairs w w.heap.size (.slice x.ta x.ts.length x.tc) x.ts) :
    Calls Try.prog 8 #[.agg #[.string yn, .int .i64 y0, .int .i64 y1, .int .i64 y2, .slice ywa ywn ywc, .slice yba ybn ybc, .string yg, .string ya, .int .i64 yr], .agg #[.string x.n, .int .i64 x.h0, .int .i64 x.h1, .int .i64 x.h2, .slice x.la x.ls.length x.lc, .slice x.ta x.ts.length x.tc, .int .i64 x.u0, .int .i64 x.u1, .int .i64 x.u2]] w fun e w' => e = .returned (.bool true) ∧ Below w.heap.size w w' := by
  have g1 := fun z (hb : Below w.heap.size w z) => score_any yn yg ya y0 y1 y2 yr ywa yba ywn ywc ybn ybc x.n x.h0 x.h1 x.h2 x.la x.ta x.ls.length x.lc x.ts.length x.tc x.u0 x.u1 x.u2 ws bs x.ls x.ts z hx hy (h1.ovr hb) (h2.ovr hb) (h3.ovr hb) (h4.ovr hb)
  have g2 := fun z (hb : Below w.heap.size w z) => best_of yn yg ya y0 y1 y2 yr ywa yba ywn ywc ybn ybc ws bs [x] (.slice (some ⟨z.heap.size, 0, none⟩) 1 1) _ (loads_one x z hx (h3.ovr hb) (h4.ovr hb)) hy (h1.ovr (hb.alloc hb.size _)) (h2.ovr (hb.alloc hb.size _))
  have g3 := fun z (hb : Below w.heap.size w z) => best_of yn yg ya y0 y1 y2 yr ywa yba ywn ywc ybn ybc ws bs [x, x] (.slice (some ⟨z.heap.size, 0, none⟩) 2 2) _ (loads_two x z hx (h3.ovr hb) (h4.ovr hb)) hy (h1.ovr (hb.alloc hb.size _)) (h2.ovr (hb.alloc hb.size _))
  have e1 := bestE_like (taskE yn yg ya y0 y1 y2 yr ws bs) ws bs y0 y1 y2 x (scV y0 y1 y2) [x] (bad_one _ _) (bestN_one _ _ _)
  have e2 := bestE_like (taskE yn yg ya y0 y1 y2 yr ws bs) ws bs y0 y1 y2 x (scV y0 y1 y2) [x, x] (bad_two _ _) (bestN_two _ _ _)
  unfold BestIs at g2 g3
  rw [e1.1, e1.2] at g2
  rw [e2.1, e2.2] at g3
  have hsc : fitE (taskE yn yg ya y0 y1 y2 yr ws bs) (loadE x.n x.h0 x.h1 x.h2 x.ls x.ts x.u0 x.u1 x.u2) (suitB ws x.ls x.ts bs) (roomB x.h0 x.h1 x.h2 x.u0 x.u1 x.u2 y0 y1 y2) = scE (taskE yn yg ya y0 y1 y2 yr ws bs) ws bs y0 y1 y2 x := rfl
  rw [hsc] at g1
  generalize scE (taskE yn yg ya y0 y1 y2 yr ws bs) ws bs y0 y1 y2 x = er at g1 g2 g3
  generalize sumS x.h0 x.h1 x.h2 x.u0 x.u1 x.u2 y0 y1 y2 = sv at g1
  unfold ScoreIs at g1
  generalize fitV er sv = vv at g1
  have G1 := Lib.hid g1
  have G2 := Lib.hid g2
  have G3 := Lib.hid g3
  have HB0 := Lib.hid (Below.refl ((w.alloc (.cells #[.string yn, .int .i64 y0, .int .i64 y1, .int .i64 y2, .slice ywa ywn ywc, .slice yba ybn ybc, .string yg, .string ya, .int .i64 yr] 25)).alloc (.cells #[.string x.n, .int .i64 x.h0, .int .i64 x.h1, .int .i64 x.h2, .slice x.la x.ls.length x.lc, .slice x.ta x.ts.length x.tc, .int .i64 x.u0, .int .i64 x.u1, .int .i64 x.u2] 29)).heap.size ((w.alloc (.cells #[.string yn, .int .i64 y0, .int .i64 y1, .int .i64 y2, .slice ywa ywn ywc, .slice yba ybn ybc, .string yg, .string ya, .int .i64 yr] 25)).alloc (.cells #[.string x.n, .int .i64 x.h0, .int .i64 x.h1, .int .i64 x.h2, .slice x.la x.ls.length x.lc, .slice x.ta x.ts.length x.tc, .int .i64 x.u0, .int .i64 x.u1, .int .i64 x.u2] 29)))
  clear g1 g2 g3 e1 e2 hsc h1 h2 h3 h4 hx hy
  go_enter Try.func8, Try.ntmps8
  go_wp2_with fail
  refine (lives_true _).mono ?_
  rintro e w1 ⟨rfl, hb⟩
  have HB1 := Lib.hid (HB0.out.trans (hb.mono HB0.out.size))
  clear hb
  obtain ⟨c0, c1, hbw⟩ := boxedL HB1.out
  have HW1 := Lib.hid hbw
  clear hbw
  go_wp2_with fail
  refine (G1.out _ HW1.out).mono ?_
  rintro e w2 ⟨rfl, hb⟩
  have HB2 := Lib.hid (HB1.out.trans (hb.mono HB1.out.size))
  clear hb c0 c1
  obtain ⟨c0, c1, hbw⟩ := boxedL HB2.out
  have HW2 := Lib.hid hbw
  clear hbw
  go_wp2_with fail
  refine (G2.out _ HW2.out).mono ?_
  rintro e w3 ⟨rfl, hb⟩
  have HB3 := Lib.hid (HB2.out.trans (((one_ w2 _).trans (hb.mono (by simp))).mono HB2.out.size))
  clear hb c0 c1
  obtain ⟨c0, c1, hbw⟩ := boxedL HB3.out
  have HW3 := Lib.hid hbw
  clear hbw
  go_wp2_with fail
  refine (G3.out _ HW3.out).mono ?_
  rintro e w4 ⟨rfl, hb⟩
  have HW4 := Lib.hid (HW3.out.trans (((one_ w3 _).trans (hb.mono (by simp))).mono HW3.out.size))
  clear hb c0 c1
  go_wp2
  go_ret
  exact ⟨by simp, HW4.out⟩
end Rg
end Go.Proofs.Ythnajkpnchaciaa
