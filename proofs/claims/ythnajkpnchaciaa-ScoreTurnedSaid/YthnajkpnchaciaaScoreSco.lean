/-
  A SCORE: score.Score.
-/
import Derived.Test.YthnajkpnchaciaaScoreChk
import Derived.Test.YthnajkpnchaciaaScoreSum
namespace Go.Proofs.Ythnajkpnchaciaa
open Go.RowKit
namespace Rg
/-- What Score answers: the score v, if the error is none. -/
def ScoreIs (er : Nat) (v : Int) (e : Ending) : Prop := e = .returned (.tuple #[.int .i64 (fitV er v), .int .i64 (er : Nat)])
theorem ScoreIs.no {er : Nat} {v : Int} (h : ¬ er = 0) : ScoreIs er v (.returned (.tuple #[.int .i64 0, .int .i64 (er : Nat)])) := by unfold ScoreIs fitV; rw [if_neg h]
theorem ScoreIs.yes {v : Int} : ScoreIs 0 v (.returned (.tuple #[.int .i64 v, .int .i64 0])) := by unfold ScoreIs fitV; rw [if_pos rfl]; rfl
theorem boxedL {w w1 : World} {a b : Array Value} {t u : TypeId} (hb : Below ((w.alloc (.cells a t)).alloc (.cells b u)).heap.size ((w.alloc (.cells a t)).alloc (.cells b u)) w1) :
    (∀ i, w1.cell? ⟨w.heap.size, i, none⟩ = a[i]?) ∧ (∀ i, w1.cell? ⟨w.heap.size + 1, i, none⟩ = b[i]?) ∧ Below w.heap.size w w1 := by
  refine ⟨fun i => ?_, fun i => ?_, (two w _ _).trans (hb.mono (by simp; omega))⟩
  · rw [hb.cell (by simp; omega)]
    simp [go_sem]
  · rw [hb.cell (by simp)]
    simp [go_sem]
set_option maxRecDepth 100000 in
set_option maxHeartbeats 4000000 in
theorem score_any (yn yg ya : ByteArray) (y0 y1 y2 yr : Int) (ywa yba : Option Addr) (ywn ywc ybn ybc : Nat) (xn : ByteArray) (x0 x1 x2 : Int) (xla xta : Option Addr) (xln xlc xtn xtc : Nat) (xu0 xu1 xu2 : Int) (ws bs ls ts : List Pr) (w : World) (hx : xn.size ≤ maxLen) (hy : yn.size ≤ maxLen ∧ yg.size ≤ maxLen ∧ ya.size ≤ maxLen)
    (h1 : Pairs w w.heap.size (.slice ywa ywn ywc) ws) (h2 : Pairs w w.heap.size (.slice yba ybn ybc) bs) (h3 : Pairs w w.heap.size (.slice xla xln xlc) ls) (h4 : Pairs w w.heap.size (.slice xta xtn xtc) ts) :
    Calls Try.prog 9 #[.agg #[.string yn, .int .i64 y0, .int .i64 y1, .int .i64 y2, .slice ywa ywn ywc, .slice yba ybn ybc, .string yg, .string ya, .int .i64 yr], .agg #[.string xn, .int .i64 x0, .int .i64 x1, .int .i64 x2, .slice xla xln xlc, .slice xta xtn xtc, .int .i64 xu0, .int .i64 xu1, .int .i64 xu2]] w fun e w' => ScoreIs (fitE (taskE yn yg ya y0 y1 y2 yr ws bs) (loadE xn x0 x1 x2 ls ts xu0 xu1 xu2) (suitB ws ls ts bs) (roomB x0 x1 x2 xu0 xu1 xu2 y0 y1 y2)) (sumS x0 x1 x2 xu0 xu1 xu2 y0 y1 y2) e ∧ Below w.heap.size w w' := by
  have K1 : Hid (∀ z, Below w.heap.size w z → Calls Try.prog 18 #[.agg #[.string yn, .int .i64 y0, .int .i64 y1, .int .i64 y2, .slice ywa ywn ywc, .slice yba ybn ybc, .string yg, .string ya, .int .i64 yr]] z fun e w' => e = .returned (.int .i64 (taskE yn yg ya y0 y1 y2 yr ws bs : Nat)) ∧ Below z.heap.size z w') := fun z hb => task_any yn yg ya y0 y1 y2 yr ywa yba ywn ywc ybn ybc ws bs z hy (h1.ovr hb) (h2.ovr hb)
  have K2 : Hid (∀ z, Below w.heap.size w z → Calls Try.prog 12 #[.agg #[.string xn, .int .i64 x0, .int .i64 x1, .int .i64 x2, .slice xla xln xlc, .slice xta xtn xtc, .int .i64 xu0, .int .i64 xu1, .int .i64 xu2]] z fun e w' => e = .returned (.int .i64 (loadE xn x0 x1 x2 ls ts xu0 xu1 xu2 : Nat)) ∧ Below z.heap.size z w') := fun z hb => lcheck_any xn x0 x1 x2 xla xta xln xlc xtn xtc xu0 xu1 xu2 ls ts z hx (h3.ovr hb) (h4.ovr hb)
  have K3 : Hid (∀ z, Below w.heap.size w z → Calls Try.prog 16 #[.agg #[.string yn, .int .i64 y0, .int .i64 y1, .int .i64 y2, .slice ywa ywn ywc, .slice yba ybn ybc, .string yg, .string ya, .int .i64 yr], .agg #[.string xn, .int .i64 x0, .int .i64 x1, .int .i64 x2, .slice xla xln xlc, .slice xta xtn xtc]] z fun e w' => e = .returned (.bool (suitB ws ls ts bs)) ∧ Below z.heap.size z w') := fun z hb => suits_any yn yg ya y0 y1 y2 yr ywa yba ywn ywc ybn ybc xn x0 x1 x2 xla xta xln xlc xtn xtc ws bs ls ts z (h1.ovr hb) (h2.ovr hb) (h3.ovr hb) (h4.ovr hb)
  have K4 : Hid (∀ z, Calls Try.prog 17 #[.agg #[.string xn, .int .i64 x0, .int .i64 x1, .int .i64 x2, .slice xla xln xlc, .slice xta xtn xtc], .agg #[.int .i64 xu0, .int .i64 xu1, .int .i64 xu2], .agg #[.int .i64 y0, .int .i64 y1, .int .i64 y2]] z fun e w' => e = .returned (.bool (roomB x0 x1 x2 xu0 xu1 xu2 y0 y1 y2)) ∧ Below z.heap.size z w') := fun z => room_any xn x0 x1 x2 xla xta xln xlc xtn xtc xu0 xu1 xu2 y0 y1 y2 z
  have K5 : Hid (roomB x0 x1 x2 xu0 xu1 xu2 y0 y1 y2 = true → ∀ z, Calls Try.prog 19 #[.agg #[.string yn, .int .i64 y0, .int .i64 y1, .int .i64 y2, .slice ywa ywn ywc, .slice yba ybn ybc, .string yg, .string ya, .int .i64 yr], .agg #[.string xn, .int .i64 x0, .int .i64 x1, .int .i64 x2, .slice xla xln xlc, .slice xta xtn xtc, .int .i64 xu0, .int .i64 xu1, .int .i64 xu2]] z fun e w' => e = .returned (.int .i64 (sumS x0 x1 x2 xu0 xu1 xu2 y0 y1 y2)) ∧ Below z.heap.size z w') := fun h z => sum_of yn yg ya y0 y1 y2 yr ywa yba ywn ywc ybn ybc xn x0 x1 x2 xla xta xln xlc xtn xtc xu0 xu1 xu2 z h
  have HE : Hid (∀ te le s r, fitE te le s r = if te = 0 then (if le = 0 then (if s = true then (if r = true then 0 else 13) else 13) else le) else te) := fun _ _ _ _ => rfl
  have HB0 := Lib.hid (Below.refl ((w.alloc (.cells #[.string yn, .int .i64 y0, .int .i64 y1, .int .i64 y2, .slice ywa ywn ywc, .slice yba ybn ybc, .string yg, .string ya, .int .i64 yr] 25)).alloc (.cells #[.string xn, .int .i64 x0, .int .i64 x1, .int .i64 x2, .slice xla xln xlc, .slice xta xtn xtc, .int .i64 xu0, .int .i64 xu1, .int .i64 xu2] 29)).heap.size ((w.alloc (.cells #[.string yn, .int .i64 y0, .int .i64 y1, .int .i64 y2, .slice ywa ywn ywc, .slice yba ybn ybc, .string yg, .string ya, .int .i64 yr] 25)).alloc (.cells #[.string xn, .int .i64 x0, .int .i64 x1, .int .i64 x2, .slice xla xln xlc, .slice xta xtn xtc, .int .i64 xu0, .int .i64 xu1, .int .i64 xu2] 29)))
  clear h1 h2 h3 h4 hx hy
  generalize taskE yn yg ya y0 y1 y2 yr ws bs = te at *
  generalize loadE xn x0 x1 x2 ls ts xu0 xu1 xu2 = le at *
  generalize suitB ws ls ts bs = s at *
  generalize roomB x0 x1 x2 xu0 xu1 xu2 y0 y1 y2 = r at *
  generalize sumS x0 x1 x2 xu0 xu1 xu2 y0 y1 y2 = sv at *
  go_enter Try.func9, Try.ntmps9
  go_wp2_with fail
  refine (K1.out _ (boxedL HB0.out).2.2).mono ?_
  rintro e w1 ⟨rfl, hb⟩
  have HB1 := Lib.hid (HB0.out.trans (hb.mono HB0.out.size))
  clear hb
  obtain ⟨c0, c1, -⟩ := boxedL HB1.out
  by_cases ht : te = 0
  · subst ht
    go_wp2_with fail
    refine (K2.out _ (boxedL HB1.out).2.2).mono ?_
    rintro e w2 ⟨rfl, hb⟩
    have HB2 := Lib.hid (HB1.out.trans (hb.mono HB1.out.size))
    clear hb c0 c1
    obtain ⟨c0, c1, -⟩ := boxedL HB2.out
    by_cases hl : le = 0
    · subst hl
      go_wp2_with fail
      refine (K3.out _ (boxedL HB2.out).2.2).mono ?_
      rintro e w3 ⟨rfl, hb⟩
      have HB3 := Lib.hid (HB2.out.trans (hb.mono HB2.out.size))
      clear hb c0 c1
      obtain ⟨c0, c1, -⟩ := boxedL HB3.out
      cases s
      · have HN : Hid (fitE 0 0 false r = 13) := HE.out _ _ _ _
        go_wp2
        go_ret2
        exact ⟨by rw [HN.out]; exact ScoreIs.no (by decide), (boxedL HB3.out).2.2⟩
      · go_wp2_with fail
        refine (K4.out _).mono ?_
        rintro e w4 ⟨rfl, hb⟩
        have HB4 := Lib.hid (HB3.out.trans (hb.mono HB3.out.size))
        clear hb c0 c1
        obtain ⟨c0, c1, -⟩ := boxedL HB4.out
        cases r
        · have HN : Hid (fitE 0 0 true false = 13) := HE.out _ _ _ _
          go_wp2
          go_ret2
          exact ⟨by rw [HN.out]; exact ScoreIs.no (by decide), (boxedL HB4.out).2.2⟩
        · have HN : Hid (fitE 0 0 true true = 0) := HE.out _ _ _ _
          go_wp2_with fail
          refine (K5.out (by first | rfl | trivial) _).mono ?_
          rintro e w5 ⟨rfl, hb⟩
          have HB5 := Lib.hid (HB4.out.trans (hb.mono HB4.out.size))
          clear hb c0 c1
          go_wp2
          go_ret2
          exact ⟨by rw [HN.out]; exact ScoreIs.yes, (boxedL HB5.out).2.2⟩
    · have HN : Hid (fitE 0 le s r = le) := (HE.out _ _ _ _).trans ((if_pos rfl).trans (if_neg hl))
      have hl2 : ¬ (le : Int) = 0 := by omega
      go_wp2
      go_ret2
      exact ⟨by rw [HN.out]; exact ScoreIs.no hl, (boxedL HB2.out).2.2⟩
  · have HN : Hid (fitE te le s r = te) := (HE.out _ _ _ _).trans (if_neg ht)
    have ht2 : ¬ (te : Int) = 0 := by omega
    go_wp2
    go_ret2
    exact ⟨by rw [HN.out]; exact ScoreIs.no ht, (boxedL HB1.out).2.2⟩
end Rg
end Go.Proofs.Ythnajkpnchaciaa
