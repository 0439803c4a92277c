/-
  WALK of the law on none that has a place and a greater score.
-/
import Derived.Test.YthnajkpnchaciaaScoreOf
import Derived.Deep.RegionHeld3
namespace Go.Proofs.Ythnajkpnchaciaa
open Go.RowKit
namespace Rg
theorem bad_zero (D : Ld → Nat) (l : List Ld) (h : badK D l l.length = 0) (i : Nat) (hi : i < l.length) : D l[i] = 0 := by
  have h0 : ∀ k, k ≤ l.length → badK D l k = 0 := by
    intro k hk
    cases Nat.decEq (badK D l k) 0 with
    | isTrue h => exact h
    | isFalse hn => exact absurd ((bad_stay D l k hn _ hk).symm.trans h) hn
  rw [← bad_next D l i hi (h0 i (by omega))]
  exact h0 _ hi
/-- What Best's answer says of each load. -/
theorem best_says (te : Nat) (ws bs : List Pr) (y0 y1 y2 : Int) (l : List Ld) (h : bestE te ldE (scE te ws bs y0 y1 y2) (scV y0 y1 y2) l = 0 ∨ bestE te ldE (scE te ws bs y0 y1 y2) (scV y0 y1 y2) l = 13) (ht : te ≤ 5) :
    te = 0 ∧ ∀ i (hi : i < l.length), ldE l[i] = 0 := by
  by_cases h0 : te = 0
  · subst h0
    refine ⟨rfl, ?_⟩
    have hb : badK ldE l l.length = 0 := by
      cases Nat.decEq (badK ldE l l.length) 0 with
      | isTrue h => exact h
      | isFalse hn =>
        have he : bestE 0 ldE (scE 0 ws bs y0 y1 y2) (scV y0 y1 y2) l = badK ldE l l.length := by unfold bestE; rw [if_pos rfl, if_neg hn]
        have hle : ∀ k, k ≤ l.length → badK ldE l k ≤ 5 := by
          intro k
          induction k with
          | zero => intro _; exact Nat.zero_le _
          | succ k ih =>
            intro hk
            show (if badK ldE l k = 0 then (match l[k]? with | .some x => ldE x | .none => 0) else badK ldE l k) ≤ 5
            split
            · split
              · exact loadE_lt _ _ _ _ _ _ _ _ _
              · omega
            · exact ih (by omega)
        have := hle _ (Nat.le_refl _)
        omega
    exact fun i hi => bad_zero ldE l hb i hi
  · have he : bestE te ldE (scE te ws bs y0 y1 y2) (scV y0 y1 y2) l = te := if_neg h0
    omega
theorem best_none (te : Nat) (D E : Ld → Nat) (V : Ld → Int) (l : List Ld) (h : bestE te D E V l = 13) (ht0 : te = 0) (hb : badK D l l.length = 0) : ∀ i (hi : i < l.length), ¬ E l[i] = 0 := by
  intro i hi he
  unfold bestE at h
  rw [if_pos ht0, if_pos hb] at h
  cases hn : bestN E V l l.length with
  | some b => rw [hn] at h; cases h
  | none =>
    have := bestK_none _ _ _ _ hn i hi
    unfold okK at this
    rw [List.getElem?_eq_getElem hi] at this
    simp [he] at this
theorem best_some (te : Nat) (D E : Ld → Nat) (V : Ld → Int) (l : List Ld) (h : bestE te D E V l = 0) : ∃ hb : bestV te D E V l < l.length, E l[bestV te D E V l] = 0 ∧ ∀ i (hi : i < l.length), E l[i] = 0 → V l[i] ≤ V l[bestV te D E V l] := by
  have hv : bestV te D E V l = (bestN E V l l.length).getD 0 := if_pos h
  unfold bestE at h
  split at h
  · split at h
    · cases hn : bestN E V l l.length with
      | none => rw [hn] at h; cases h
      | some b =>
        rw [hn] at hv
        have hv' : bestV te D E V l = b := hv
        have hbl := bestK_lt _ _ _ _ _ hn
        have ho := hbl.2
        unfold okK at ho
        rw [List.getElem?_eq_getElem hbl.1] at ho
        have ho' : E l[b] = 0 := by simpa using ho
        simp only [hv']
        refine ⟨hbl.1, ho', fun i hi he => ?_⟩
        have := bestK_most _ _ _ _ _ hn i hi (by unfold okK; rw [List.getElem?_eq_getElem hi]; simpa using he)
        unfold vK at this
        rw [List.getElem?_eq_getElem hi, List.getElem?_eq_getElem hbl.1] at this
        exact this
    · omega
  · omega
theorem badK_all (D : Ld → Nat) (l : List Ld) (h : ∀ i (hi : i < l.length), D l[i] = 0) : ∀ k, k ≤ l.length → badK D l k = 0
  | 0, _ => rfl
  | k + 1, hk => by rw [bad_next D l k hk (badK_all D l h k (by omega))]; exact h k hk
set_option maxRecDepth 100000 in
set_option maxHeartbeats 8000000 in
theorem scoreWithin (yn yg ya : ByteArray) (y0 y1 y2 yr : Int) (ywa yba : Option Addr) (ywn ywc ybn ybc : Nat) (ws bs : List Pr) (l : List Ld) (v : Value) (w : World) (hl : Loads w w.heap.size v l) (hy : yn.size ≤ maxLen ∧ yg.size ≤ maxLen ∧ ya.size ≤ maxLen)
    (h1 : Pairs w w.heap.size (.slice ywa ywn ywc) ws) (h2 : Pairs w w.heap.size (.slice yba ybn ybc) bs) :
    Calls Try.prog 5 #[.agg #[.string yn, .int .i64 y0, .int .i64 y1, .int .i64 y2, .slice ywa ywn ywc, .slice yba ybn ybc, .string yg, .string ya, .int .i64 yr], v] w fun e w' => e = .returned (.bool true) ∧ Below w.heap.size w w' := by
  have g1 := fun z (hb : Below w.heap.size w z) => best_of yn yg ya y0 y1 y2 yr ywa yba ywn ywc ybn ybc ws bs l v z (hl.over hb) hy (h1.ovr hb) (h2.ovr hb)
  have ht5 : taskE yn yg ya y0 y1 y2 yr ws bs ≤ 5 := taskE_lt _ _ _ _ _ _ _ _ _
  obtain ⟨a, c, rfl, hlen, hm, hc⟩ := hl
  have KS : Hid (∀ x ∈ l, ∀ z, Below w.heap.size w z → Calls Try.prog 9 #[.agg #[.string yn, .int .i64 y0, .int .i64 y1, .int .i64 y2, .slice ywa ywn ywc, .slice yba ybn ybc, .string yg, .string ya, .int .i64 yr], .agg #[.string x.n, .int .i64 x.h0, .int .i64 x.h1, .int .i64 x.h2, .slice x.la x.ls.length x.lc, .slice x.ta x.ts.length x.tc, .int .i64 x.u0, .int .i64 x.u1, .int .i64 x.u2]] z fun e w' => ScoreIs (scE (taskE yn yg ya y0 y1 y2 yr ws bs) ws bs y0 y1 y2 x) (scV y0 y1 y2 x) e ∧ Below z.heap.size z w') := by
    intro x hx z hb
    obtain ⟨m1, m2, m3⟩ := hm x hx
    exact score_any yn yg ya y0 y1 y2 yr ywa yba ywn ywc ybn ybc x.n x.h0 x.h1 x.h2 x.la x.ta x.ls.length x.lc x.ts.length x.tc x.u0 x.u1 x.u2 ws bs x.ls x.ts z m1 hy (h1.ovr hb) (h2.ovr hb) (m2.ovr hb) (m3.ovr hb)
  have KU : Hid (∀ x ∈ l, ∀ z, Below w.heap.size w z → Calls Try.prog 16 #[.agg #[.string yn, .int .i64 y0, .int .i64 y1, .int .i64 y2, .slice ywa ywn ywc, .slice yba ybn ybc, .string yg, .string ya, .int .i64 yr], .agg #[.string x.n, .int .i64 x.h0, .int .i64 x.h1, .int .i64 x.h2, .slice x.la x.ls.length x.lc, .slice x.ta x.ts.length x.tc]] z fun e w' => e = .returned (.bool (suitB ws x.ls x.ts bs)) ∧ Below z.heap.size z w') := by
    intro x hx z hb
    obtain ⟨m1, m2, m3⟩ := hm x hx
    exact suits_any yn yg ya y0 y1 y2 yr ywa yba ywn ywc ybn ybc x.n x.h0 x.h1 x.h2 x.la x.ta x.ls.length x.lc x.ts.length x.tc ws bs x.ls x.ts z (h1.ovr hb) (h2.ovr hb) (m2.ovr hb) (m3.ovr hb)
  have KR : Hid (∀ (x : Ld) z, Calls Try.prog 17 #[.agg #[.string x.n, .int .i64 x.h0, .int .i64 x.h1, .int .i64 x.h2, .slice x.la x.ls.length x.lc, .slice x.ta x.ts.length x.tc], .agg #[.int .i64 x.u0, .int .i64 x.u1, .int .i64 x.u2], .agg #[.int .i64 y0, .int .i64 y1, .int .i64 y2]] z fun e w' => e = .returned (.bool (roomB x.h0 x.h1 x.h2 x.u0 x.u1 x.u2 y0 y1 y2)) ∧ Below z.heap.size z w') := fun x z => room_any _ _ _ _ _ _ _ _ _ _ _ _ _ _ _ _ z
  have HSAY := Lib.hid (fun h => best_says (taskE yn yg ya y0 y1 y2 yr ws bs) ws bs y0 y1 y2 l h ht5)
  have HNO : Hid (bestE (taskE yn yg ya y0 y1 y2 yr ws bs) ldE (scE (taskE yn yg ya y0 y1 y2 yr ws bs) ws bs y0 y1 y2) (scV y0 y1 y2) l = 13 → ∀ i (hi : i < l.length), ¬ scE (taskE yn yg ya y0 y1 y2 yr ws bs) ws bs y0 y1 y2 l[i] = 0) := by
    intro h
    obtain ⟨q1, q2⟩ := best_says (taskE yn yg ya y0 y1 y2 yr ws bs) ws bs y0 y1 y2 l (.inr h) ht5
    exact best_none _ ldE _ _ l h q1 (badK_all ldE l q2 _ (Nat.le_refl _))
  have HYES := Lib.hid (best_some (taskE yn yg ya y0 y1 y2 yr ws bs) ldE (scE (taskE yn yg ya y0 y1 y2 yr ws bs) ws bs y0 y1 y2) (scV y0 y1 y2) l)
  have HZERO : Hid (¬ bestE (taskE yn yg ya y0 y1 y2 yr ws bs) ldE (scE (taskE yn yg ya y0 y1 y2 yr ws bs) ws bs y0 y1 y2) (scV y0 y1 y2) l = 0 → bestV (taskE yn yg ya y0 y1 y2 yr ws bs) ldE (scE (taskE yn yg ya y0 y1 y2 yr ws bs) ws bs y0 y1 y2) (scV y0 y1 y2) l = 0) := fun h => if_neg h
  unfold BestIs at g1
  generalize taskE yn yg ya y0 y1 y2 yr ws bs = te at *
  have HEX : Hid (∀ x : Ld, te = 0 → ldE x = 0 → ∀ s r, suitB ws x.ls x.ts bs = s → roomB x.h0 x.h1 x.h2 x.u0 x.u1 x.u2 y0 y1 y2 = r → scE te ws bs y0 y1 y2 x = (if s = true then (if r = true then 0 else 13) else 13) ∧ (s = true → r = true → 0 ≤ scV y0 y1 y2 x ∧ scV y0 y1 y2 x ≤ 3000)) := by
    intro x h0 hd s r hs hr
    subst h0 hs hr
    refine ⟨?_, fun h1 h2 => sumS_in _ _ _ _ _ _ _ _ _ h2⟩
    unfold scE fitE
    rw [if_pos rfl, hd, if_pos rfl]
  generalize bestE te ldE (scE te ws bs y0 y1 y2) (scV y0 y1 y2) l = be at g1 HSAY HNO HYES HZERO
  generalize bestV te ldE (scE te ws bs y0 y1 y2) (scV y0 y1 y2) l = bv at g1 HYES HZERO
  have HC : Hid (∀ z, Below w.heap.size w z → ∀ i (h : i < l.length), ∃ b off, a = some ⟨b, off, none⟩ ∧ b < w.heap.size ∧ ∀ i (h : i < l.length), z.cell? ⟨b, off + i * 9, none⟩ = some (.string l[i].n) ∧ z.cell? ⟨b, off + i * 9 + 1, none⟩ = some (.int .i64 l[i].h0) ∧ z.cell? ⟨b, off + i * 9 + 2, none⟩ = some (.int .i64 l[i].h1) ∧
      z.cell? ⟨b, off + i * 9 + 3, none⟩ = some (.int .i64 l[i].h2) ∧ z.cell? ⟨b, off + i * 9 + 4, none⟩ = some (.slice l[i].la l[i].ls.length l[i].lc) ∧ z.cell? ⟨b, off + i * 9 + 5, none⟩ = some (.slice l[i].ta l[i].ts.length l[i].tc) ∧
      z.cell? ⟨b, off + i * 9 + 6, none⟩ = some (.int .i64 l[i].u0) ∧ z.cell? ⟨b, off + i * 9 + 7, none⟩ = some (.int .i64 l[i].u1) ∧ z.cell? ⟨b, off + i * 9 + 8, none⟩ = some (.int .i64 l[i].u2)) := by
    intro z hb i hi
    obtain ⟨b, off, e, hlt, hcc⟩ := hc (by omega)
    refine ⟨b, off, e, hlt, fun i hi => ?_⟩
    have k : ∀ o, z.cell? ⟨b, o, none⟩ = w.cell? ⟨b, o, none⟩ := fun o => hb.cell (by exact hlt)
    simp only [k]
    exact hcc i hi
  have G1 := Lib.hid g1
  have HB0 := Lib.hid (Below.refl (w.alloc (.cells #[.string yn, .int .i64 y0, .int .i64 y1, .int .i64 y2, .slice ywa ywn ywc, .slice yba ybn ybc, .string yg, .string ya, .int .i64 yr] 25)).heap.size (w.alloc (.cells #[.string yn, .int .i64 y0, .int .i64 y1, .int .i64 y2, .slice ywa ywn ywc, .slice yba ybn ybc, .string yg, .string ya, .int .i64 yr] 25)))
  clear g1 hm hc h1 h2 hy ht5
  go_enter Try.func5, Try.ntmps5
  go_wp2_with fail
  refine (lives_true _).mono ?_
  rintro e w1 ⟨rfl, hb⟩
  have HB1 := Lib.hid (HB0.out.trans (hb.mono HB0.out.size))
  clear hb
  obtain ⟨c0, hbw⟩ := boxed1 HB1.out
  have HW1 := Lib.hid hbw
  clear hbw
  go_wp2_with fail
  refine (G1.out _ HW1.out).mono ?_
  rintro e w2 ⟨rfl, hb⟩
  have HB2 := Lib.hid (HB1.out.trans (hb.mono HB1.out.size))
  clear hb c0
  obtain ⟨c0, hbw⟩ := boxed1 HB2.out
  have HW2 := Lib.hid hbw
  have hz2 : w.heap.size + 1 ≤ w2.heap.size := by have := HB2.out.size; simpa using this
  have C0 := Lib.hid c0
  clear hbw HB0 HB1 HW1 G1
  by_cases hbe : be = 0
  · subst hbe
    obtain ⟨hbl, hbe0, hmost⟩ := HYES.out rfl
    obtain ⟨hte, hld⟩ := HSAY.out (.inl rfl)
    subst hte
    have HEX2 := Lib.hid (fun x => HEX.out x rfl)
    have HMOST := Lib.hid hmost
    have HLD := Lib.hid hld
    have hbl' : (bv : Int) < (l.length : Int) := by omega
    have hnl : ¬ (bv : Int) < 0 := by omega
    have hnl' : decide ((bv : Int) < 0) = false := by simp
    have hng : decide ((l.length : Int) ≤ (bv : Int)) = false := by simp; omega
    have HMM : Hid (∀ i (hi : i < l.length), scE 0 ws bs y0 y1 y2 l[i] = 0 → scV y0 y1 y2 l[i] ≤ scV y0 y1 y2 l[bv]) := HMOST.out
    obtain ⟨b, off, rfl, hblt, hcc⟩ := HC.out _ HW2.out bv hbl
    obtain ⟨d0, d1, d2, d3, d4, d5, d6, d7, d8⟩ := hcc bv hbl
    have KB2 := Lib.hid (KS.out l[bv] (List.getElem_mem hbl))
    rw [hbe0] at KB2
    generalize hxx : l[bv] = x at *
    generalize scV y0 y1 y2 x = mo at *
    rcases x with ⟨xn, x0, x1, x2, xla, xlc, xta, xtc, xu0, xu1, xu2, ls, ts⟩
    generalize ls.length = xln at *
    generalize ts.length = xtn at *
    simp only at d0 d1 d2 d3 d4 d5 d6 d7 d8 KB2
    have hfm : ∀ e, ScoreIs 0 mo e → e = .returned (.tuple #[.int .i64 mo, .int .i64 0]) := by
      intro e he
      unfold ScoreIs fitV at he
      rw [if_pos rfl] at he
      exact he
    have K2 : Hid (∀ z, (z.cell? ⟨w.heap.size, 0, none⟩ = some (.string yn) ∧ z.cell? ⟨w.heap.size, 1, none⟩ = some (.int .i64 y0) ∧ z.cell? ⟨w.heap.size, 2, none⟩ = some (.int .i64 y1) ∧ z.cell? ⟨w.heap.size, 3, none⟩ = some (.int .i64 y2) ∧ z.cell? ⟨w.heap.size, 4, none⟩ = some (.slice ywa ywn ywc) ∧ z.cell? ⟨w.heap.size, 5, none⟩ = some (.slice yba ybn ybc) ∧ z.cell? ⟨w.heap.size, 6, none⟩ = some (.string yg) ∧ z.cell? ⟨w.heap.size, 7, none⟩ = some (.string ya) ∧ z.cell? ⟨w.heap.size, 8, none⟩ = some (.int .i64 yr) ∧ z.cell? ⟨b, off + bv * 9, none⟩ = some (.string xn) ∧ z.cell? ⟨b, off + bv * 9 + 1, none⟩ = some (.int .i64 x0) ∧ z.cell? ⟨b, off + bv * 9 + 2, none⟩ = some (.int .i64 x1) ∧ z.cell? ⟨b, off + bv * 9 + 3, none⟩ = some (.int .i64 x2) ∧ z.cell? ⟨b, off + bv * 9 + 4, none⟩ = some (.slice xla xln xlc) ∧ z.cell? ⟨b, off + bv * 9 + 5, none⟩ = some (.slice xta xtn xtc) ∧ z.cell? ⟨b, off + bv * 9 + 6, none⟩ = some (.int .i64 xu0) ∧ z.cell? ⟨b, off + bv * 9 + 7, none⟩ = some (.int .i64 xu1) ∧ z.cell? ⟨b, off + bv * 9 + 8, none⟩ = some (.int .i64 xu2) ∧ Hid (Below w2.heap.size w2 z)) → Calls Try.prog 9 #[.agg #[.string yn, .int .i64 y0, .int .i64 y1, .int .i64 y2, .slice ywa ywn ywc, .slice yba ybn ybc, .string yg, .string ya, .int .i64 yr], .agg #[.string xn, .int .i64 x0, .int .i64 x1, .int .i64 x2, .slice xla xln xlc, .slice xta xtn xtc, .int .i64 xu0, .int .i64 xu1, .int .i64 xu2]] z fun e z' => e = .returned (.tuple #[.int .i64 mo, .int .i64 0]) ∧ (z'.cell? ⟨w.heap.size, 0, none⟩ = some (.string yn) ∧ z'.cell? ⟨w.heap.size, 1, none⟩ = some (.int .i64 y0) ∧ z'.cell? ⟨w.heap.size, 2, none⟩ = some (.int .i64 y1) ∧ z'.cell? ⟨w.heap.size, 3, none⟩ = some (.int .i64 y2) ∧ z'.cell? ⟨w.heap.size, 4, none⟩ = some (.slice ywa ywn ywc) ∧ z'.cell? ⟨w.heap.size, 5, none⟩ = some (.slice yba ybn ybc) ∧ z'.cell? ⟨w.heap.size, 6, none⟩ = some (.string yg) ∧ z'.cell? ⟨w.heap.size, 7, none⟩ = some (.string ya) ∧ z'.cell? ⟨w.heap.size, 8, none⟩ = some (.int .i64 yr) ∧ z'.cell? ⟨b, off + bv * 9, none⟩ = some (.string xn) ∧ z'.cell? ⟨b, off + bv * 9 + 1, none⟩ = some (.int .i64 x0) ∧ z'.cell? ⟨b, off + bv * 9 + 2, none⟩ = some (.int .i64 x1) ∧ z'.cell? ⟨b, off + bv * 9 + 3, none⟩ = some (.int .i64 x2) ∧ z'.cell? ⟨b, off + bv * 9 + 4, none⟩ = some (.slice xla xln xlc) ∧ z'.cell? ⟨b, off + bv * 9 + 5, none⟩ = some (.slice xta xtn xtc) ∧ z'.cell? ⟨b, off + bv * 9 + 6, none⟩ = some (.int .i64 xu0) ∧ z'.cell? ⟨b, off + bv * 9 + 7, none⟩ = some (.int .i64 xu1) ∧ z'.cell? ⟨b, off + bv * 9 + 8, none⟩ = some (.int .i64 xu2) ∧ Hid (Below w2.heap.size w2 z'))) := by
      intro z h
      obtain ⟨a0, a1, a2, a3, a4, a5, a6, a7, a8, b0, b1, b2, b3, b4, b5, b6, b7, b8, hS⟩ := h
      have hz := hS.out.size
      refine (KB2.out z (HW2.out.trans (hS.out.mono (by omega)))).mono fun e z' ⟨he, hb⟩ => ⟨hfm e he, ?_⟩
      have k0 : ∀ i, z'.cell? ⟨w.heap.size, i, none⟩ = z.cell? ⟨w.heap.size, i, none⟩ := fun i => hb.cell (by show w.heap.size < _; omega)
      have k1 : ∀ i, z'.cell? ⟨b, i, none⟩ = z.cell? ⟨b, i, none⟩ := fun i => hb.cell (by show b < _; omega)
      have hE : Hid (Below w2.heap.size w2 z') := hS.out.trans (hb.mono hz)
      simp only [k0, k1]
      exact ⟨a0, a1, a2, a3, a4, a5, a6, a7, a8, b0, b1, b2, b3, b4, b5, b6, b7, b8, hE⟩
    have KD : Hid (w2.drew.cell? ⟨w.heap.size, 0, none⟩ = some (.string yn) ∧ w2.drew.cell? ⟨w.heap.size, 1, none⟩ = some (.int .i64 y0) ∧ w2.drew.cell? ⟨w.heap.size, 2, none⟩ = some (.int .i64 y1) ∧ w2.drew.cell? ⟨w.heap.size, 3, none⟩ = some (.int .i64 y2) ∧ w2.drew.cell? ⟨w.heap.size, 4, none⟩ = some (.slice ywa ywn ywc) ∧ w2.drew.cell? ⟨w.heap.size, 5, none⟩ = some (.slice yba ybn ybc) ∧ w2.drew.cell? ⟨w.heap.size, 6, none⟩ = some (.string yg) ∧ w2.drew.cell? ⟨w.heap.size, 7, none⟩ = some (.string ya) ∧ w2.drew.cell? ⟨w.heap.size, 8, none⟩ = some (.int .i64 yr) ∧ w2.drew.cell? ⟨b, off + bv * 9, none⟩ = some (.string xn) ∧ w2.drew.cell? ⟨b, off + bv * 9 + 1, none⟩ = some (.int .i64 x0) ∧ w2.drew.cell? ⟨b, off + bv * 9 + 2, none⟩ = some (.int .i64 x1) ∧ w2.drew.cell? ⟨b, off + bv * 9 + 3, none⟩ = some (.int .i64 x2) ∧ w2.drew.cell? ⟨b, off + bv * 9 + 4, none⟩ = some (.slice xla xln xlc) ∧ w2.drew.cell? ⟨b, off + bv * 9 + 5, none⟩ = some (.slice xta xtn xtc) ∧ w2.drew.cell? ⟨b, off + bv * 9 + 6, none⟩ = some (.int .i64 xu0) ∧ w2.drew.cell? ⟨b, off + bv * 9 + 7, none⟩ = some (.int .i64 xu1) ∧ w2.drew.cell? ⟨b, off + bv * 9 + 8, none⟩ = some (.int .i64 xu2) ∧ Hid (Below w2.heap.size w2 w2.drew)) := by
      have hE : Hid (Below w2.heap.size w2 w2.drew) := bdN (Below.refl _ _) 1
      exact ⟨c0 0, c0 1, c0 2, c0 3, c0 4, c0 5, c0 6, c0 7, c0 8, d0, d1, d2, d3, d4, d5, d6, d7, d8, hE⟩
    have hi1 : (0 : Int) ≤ (bv : Int) := by omega
    clear hcc KB2 hfm hxx HYES HSAY HNO HZERO hmost hld
    clear c0 d0 d1 d2 d3 d4 d5 d6 d7 d8
    go_wp2
    go_region_held3 (fun z => (z.cell? ⟨w.heap.size, 0, none⟩ = some (.string yn) ∧ z.cell? ⟨w.heap.size, 1, none⟩ = some (.int .i64 y0) ∧ z.cell? ⟨w.heap.size, 2, none⟩ = some (.int .i64 y1) ∧ z.cell? ⟨w.heap.size, 3, none⟩ = some (.int .i64 y2) ∧ z.cell? ⟨w.heap.size, 4, none⟩ = some (.slice ywa ywn ywc) ∧ z.cell? ⟨w.heap.size, 5, none⟩ = some (.slice yba ybn ybc) ∧ z.cell? ⟨w.heap.size, 6, none⟩ = some (.string yg) ∧ z.cell? ⟨w.heap.size, 7, none⟩ = some (.string ya) ∧ z.cell? ⟨w.heap.size, 8, none⟩ = some (.int .i64 yr) ∧ z.cell? ⟨b, off + bv * 9, none⟩ = some (.string xn) ∧ z.cell? ⟨b, off + bv * 9 + 1, none⟩ = some (.int .i64 x0) ∧ z.cell? ⟨b, off + bv * 9 + 2, none⟩ = some (.int .i64 x1) ∧ z.cell? ⟨b, off + bv * 9 + 3, none⟩ = some (.int .i64 x2) ∧ z.cell? ⟨b, off + bv * 9 + 4, none⟩ = some (.slice xla xln xlc) ∧ z.cell? ⟨b, off + bv * 9 + 5, none⟩ = some (.slice xta xtn xtc) ∧ z.cell? ⟨b, off + bv * 9 + 6, none⟩ = some (.int .i64 xu0) ∧ z.cell? ⟨b, off + bv * 9 + 7, none⟩ = some (.int .i64 xu1) ∧ z.cell? ⟨b, off + bv * 9 + 8, none⟩ = some (.int .i64 xu2) ∧ Hid (Below w2.heap.size w2 z))) (first | assumption | exact KD.out)
      (first
        | (go_at_call 9; go_loud ((with_reducible refine (K2.out _ ?_).mono ?_); assumption; rintro e w7 ⟨rfl, hS⟩)))
    have hS7 : Below w2.heap.size w2 w7 := hS.2.2.2.2.2.2.2.2.2.2.2.2.2.2.2.2.2.2.out
    have hz7 : w.heap.size + 1 ≤ w7.heap.size := by have := hS7.size; omega
    have HW7 : Hid (Below w.heap.size w w7) := HW2.out.trans (hS7.mono (by omega))
    have C7 : Hid (∀ i, w7.cell? ⟨w.heap.size, i, none⟩ = #[.string yn, .int .i64 y0, .int .i64 y1, .int .i64 y2, .slice ywa ywn ywc, .slice yba ybn ybc, .string yg, .string ya, .int .i64 yr][i]?) := fun i => (hS7.cell (by show w.heap.size < _; omega)).trans (C0.out i)
    clear hS hS7 KD K2 hi1 hbl hblt hbl' hnl hnl' hng hbe0
    have HWO' := Lib.hid HW7.out
    go_wp2
    go_loopg [54] l.length (fun g i wx => ∃ k : Nat, k + g = l.length ∧ i = .int .i64 k ∧ w7.heap.size ≤ wx.heap.size ∧ Below w7.heap.size w7 wx)
    case atStart => exact ⟨0, by omega, rfl, Nat.le_refl _, Below.refl _ _⟩
    case round =>
      obtain ⟨k, hkg, rfl, hzo, hbx⟩ := hrel
      have HX := Lib.hid hbx
      have HWY := Lib.hid (HWO'.out.trans (hbx.mono (by omega)))
      cases gk with
      | zero =>
        obtain rfl : k = l.length := by omega
        clear hkg hbx
        go_wp2
        go_ret
        exact ⟨rfl, HWY.out⟩
      | succ g =>
        have hlk : k < l.length := by omega
        have HG := Lib.hid hkg
        obtain ⟨b2, off2, hbo, hblt, hcc⟩ := HC.out _ HWY.out k hlk
        simp only [Option.some.injEq, Addr.mk.injEq] at hbo
        obtain ⟨rfl, rfl, -⟩ := hbo
        obtain ⟨d0, d1, d2, d3, d4, d5, d6, d7, d8⟩ := hcc k hlk
        have HSC := Lib.hid (KS.out l[k] (List.getElem_mem hlk))
        have HSU := Lib.hid (KU.out l[k] (List.getElem_mem hlk))
        have HSR := Lib.hid (KR.out l[k])
        have HEK := Lib.hid (HEX2.out l[k] (HLD.out k hlk))
        have HMK := Lib.hid (HMM.out k hlk)
        have t0 : ∀ i, wr.cell? ⟨w.heap.size, i, none⟩ = #[.string yn, .int .i64 y0, .int .i64 y1, .int .i64 y2, .slice ywa ywn ywc, .slice yba ybn ybc, .string yg, .string ya, .int .i64 yr][i]? := fun i => (hbx.cell (by show w.heap.size < _; omega)).trans (C7.out i)
        have p0 : ∀ o i, (wr.alloc o).cell? ⟨w.heap.size, i, none⟩ = #[.string yn, .int .i64 y0, .int .i64 y1, .int .i64 y2, .slice ywa ywn ywc, .slice yba ybn ybc, .string yg, .string ya, .int .i64 yr][i]? := fun o i => by rw [World.cell?_alloc_lt _ _ _ (by show w.heap.size < _; omega)]; exact t0 i
        have HWA : Hid (∀ o, Below w.heap.size w (wr.alloc o)) := fun o => HWY.out.alloc (by omega) o
        have T0 := Lib.hid t0
        clear hkg hbx hcc t0
        generalize l[k] = x at *
        generalize scE 0 ws bs y0 y1 y2 x = er at *
        generalize scV y0 y1 y2 x = vv at *
        generalize suitB ws x.ls x.ts bs = s at *
        generalize roomB x.h0 x.h1 x.h2 x.u0 x.u1 x.u2 y0 y1 y2 = r at *
        rcases x with ⟨xn, x0, x1, x2, xla, xlc, xta, xtc, xu0, xu1, xu2, ls, ts⟩
        generalize ls.length = xln at *
        generalize ts.length = xtn at *
        simp only at d0 d1 d2 d3 d4 d5 d6 d7 d8 HSC HSU HSR
        go_wp2_with fail
        refine (HSC.out _ (HWA.out _)).mono ?_
        rintro e w3 ⟨hsi, hb⟩
        have hz3 := hb.size
        simp at hz3
        have HX3 : Hid (Below w7.heap.size w7 w3) := (HX.out.alloc (by omega) _).trans (hb.mono (by simp; omega))
        have HW3 : Hid (Below w.heap.size w w3) := (HWA.out _).trans (hb.mono (by simp; omega))
        have hxb : ∀ i, w3.cell? ⟨wr.heap.size, i, none⟩ = #[.string xn, .int .i64 x0, .int .i64 x1, .int .i64 x2, .slice xla xln xlc, .slice xta xtn xtc, .int .i64 xu0, .int .i64 xu1, .int .i64 xu2][i]? := fun i => by rw [hb.cell (by simp)]; simp [go_sem]
        have t3 : ∀ i, w3.cell? ⟨w.heap.size, i, none⟩ = #[.string yn, .int .i64 y0, .int .i64 y1, .int .i64 y2, .slice ywa ywn ywc, .slice yba ybn ybc, .string yg, .string ya, .int .i64 yr][i]? := fun i => (((one_ wr _).trans (hb.mono (by simp))).cell (by show w.heap.size < _; omega)).trans (T0.out i)
        clear hb d0 d1 d2 d3 d4 d5 d6 d7 d8 p0
        unfold ScoreIs at hsi
        subst hsi
        go_wp2_with fail
        refine (HSU.out _ HW3.out).mono ?_
        rintro e w4 ⟨rfl, hb⟩
        have hz4 := hb.size
        have HX4 := Lib.hid (HX3.out.trans (hb.mono (by omega)))
        have hxb4 : ∀ i, w4.cell? ⟨wr.heap.size, i, none⟩ = #[.string xn, .int .i64 x0, .int .i64 x1, .int .i64 x2, .slice xla xln xlc, .slice xta xtn xtc, .int .i64 xu0, .int .i64 xu1, .int .i64 xu2][i]? := fun i => (hb.cell (by show wr.heap.size < _; omega)).trans (hxb i)
        have t4 : ∀ i, w4.cell? ⟨w.heap.size, i, none⟩ = #[.string yn, .int .i64 y0, .int .i64 y1, .int .i64 y2, .slice ywa ywn ywc, .slice yba ybn ybc, .string yg, .string ya, .int .i64 yr][i]? := fun i => (hb.cell (by show w.heap.size < _; omega)).trans (t3 i)
        clear hb hxb t3
        cases s
        · obtain ⟨he, -⟩ := HEK.out false r rfl rfl
          have he' : er = 13 := he
          subst he'
          have hf : fitV 13 vv = 0 := rfl
          clear HEK HMK hxb4 t4 he
          go_wp2
          go_roundg g
          case measure => omega
          case rel => exact ⟨k + 1, by have := HG.out; omega, by go_num, by omega, HX4.out⟩
        · go_wp2_with fail
          refine (HSR.out _).mono ?_
          rintro e w5 ⟨rfl, hb⟩
          have hz5 := hb.size
          have HX5 := Lib.hid (HX4.out.trans (hb.mono (by omega)))
          clear hb hxb4 t4
          cases r
          · obtain ⟨he, -⟩ := HEK.out true false rfl rfl
            have he' : er = 13 := he
            subst he'
            have hf : fitV 13 vv = 0 := rfl
            clear HEK HMK he
            go_wp2
            go_roundg g
            case measure => omega
            case rel => exact ⟨k + 1, by have := HG.out; omega, by go_num, by omega, HX5.out⟩
          · obtain ⟨he, hin⟩ := HEK.out true true rfl rfl
            have he' : er = 0 := he
            subst he'
            have hf : fitV 0 vv = vv := if_pos rfl
            have hmk := HMK.out rfl
            obtain ⟨hv0, hv1⟩ := hin rfl rfl
            have q1 : decide (vv < 0) = false := by simpa using hv0
            have q2 : decide (3000 < vv) = false := by simpa using hv1
            have q3 : decide (mo < vv) = false := by simpa using hmk
            clear HEK HMK he hin
            go_wp2
            go_roundg g
            case measure => omega
            case rel => exact ⟨k + 1, by have := HG.out; omega, by go_num, by omega, HX5.out⟩
  · by_cases hb13 : be = 13
    · subst hb13
      obtain ⟨hte, hld⟩ := HSAY.out (.inr rfl)
      subst hte
      have HEX2 := Lib.hid (fun x => HEX.out x rfl)
      have HNN := Lib.hid (HNO.out rfl)
      have HLD := Lib.hid hld
      have hbv := HZERO.out hbe
      subst hbv
      have HMM : Hid (∀ i (hi : i < l.length), scE 0 ws bs y0 y1 y2 l[i] = 0 → scV y0 y1 y2 l[i] ≤ -1) := fun i hi h => absurd h (HNN.out i hi)
      clear HYES HSAY HNO HZERO hld hbe
      have HWO' := Lib.hid HW2.out
      go_wp2
      go_loopg [54] l.length (fun g i wx => ∃ k : Nat, k + g = l.length ∧ i = .int .i64 k ∧ w2.heap.size ≤ wx.heap.size ∧ Below w2.heap.size w2 wx)
      case atStart => exact ⟨0, by omega, rfl, Nat.le_refl _, Below.refl _ _⟩
      case round =>
        obtain ⟨k, hkg, rfl, hzo, hbx⟩ := hrel
        have HX := Lib.hid hbx
        have HWY := Lib.hid (HWO'.out.trans (hbx.mono (by omega)))
        cases gk with
        | zero =>
          obtain rfl : k = l.length := by omega
          clear hkg hbx
          go_wp2
          go_ret
          exact ⟨rfl, HWY.out⟩
        | succ g =>
          have hlk : k < l.length := by omega
          have HG := Lib.hid hkg
          obtain ⟨b, off, rfl, hblt, hcc⟩ := HC.out _ HWY.out k hlk
          obtain ⟨d0, d1, d2, d3, d4, d5, d6, d7, d8⟩ := hcc k hlk
          have HSC := Lib.hid (KS.out l[k] (List.getElem_mem hlk))
          have HSU := Lib.hid (KU.out l[k] (List.getElem_mem hlk))
          have HSR := Lib.hid (KR.out l[k])
          have HEK := Lib.hid (HEX2.out l[k] (HLD.out k hlk))
          have HMK := Lib.hid (HMM.out k hlk)
          have t0 : ∀ i, wr.cell? ⟨w.heap.size, i, none⟩ = #[.string yn, .int .i64 y0, .int .i64 y1, .int .i64 y2, .slice ywa ywn ywc, .slice yba ybn ybc, .string yg, .string ya, .int .i64 yr][i]? := fun i => (hbx.cell (by show w.heap.size < _; omega)).trans (C0.out i)
          have p0 : ∀ o i, (wr.alloc o).cell? ⟨w.heap.size, i, none⟩ = #[.string yn, .int .i64 y0, .int .i64 y1, .int .i64 y2, .slice ywa ywn ywc, .slice yba ybn ybc, .string yg, .string ya, .int .i64 yr][i]? := fun o i => by rw [World.cell?_alloc_lt _ _ _ (by show w.heap.size < _; omega)]; exact t0 i
          have HWA : Hid (∀ o, Below w.heap.size w (wr.alloc o)) := fun o => HWY.out.alloc (by omega) o
          have T0 := Lib.hid t0
          clear hkg hbx hcc t0
          generalize l[k] = x at *
          generalize scE 0 ws bs y0 y1 y2 x = er at *
          generalize scV y0 y1 y2 x = vv at *
          generalize suitB ws x.ls x.ts bs = s at *
          generalize roomB x.h0 x.h1 x.h2 x.u0 x.u1 x.u2 y0 y1 y2 = r at *
          rcases x with ⟨xn, x0, x1, x2, xla, xlc, xta, xtc, xu0, xu1, xu2, ls, ts⟩
          generalize ls.length = xln at *
          generalize ts.length = xtn at *
          simp only at d0 d1 d2 d3 d4 d5 d6 d7 d8 HSC HSU HSR
          go_wp2_with fail
          refine (HSC.out _ (HWA.out _)).mono ?_
          rintro e w3 ⟨hsi, hb⟩
          have hz3 := hb.size
          simp at hz3
          have HX3 : Hid (Below w2.heap.size w2 w3) := (HX.out.alloc (by omega) _).trans (hb.mono (by simp; omega))
          have HW3 : Hid (Below w.heap.size w w3) := (HWA.out _).trans (hb.mono (by simp; omega))
          have hxb : ∀ i, w3.cell? ⟨wr.heap.size, i, none⟩ = #[.string xn, .int .i64 x0, .int .i64 x1, .int .i64 x2, .slice xla xln xlc, .slice xta xtn xtc, .int .i64 xu0, .int .i64 xu1, .int .i64 xu2][i]? := fun i => by rw [hb.cell (by simp)]; simp [go_sem]
          have t3 : ∀ i, w3.cell? ⟨w.heap.size, i, none⟩ = #[.string yn, .int .i64 y0, .int .i64 y1, .int .i64 y2, .slice ywa ywn ywc, .slice yba ybn ybc, .string yg, .string ya, .int .i64 yr][i]? := fun i => (((one_ wr _).trans (hb.mono (by simp))).cell (by show w.heap.size < _; omega)).trans (T0.out i)
          clear hb d0 d1 d2 d3 d4 d5 d6 d7 d8 p0
          unfold ScoreIs at hsi
          subst hsi
          go_wp2_with fail
          refine (HSU.out _ HW3.out).mono ?_
          rintro e w4 ⟨rfl, hb⟩
          have hz4 := hb.size
          have HX4 := Lib.hid (HX3.out.trans (hb.mono (by omega)))
          have hxb4 : ∀ i, w4.cell? ⟨wr.heap.size, i, none⟩ = #[.string xn, .int .i64 x0, .int .i64 x1, .int .i64 x2, .slice xla xln xlc, .slice xta xtn xtc, .int .i64 xu0, .int .i64 xu1, .int .i64 xu2][i]? := fun i => (hb.cell (by show wr.heap.size < _; omega)).trans (hxb i)
          have t4 : ∀ i, w4.cell? ⟨w.heap.size, i, none⟩ = #[.string yn, .int .i64 y0, .int .i64 y1, .int .i64 y2, .slice ywa ywn ywc, .slice yba ybn ybc, .string yg, .string ya, .int .i64 yr][i]? := fun i => (hb.cell (by show w.heap.size < _; omega)).trans (t3 i)
          clear hb hxb t3
          cases s
          · obtain ⟨he, -⟩ := HEK.out false r rfl rfl
            have he' : er = 13 := he
            subst he'
            have hf : fitV 13 vv = 0 := rfl
            clear HEK HMK hxb4 t4 he
            go_wp2
            go_roundg g
            case measure => omega
            case rel => exact ⟨k + 1, by have := HG.out; omega, by go_num, by omega, HX4.out⟩
          · go_wp2_with fail
            refine (HSR.out _).mono ?_
            rintro e w5 ⟨rfl, hb⟩
            have hz5 := hb.size
            have HX5 := Lib.hid (HX4.out.trans (hb.mono (by omega)))
            clear hb hxb4 t4
            cases r
            · obtain ⟨he, -⟩ := HEK.out true false rfl rfl
              have he' : er = 13 := he
              subst he'
              have hf : fitV 13 vv = 0 := rfl
              clear HEK HMK he
              go_wp2
              go_roundg g
              case measure => omega
              case rel => exact ⟨k + 1, by have := HG.out; omega, by go_num, by omega, HX5.out⟩
            · obtain ⟨he, hin⟩ := HEK.out true true rfl rfl
              have he' : er = 0 := he
              subst he'
              have hf : fitV 0 vv = vv := if_pos rfl
              have hmk := HMK.out rfl
              obtain ⟨hv0, hv1⟩ := hin rfl rfl
              have q1 : decide (vv < 0) = false := by simpa using hv0
              have q2 : decide (3000 < vv) = false := by simpa using hv1
              have q3 : decide ((-1) < vv) = false := by simpa using hmk
              clear HEK HMK he hin
              go_wp2
              go_roundg g
              case measure => omega
              case rel => exact ⟨k + 1, by have := HG.out; omega, by go_num, by omega, HX5.out⟩
    · have hbv := HZERO.out hbe
      subst hbv
      have n1 : ((be : Int) != 0) = true := by simp; omega
      have n2 : ((be : Int) != 13) = true := by simp; omega
      clear HEX HSAY HNO HYES HZERO KS KU KR HC
      go_wp2
      go_ret
      exact ⟨by simp, HW2.out⟩
end Rg
end Go.Proofs.Ythnajkpnchaciaa
