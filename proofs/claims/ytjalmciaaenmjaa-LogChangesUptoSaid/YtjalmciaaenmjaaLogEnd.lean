/-
  WHAT A LOG IS ASKED: log.endOf, termAt, many, ahead, behind, refuse; End, Term, Newer.
-/
import Derived.Test.YtjalmciaaenmjaaLogRow
import Derived.Deep.RegionHeld3
namespace Go.Proofs.Ytjalmciaaenmjaa
open Go.RowKit
namespace Lo
set_option linter.unusedVariables false
set_option maxHeartbeats 2000000 in
theorem end_of (b t : Nat) (a : Option Addr) (c : Nat) (l : List En) (w : World) {A : Nat} (h : Sl w A w.heap.size a c l) :
    Calls Try.prog 31 #[.agg #[.int .u64 (b : Nat), .int .u64 (t : Nat), .slice a l.length c]] w fun e w' => e = .returned (.tuple #[.int .u64 (eI b l : Nat), .int .u64 (eT t l : Nat)]) ∧ Below w.heap.size w w' := by
  by_cases h0 : l.length = 0
  · obtain rfl : l = [] := List.eq_nil_of_length_eq_zero h0
    rw [eI_nil, eT_nil, List.length_nil]
    clear h h0
    go_enter Try.func31, Try.ntmps31
    go_wp2
    go_quiet (fail)
    go_wp2
    go_ret2
    exact ⟨rfl, bdN ((Below.refl _ _).alloc (Nat.le_refl _) _) _⟩
  · obtain ⟨m, hm⟩ : ∃ m, l.length = m + 1 := ⟨l.length - 1, by omega⟩
    have e1 : eI b l = l[m].i := by rw [eI_at b l (by omega)]; simp only [hm, Nat.add_sub_cancel]
    have e2 : eT t l = l[m].t := by rw [eT_at t l (by omega)]; simp only [hm, Nat.add_sub_cancel]
    rw [hm, e1, e2]
    have hB : Below w.heap.size w (w.alloc (.cells #[.int .u64 (b : Nat), .int .u64 (t : Nat), .slice a (m + 1 : Nat) c] 25)) := (Below.refl _ _).alloc (Nat.le_refl _) _
    obtain ⟨blk, off, rfl, -, hlt, u, hc⟩ := (h.keep hB).at m (by omega)
    obtain ⟨c0, c1, c2, c3, c4, iv, -, -⟩ := hc
    have hln := h.len
    have HH := Lib.hid hm
    clear e1 e2 h h0
    generalize l[m] = e at *
    clear hm
    rcases e with ⟨ei, et, ek, ed, eks⟩
    simp only at c0 c1 c2 c3 c4 iv ⊢
    obtain ⟨ua, uc, rfl⟩ := iv.slice
    clear iv
    have tk : wrap64 (m : Int) = (m : Int) := by have := HH.out; unfold wrap64; omega
    have m0 : (0 : Int) ≤ (m : Int) := by omega
    have m1 : (m : Int) < (m : Int) + 1 := by omega
    have m2 : ¬ (m : Int) + 1 = 0 := by omega
    have m3 : ((m : Int) + 1 == 0) = false := by simp; omega
    clear hln
    go_enter Try.func31, Try.ntmps31
    go_wp2
    go_quiet (fail)
    go_wp2
    go_ret2
    exact ⟨rfl, bdN (((Below.refl _ _).alloc (Nat.le_refl _) _).alloc (by simp) _) _⟩
set_option maxHeartbeats 2000000 in
theorem many_of (b t x n : Nat) (a : Option Addr) (c : Nat) (w : World) (hn : n ≤ 2199023255551) (hx : Lt64 x) (hb : Lt64 b) :
    Calls Try.prog 47 #[.agg #[.int .u64 (b : Nat), .int .u64 (t : Nat), .slice a n c], .int .u64 (x : Nat)] w fun e w' => e = .returned (.int .i64 (mny b n x : Nat)) ∧ Below w.heap.size w w' := by
  have hB : Below w.heap.size w (w.alloc (.cells #[.int .u64 (b : Nat), .int .u64 (t : Nat), .slice a n c] 25)) := (Below.refl _ _).alloc (Nat.le_refl _) _
  have HB := Lib.hid hB
  clear hB
  by_cases h1 : x ≤ b
  · have HE : Hid (mny b n x = 0) := if_pos h1
    rw [HE.out]
    have h1' : (x : Int) ≤ (b : Int) := by omega
    clear h1
    go_enter Try.func47, Try.ntmps47
    go_wp2
    go_ret
    exact ⟨rfl, HB.out⟩
  · have HE : Hid (mny b n x = min (x - b) n) := if_neg h1
    rw [HE.out]
    have h1' : ¬ (x : Int) ≤ (b : Int) := by omega
    have h1x : decide ((x : Int) ≤ (b : Int)) = false := by simpa using h1'
    have h1y : decide (x ≤ b) = false := by simpa using h1
    obtain ⟨j, hj⟩ : ∃ j, j = x - b := ⟨_, rfl⟩
    have t1 : IntKind.u64.wrap ((x : Int) - (b : Int)) = (j : Int) := by unfold Lt64 at hx hb; rw [IntKind.wrap_u64]; omega
    have t2 : IntKind.u64.wrap (n : Int) = (n : Int) := by rw [IntKind.wrap_u64]; omega
    rw [← hj]
    by_cases h2 : j < n
    · rw [show min j n = j by omega]
      have t9 : wrap64 (j : Int) = (j : Int) := by unfold wrap64; omega
      have f0 : (j : Int) < (n : Int) := by omega
      have f1 : (j : Int) ≤ (n : Int) := by omega
      have f2 : j < n := by omega
      have f3 : ¬ (n : Int) < (j : Int) := by omega
      have f4 : ¬ (n : Int) ≤ (j : Int) := by omega
      have f5 : decide ((n : Int) < (j : Int)) = false := by simp; omega
      have f6 : decide (n < j) = false := by simp; omega
      have f7 : ¬ n < j := by omega
      clear h1 hj hn hx hb HE h2
      go_enter Try.func47, Try.ntmps47
      go_wp2
      go_ret
      exact ⟨rfl, HB.out⟩
    · by_cases h3 : j = n
      · subst h3
        rw [show min j j = j by omega]
        have t9 : wrap64 (j : Int) = (j : Int) := by unfold wrap64; omega
        clear h1 hj hn hx hb HE h2
        go_enter Try.func47, Try.ntmps47
        go_wp2
        go_ret
        exact ⟨rfl, HB.out⟩
      · rw [show min j n = n by omega]
        have t9 : wrap64 (n : Int) = (n : Int) := by unfold wrap64; omega
        have f0 : (n : Int) < (j : Int) := by omega
        have f1 : (n : Int) ≤ (j : Int) := by omega
        have f2 : n < j := by omega
        have f3 : ¬ (j : Int) < (n : Int) := by omega
        have f4 : ¬ (j : Int) ≤ (n : Int) := by omega
        have f5 : decide ((j : Int) < (n : Int)) = false := by simp; omega
        have f6 : decide (j < n) = false := by simp; omega
        have f7 : ¬ j < n := by omega
        clear h1 hj hn hx hb HE h2 h3
        go_enter Try.func47, Try.ntmps47
        go_wp2
        go_ret
        exact ⟨rfl, HB.out⟩
set_option maxHeartbeats 2000000 in
theorem ahead_of (b t x : Nat) (a : Option Addr) (c : Nat) (l : List En) (w : World) {A : Nat} (h : Sl w A w.heap.size a c l) (hx : Lt64 x) (hb : Lt64 b) :
    Calls Try.prog 39 #[.agg #[.int .u64 (b : Nat), .int .u64 (t : Nat), .slice a l.length c], .int .u64 (x : Nat)] w fun e w' => e = .returned (.slice a (mny b l.length x) (mny b l.length x)) ∧ Below w.heap.size w w' := by
  have hB : Below w.heap.size w (w.alloc (.cells #[.int .u64 (b : Nat), .int .u64 (t : Nat), .slice a l.length c] 25)) := (Below.refl _ _).alloc (Nat.le_refl _) _
  have HM := Lib.hid (many_of b t x l.length a c (w.alloc (.cells #[.int .u64 (b : Nat), .int .u64 (t : Nat), .slice a l.length c] 25)) h.len hx hb)
  have HB := Lib.hid hB
  have hq := mny_le b l.length x
  have hc := h.cap
  have hl := h.len
  clear hB h hx hb
  generalize mny b l.length x = q at *
  generalize l.length = n at *
  have q1 : (q : Int) ≤ (c : Int) := by omega
  have q2 : (0 : Int) ≤ (q : Int) := by omega
  go_enter Try.func39, Try.ntmps39
  go_wp2_with (go_at_call 47; go_loud ((with_reducible refine HM.out.mono ?_); rintro e w1 ⟨rfl, hb1⟩; have hz1 := hb1.size; have d0 := hb1.cell (p := ⟨w.heap.size, 0, none⟩) (by simp); have d1 := hb1.cell (p := ⟨w.heap.size, 1, none⟩) (by simp); have d2 := hb1.cell (p := ⟨w.heap.size, 2, none⟩) (by simp); simp [go_sem] at d0 d1 d2; have HB1 := Lib.hid (HB.out.trans (hb1.mono HB.out.size)); have HL1 := Lib.hid hb1; clear hb1))
  go_wp2
  go_ret
  exact ⟨rfl, HB1.out⟩
theorem tm_at {b t : Nat} {l : List En} {x j : Nat} (hj : j < l.length) (hx : x = b + j + 1) : tmV b t l x = l[j].t ∧ tmE b l.length x = 0 := by
  unfold tmV tmE
  rw [if_neg (by omega), if_neg (by omega), if_neg (by omega), if_neg (by omega), if_neg (by omega), show x - b - 1 = j by omega, List.getElem?_eq_getElem hj]
  exact ⟨rfl, rfl⟩
set_option maxHeartbeats 4000000 in
theorem term_at (b t x : Nat) (a : Option Addr) (c : Nat) (l : List En) (w : World) {A : Nat} (h : Sl w A w.heap.size a c l) (he : eI b l = b + l.length) (hx : Lt64 x) :
    Calls Try.prog 33 #[.agg #[.int .u64 (b : Nat), .int .u64 (t : Nat), .slice a l.length c], .int .u64 (x : Nat)] w fun e w' => e = .returned (.tuple #[.int .u64 (tmV b t l x : Nat), .int .i64 (tmE b l.length x : Nat)]) ∧ Below w.heap.size w w' := by
  have hB : Below w.heap.size w (w.alloc (.cells #[.int .u64 (b : Nat), .int .u64 (t : Nat), .slice a l.length c] 25)) := (Below.refl _ _).alloc (Nat.le_refl _) _
  have hC := end_of b t a c l _ (h.on hB)
  rw [he] at hC
  have HS := Lib.hid (h.keep hB)
  have hl := h.len
  have HB := Lib.hid hB
  clear hB h
  obtain ⟨y, hy⟩ : ∃ y, y = b + l.length := ⟨_, rfl⟩
  rw [← hy] at hC
  have HC := Lib.hid hC
  clear hC he
  generalize eT t l = z at *
  by_cases h1 : x < b
  · have HE1 : Hid (tmV b t l x = 0) := if_pos h1
    have HE2 : Hid (tmE b l.length x = 15) := if_pos h1
    rw [HE1.out, HE2.out]
    have h1' : (x : Int) < (b : Int) := by omega
    clear h1 HE1 HE2 hy hl hx
    go_enter Try.func33, Try.ntmps33
    go_wp2_with (go_at_call 31; go_loud ((with_reducible refine HC.out.mono ?_); rintro e w1 ⟨rfl, hb1⟩; have hz1 := hb1.size; have d0 := hb1.cell (p := ⟨w.heap.size, 0, none⟩) (by simp); have d1 := hb1.cell (p := ⟨w.heap.size, 1, none⟩) (by simp); have d2 := hb1.cell (p := ⟨w.heap.size, 2, none⟩) (by simp); simp [go_sem] at d0 d1 d2; have HB1 := Lib.hid (HB.out.trans (hb1.mono HB.out.size)); have HL1 := Lib.hid hb1; clear hb1))
    go_wp2
    go_ret2
    exact ⟨rfl, HB1.out⟩
  · have h1' : ¬ (x : Int) < (b : Int) := by omega
    have h1x : decide (x < b) = false := by simpa using h1
    have h1y : decide ((x : Int) < (b : Int)) = false := by simpa using h1'
    by_cases h2 : y < x
    · have HE1 : Hid (tmV b t l x = 0) := by show _ = _; unfold tmV; rw [if_neg h1, if_pos (by omega)]
      have HE2 : Hid (tmE b l.length x = 6) := by show _ = _; unfold tmE; rw [if_neg h1, if_pos (by omega)]
      rw [HE1.out, HE2.out]
      have h2' : (y : Int) < (x : Int) := by omega
      clear h1 h2 HE1 HE2 hy hl hx
      go_enter Try.func33, Try.ntmps33
      go_wp2_with (go_at_call 31; go_loud ((with_reducible refine HC.out.mono ?_); rintro e w1 ⟨rfl, hb1⟩; have hz1 := hb1.size; have d0 := hb1.cell (p := ⟨w.heap.size, 0, none⟩) (by simp); have d1 := hb1.cell (p := ⟨w.heap.size, 1, none⟩) (by simp); have d2 := hb1.cell (p := ⟨w.heap.size, 2, none⟩) (by simp); simp [go_sem] at d0 d1 d2; have HB1 := Lib.hid (HB.out.trans (hb1.mono HB.out.size)); have HL1 := Lib.hid hb1; clear hb1))
      go_wp2
      go_ret2
      exact ⟨rfl, HB1.out⟩
    · have h2' : ¬ (y : Int) < (x : Int) := by omega
      have h2x : decide (y < x) = false := by simpa using h2
      have h2y : decide ((y : Int) < (x : Int)) = false := by simpa using h2'
      by_cases h3 : x = b
      · have HE1 : Hid (tmV b t l x = t) := by show _ = _; unfold tmV; rw [if_neg h1, if_neg (by omega), if_pos h3]
        have HE2 : Hid (tmE b l.length x = 0) := by show _ = _; unfold tmE; rw [if_neg h1, if_neg (by omega)]
        rw [HE1.out, HE2.out]
        subst h3
        clear h1 h2 HE1 HE2 hy hl hx
        go_enter Try.func33, Try.ntmps33
        go_wp2_with (go_at_call 31; go_loud ((with_reducible refine HC.out.mono ?_); rintro e w1 ⟨rfl, hb1⟩; have hz1 := hb1.size; have d0 := hb1.cell (p := ⟨w.heap.size, 0, none⟩) (by simp); have d1 := hb1.cell (p := ⟨w.heap.size, 1, none⟩) (by simp); have d2 := hb1.cell (p := ⟨w.heap.size, 2, none⟩) (by simp); simp [go_sem] at d0 d1 d2; have HB1 := Lib.hid (HB.out.trans (hb1.mono HB.out.size)); have HL1 := Lib.hid hb1; clear hb1))
        go_wp2
        go_ret2
        exact ⟨rfl, HB1.out⟩
      · have h3' : ¬ (x : Int) = (b : Int) := by omega
        have h3x : ((x : Int) == (b : Int)) = false := by simp; omega
        obtain ⟨j, hj⟩ : ∃ j, x = b + j + 1 := ⟨x - b - 1, by omega⟩
        have hjl : j < l.length := by omega
        obtain ⟨HE1, HE2⟩ := tm_at (t := t) hjl hj
        rw [HE1, HE2]
        clear HE1 HE2
        obtain ⟨j1, hj1⟩ : ∃ j1, j1 = x - b := ⟨_, rfl⟩
        have t1 : IntKind.u64.wrap ((x : Int) - (b : Int)) = (j1 : Int) := by unfold Lt64 at hx; rw [IntKind.wrap_u64]; omega
        have t2 : IntKind.u64.wrap ((j1 : Int) - 1) = (j : Int) := by unfold Lt64 at hx; rw [IntKind.wrap_u64]; omega
        have j0 : (0 : Int) ≤ (j : Int) := by omega
        have j2 : (j : Int) < (l.length : Int) := by omega
        obtain ⟨blk, off, rfl, -, hlt, u, hc⟩ := HS.out.at j hjl
        obtain ⟨-, c1, -, -, -, -, -, -⟩ := hc
        generalize l[j].t = et at *
        generalize l.length = n at *
        clear h1 h2 h3 hj hj1 hy hl hx hjl HS
        go_enter Try.func33, Try.ntmps33
        go_wp2_with (go_at_call 31; go_loud ((with_reducible refine HC.out.mono ?_); rintro e w1 ⟨rfl, hb1⟩; have hz1 := hb1.size; have d0 := hb1.cell (p := ⟨w.heap.size, 0, none⟩) (by simp); have d1 := hb1.cell (p := ⟨w.heap.size, 1, none⟩) (by simp); have d2 := hb1.cell (p := ⟨w.heap.size, 2, none⟩) (by simp); simp [go_sem] at d0 d1 d2; have HB1 := Lib.hid (HB.out.trans (hb1.mono HB.out.size)); have HL1 := Lib.hid hb1; have f1 := (HL1.out.cell (p := ⟨blk, off + j * 5 + 1, none⟩) (by show blk < _; simp; omega)).trans c1; clear hb1))
        go_wp2
        go_ret2
        exact ⟨rfl, HB1.out⟩
def rfE (b t : Nat) (l : List En) (x u : Nat) : Nat := if tmE b l.length x = 0 then (if tmV b t l x = u then 0 else 18) else tmE b l.length x
set_option maxHeartbeats 2000000 in
theorem refuse_of (b t x u : Nat) (a : Option Addr) (c : Nat) (l : List En) (w : World) {A : Nat} (h : Sl w A w.heap.size a c l) (he : eI b l = b + l.length) (hx : Lt64 x) :
    Calls Try.prog 44 #[.agg #[.int .u64 (b : Nat), .int .u64 (t : Nat), .slice a l.length c], .int .u64 (x : Nat), .int .u64 (u : Nat)] w fun e w' => e = .returned (.int .i64 (rfE b t l x u : Nat)) ∧ Below w.heap.size w w' := by
  have hB : Below w.heap.size w (w.alloc (.cells #[.int .u64 (b : Nat), .int .u64 (t : Nat), .slice a l.length c] 25)) := (Below.refl _ _).alloc (Nat.le_refl _) _
  have HC := Lib.hid (term_at b t x a c l _ (h.on hB) he hx)
  have HB := Lib.hid hB
  have HR : Hid (rfE b t l x u = if tmE b l.length x = 0 then (if tmV b t l x = u then 0 else 18) else tmE b l.length x) := rfl
  generalize rfE b t l x u = r at *
  clear hB h he hx
  generalize tmE b l.length x = q at *
  generalize tmV b t l x = v at *
  by_cases h1 : q = 0
  · subst h1
    by_cases h2 : v = u
    · subst h2
      have HE : Hid (r = 0) := HR.out.trans (by simp)
      rw [HE.out]
      clear HR
      go_enter Try.func44, Try.ntmps44
      go_wp2_with (go_at_call 33; go_loud ((with_reducible refine HC.out.mono ?_); rintro e w1 ⟨rfl, hb1⟩; have hz1 := hb1.size; have HB1 := Lib.hid (HB.out.trans (hb1.mono HB.out.size)); have HL1 := Lib.hid hb1; clear hb1))
      go_wp2
      go_ret
      exact ⟨rfl, HB1.out⟩
    · have HE : Hid (r = 18) := HR.out.trans (by simp [h2])
      rw [HE.out]
      have h2' : ¬ (v : Int) = (u : Int) := by omega
      have h2x : ((v : Int) != (u : Int)) = true := by simp; omega
      clear HR h2
      go_enter Try.func44, Try.ntmps44
      go_wp2_with (go_at_call 33; go_loud ((with_reducible refine HC.out.mono ?_); rintro e w1 ⟨rfl, hb1⟩; have hz1 := hb1.size; have HB1 := Lib.hid (HB.out.trans (hb1.mono HB.out.size)); have HL1 := Lib.hid hb1; clear hb1))
      go_wp2
      go_ret
      exact ⟨rfl, HB1.out⟩
  · have HE : Hid (r = q) := HR.out.trans (by rw [if_neg h1])
    rw [HE.out]
    have h2' : ¬ (q : Int) = 0 := by omega
    have h2x : ((q : Int) != 0) = true := by simp; omega
    clear HR h1
    go_enter Try.func44, Try.ntmps44
    go_wp2_with (go_at_call 33; go_loud ((with_reducible refine HC.out.mono ?_); rintro e w1 ⟨rfl, hb1⟩; have hz1 := hb1.size; have HB1 := Lib.hid (HB.out.trans (hb1.mono HB.out.size)); have HL1 := Lib.hid hb1; clear hb1))
    go_wp2
    go_ret
    exact ⟨rfl, HB1.out⟩
set_option maxHeartbeats 2000000 in
theorem the_end (b t : Nat) (a : Option Addr) (c : Nat) (l : List En) (w : World) {A : Nat} (h : Sl w A w.heap.size a c l) :
    Calls Try.prog 9 #[.agg #[.int .u64 (b : Nat), .int .u64 (t : Nat), .slice a l.length c]] w fun e w' => e = .returned (if okB b t l = true then .tuple #[.int .u64 (eI b l : Nat), .int .u64 (eT t l : Nat), .int .i64 0] else .tuple #[.int .u64 0, .int .u64 0, .int .i64 10]) ∧ Below w.heap.size w w' := by
  have hB : Below w.heap.size w (w.alloc (.cells #[.int .u64 (b : Nat), .int .u64 (t : Nat), .slice a l.length c] 25)) := (Below.refl _ _).alloc (Nat.le_refl _) _
  have HC := Lib.hid (log_check b t a c l _ (h.on hB))
  have HS := Lib.hid (h.on hB)
  have HB := Lib.hid hB
  clear hB h
  cases hk : okB b t l
  · rw [hk] at HC
    rw [if_neg (by simp)]
    clear hk HS
    go_enter Try.func9, Try.ntmps9
    go_wp2_with (go_at_call 22; go_loud ((with_reducible refine HC.out.mono ?_); rintro e w1 ⟨rfl, hb1⟩; have hz1 := hb1.size; have HB1 := Lib.hid (HB.out.trans (hb1.mono HB.out.size)); have HL1 := Lib.hid hb1; clear hb1))
    go_wp2
    go_ret3
    exact ⟨rfl, HB1.out⟩
  · rw [hk] at HC
    rw [if_pos rfl]
    have HE := Lib.hid (fun w1 (hb : Below _ _ w1) => end_of b t a c l w1 (HS.out.on hb))
    generalize eI b l = y at *
    generalize eT t l = z at *
    clear hk HS
    go_enter Try.func9, Try.ntmps9
    go_wp2_with (go_at_call 22; go_loud ((with_reducible refine HC.out.mono ?_); rintro e w1 ⟨rfl, hb1⟩; have hz1 := hb1.size; have d0 := hb1.cell (p := ⟨w.heap.size, 0, none⟩) (by simp); have d1 := hb1.cell (p := ⟨w.heap.size, 1, none⟩) (by simp); have d2 := hb1.cell (p := ⟨w.heap.size, 2, none⟩) (by simp); simp [go_sem] at d0 d1 d2; have HB1 := Lib.hid (HB.out.trans (hb1.mono HB.out.size)); have HL1 := Lib.hid hb1; clear hb1))
    go_wp2_with (go_at_call 31; go_loud ((with_reducible refine (HE.out _ HL1.out).mono ?_); rintro e w2 ⟨rfl, hb2⟩; have hz2 := hb2.size; have HB2 := Lib.hid (HB1.out.trans (hb2.mono HB1.out.size)); have HL2 := Lib.hid hb2; clear hb2))
    go_wp2
    go_ret3
    exact ⟨rfl, HB2.out⟩
set_option maxHeartbeats 2000000 in
theorem the_term (b t x : Nat) (a : Option Addr) (c : Nat) (l : List En) (w : World) {A : Nat} (h : Sl w A w.heap.size a c l) (hb : Lt64 b) (hx : Lt64 x) :
    Calls Try.prog 11 #[.agg #[.int .u64 (b : Nat), .int .u64 (t : Nat), .slice a l.length c], .int .u64 (x : Nat)] w fun e w' => e = .returned (if okB b t l = true then .tuple #[.int .u64 (tmV b t l x : Nat), .int .i64 (tmE b l.length x : Nat)] else .tuple #[.int .u64 0, .int .i64 10]) ∧ Below w.heap.size w w' := by
  have hB : Below w.heap.size w (w.alloc (.cells #[.int .u64 (b : Nat), .int .u64 (t : Nat), .slice a l.length c] 25)) := (Below.refl _ _).alloc (Nat.le_refl _) _
  have HC := Lib.hid (log_check b t a c l _ (h.on hB))
  have HS := Lib.hid (h.on hB)
  have HB := Lib.hid hB
  clear hB h
  cases hk : okB b t l
  · rw [hk] at HC
    rw [if_neg (by simp)]
    clear hk HS
    go_enter Try.func11, Try.ntmps11
    go_wp2_with (go_at_call 22; go_loud ((with_reducible refine HC.out.mono ?_); rintro e w1 ⟨rfl, hb1⟩; have hz1 := hb1.size; have HB1 := Lib.hid (HB.out.trans (hb1.mono HB.out.size)); have HL1 := Lib.hid hb1; clear hb1))
    go_wp2
    go_ret2
    exact ⟨rfl, HB1.out⟩
  · rw [hk] at HC
    rw [if_pos rfl]
    have he := eI_ok hk hb
    have HE := Lib.hid (fun w1 (hb : Below _ _ w1) => term_at b t x a c l w1 (HS.out.on hb) he hx)
    generalize tmV b t l x = y at *
    generalize tmE b l.length x = z at *
    clear hk HS he hb hx
    go_enter Try.func11, Try.ntmps11
    go_wp2_with (go_at_call 22; go_loud ((with_reducible refine HC.out.mono ?_); rintro e w1 ⟨rfl, hb1⟩; have hz1 := hb1.size; have d0 := hb1.cell (p := ⟨w.heap.size, 0, none⟩) (by simp); have d1 := hb1.cell (p := ⟨w.heap.size, 1, none⟩) (by simp); have d2 := hb1.cell (p := ⟨w.heap.size, 2, none⟩) (by simp); simp [go_sem] at d0 d1 d2; have HB1 := Lib.hid (HB.out.trans (hb1.mono HB.out.size)); have HL1 := Lib.hid hb1; clear hb1))
    go_wp2_with (go_at_call 33; go_loud ((with_reducible refine (HE.out _ HL1.out).mono ?_); rintro e w2 ⟨rfl, hb2⟩; have hz2 := hb2.size; have HB2 := Lib.hid (HB1.out.trans (hb2.mono HB1.out.size)); have HL2 := Lib.hid hb2; clear hb2))
    go_wp2
    go_ret2
    exact ⟨rfl, HB2.out⟩
def nwB (b t : Nat) (l : List En) (x u : Nat) : Bool := decide (eT t l < u) || (decide (u = eT t l) && decide (eI b l ≤ x))
set_option maxHeartbeats 2000000 in
theorem the_newer (b t x u : Nat) (a : Option Addr) (c : Nat) (l : List En) (w : World) {A : Nat} (h : Sl w A w.heap.size a c l) :
    Calls Try.prog 17 #[.agg #[.int .u64 (b : Nat), .int .u64 (t : Nat), .slice a l.length c], .int .u64 (x : Nat), .int .u64 (u : Nat)] w fun e w' => e = .returned (if okB b t l = true then .tuple #[.bool (nwB b t l x u), .int .i64 0] else .tuple #[.bool false, .int .i64 10]) ∧ Below w.heap.size w w' := by
  have hB : Below w.heap.size w (w.alloc (.cells #[.int .u64 (b : Nat), .int .u64 (t : Nat), .slice a l.length c] 25)) := (Below.refl _ _).alloc (Nat.le_refl _) _
  have HC := Lib.hid (log_check b t a c l _ (h.on hB))
  have HS := Lib.hid (h.on hB)
  have HB := Lib.hid hB
  clear hB h
  cases hk : okB b t l
  · rw [hk] at HC
    rw [if_neg (by simp)]
    clear hk HS
    go_enter Try.func17, Try.ntmps17
    go_wp2_with (go_at_call 22; go_loud ((with_reducible refine HC.out.mono ?_); rintro e w1 ⟨rfl, hb1⟩; have hz1 := hb1.size; have HB1 := Lib.hid (HB.out.trans (hb1.mono HB.out.size)); have HL1 := Lib.hid hb1; clear hb1))
    go_wp2
    go_ret2
    exact ⟨rfl, HB1.out⟩
  · rw [hk] at HC
    rw [if_pos rfl]
    have HE := Lib.hid (fun w1 (hb : Below _ _ w1) => end_of b t a c l w1 (HS.out.on hb))
    have HR : Hid (nwB b t l x u = (decide (eT t l < u) || (decide (u = eT t l) && decide (eI b l ≤ x)))) := rfl
    generalize nwB b t l x u = r at *
    generalize eI b l = y at *
    generalize eT t l = z at *
    clear hk HS
    by_cases h1 : z < u
    · have HQ : Hid (r = true) := HR.out.trans (by simp [h1])
      have h1' : (z : Int) < (u : Int) := by omega
      clear HR h1
      go_enter Try.func17, Try.ntmps17
      go_wp2_with (go_at_call 22; go_loud ((with_reducible refine HC.out.mono ?_); rintro e w1 ⟨rfl, hb1⟩; have hz1 := hb1.size; have d0 := hb1.cell (p := ⟨w.heap.size, 0, none⟩) (by simp); have d1 := hb1.cell (p := ⟨w.heap.size, 1, none⟩) (by simp); have d2 := hb1.cell (p := ⟨w.heap.size, 2, none⟩) (by simp); simp [go_sem] at d0 d1 d2; have HB1 := Lib.hid (HB.out.trans (hb1.mono HB.out.size)); have HL1 := Lib.hid hb1; clear hb1))
      go_wp2_with (go_at_call 31; go_loud ((with_reducible refine (HE.out _ HL1.out).mono ?_); rintro e w2 ⟨rfl, hb2⟩; have hz2 := hb2.size; have HB2 := Lib.hid (HB1.out.trans (hb2.mono HB1.out.size)); have HL2 := Lib.hid hb2; clear hb2))
      go_wp2
      go_ret2
      exact ⟨by rw [HQ.out]; rfl, HB2.out⟩
    · have h1' : ¬ (z : Int) < (u : Int) := by omega
      have h1x : decide (z < u) = false := by simpa using h1
      have h1y : decide ((z : Int) < (u : Int)) = false := by simpa using h1'
      by_cases h2 : u = z
      · subst h2
        by_cases h3 : y ≤ x
        · have HQ : Hid (r = true) := HR.out.trans (by simp [h3])
          have h3' : (y : Int) ≤ (x : Int) := by omega
          clear HR h1 h3
          go_enter Try.func17, Try.ntmps17
          go_wp2_with (go_at_call 22; go_loud ((with_reducible refine HC.out.mono ?_); rintro e w1 ⟨rfl, hb1⟩; have hz1 := hb1.size; have d0 := hb1.cell (p := ⟨w.heap.size, 0, none⟩) (by simp); have d1 := hb1.cell (p := ⟨w.heap.size, 1, none⟩) (by simp); have d2 := hb1.cell (p := ⟨w.heap.size, 2, none⟩) (by simp); simp [go_sem] at d0 d1 d2; have HB1 := Lib.hid (HB.out.trans (hb1.mono HB.out.size)); have HL1 := Lib.hid hb1; clear hb1))
          go_wp2_with (go_at_call 31; go_loud ((with_reducible refine (HE.out _ HL1.out).mono ?_); rintro e w2 ⟨rfl, hb2⟩; have hz2 := hb2.size; have HB2 := Lib.hid (HB1.out.trans (hb2.mono HB1.out.size)); have HL2 := Lib.hid hb2; clear hb2))
          go_wp2
          go_ret2
          exact ⟨by rw [HQ.out]; rfl, HB2.out⟩
        · have HQ : Hid (r = false) := HR.out.trans (by simp [h3])
          have h3' : ¬ (y : Int) ≤ (x : Int) := by omega
          have h3x : decide (y ≤ x) = false := by simpa using h3
          have h3y : decide ((y : Int) ≤ (x : Int)) = false := by simpa using h3'
          clear HR h1 h3
          go_enter Try.func17, Try.ntmps17
          go_wp2_with (go_at_call 22; go_loud ((with_reducible refine HC.out.mono ?_); rintro e w1 ⟨rfl, hb1⟩; have hz1 := hb1.size; have d0 := hb1.cell (p := ⟨w.heap.size, 0, none⟩) (by simp); have d1 := hb1.cell (p := ⟨w.heap.size, 1, none⟩) (by simp); have d2 := hb1.cell (p := ⟨w.heap.size, 2, none⟩) (by simp); simp [go_sem] at d0 d1 d2; have HB1 := Lib.hid (HB.out.trans (hb1.mono HB.out.size)); have HL1 := Lib.hid hb1; clear hb1))
          go_wp2_with (go_at_call 31; go_loud ((with_reducible refine (HE.out _ HL1.out).mono ?_); rintro e w2 ⟨rfl, hb2⟩; have hz2 := hb2.size; have HB2 := Lib.hid (HB1.out.trans (hb2.mono HB1.out.size)); have HL2 := Lib.hid hb2; clear hb2))
          go_wp2
          go_ret2
          exact ⟨by rw [HQ.out]; rfl, HB2.out⟩
      · have HQ : Hid (r = false) := HR.out.trans (by simp [h1, h2])
        have h2' : ¬ (u : Int) = (z : Int) := by omega
        have h2x : ((u : Int) == (z : Int)) = false := by simp; omega
        clear HR h1 h2
        go_enter Try.func17, Try.ntmps17
        go_wp2_with (go_at_call 22; go_loud ((with_reducible refine HC.out.mono ?_); rintro e w1 ⟨rfl, hb1⟩; have hz1 := hb1.size; have d0 := hb1.cell (p := ⟨w.heap.size, 0, none⟩) (by simp); have d1 := hb1.cell (p := ⟨w.heap.size, 1, none⟩) (by simp); have d2 := hb1.cell (p := ⟨w.heap.size, 2, none⟩) (by simp); simp [go_sem] at d0 d1 d2; have HB1 := Lib.hid (HB.out.trans (hb1.mono HB.out.size)); have HL1 := Lib.hid hb1; clear hb1))
        go_wp2_with (go_at_call 31; go_loud ((with_reducible refine (HE.out _ HL1.out).mono ?_); rintro e w2 ⟨rfl, hb2⟩; have hz2 := hb2.size; have HB2 := Lib.hid (HB1.out.trans (hb2.mono HB1.out.size)); have HL2 := Lib.hid hb2; clear hb2))
        go_wp2
        go_ret2
        exact ⟨by rw [HQ.out]; rfl, HB2.out⟩
end Lo
end Go.Proofs.Ytjalmciaaenmjaa
