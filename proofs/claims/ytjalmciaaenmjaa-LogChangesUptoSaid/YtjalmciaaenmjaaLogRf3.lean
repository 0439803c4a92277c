/-
  THE DOCUMENT's ANSWERS OF A LOG: gafferref14.Last, At, End, Newer, Term.
-/
import Derived.Test.YtjalmciaaenmjaaLogRf2
import Derived.Test.YtjalmciaaenmjaaLogEnd
namespace Go.Proofs.Ytjalmciaaenmjaa
open Go.RowKit Go.Lib
namespace Lo
set_option linter.unusedVariables false
theorem lgE_t : lgE true = 0 := rfl
theorem lgE_f : lgE false = 10 := rfl
set_option maxHeartbeats 2000000 in
theorem last_log (b t : Nat) (a : Option Addr) (c : Nat) (l : List En) (w : World) {A : Nat} (h : Sl w A w.heap.size a c l) :
    Calls Try.prog 32 #[.agg #[.int .u64 (b : Nat), .int .u64 (t : Nat), .slice a l.length c]] w fun e w' => e = .returned (.tuple #[.int .u64 (eI b l : Nat), .int .u64 (eT t l : Nat)]) ∧ Below w.heap.size w w' := by
  by_cases h0 : l.length = 0
  · obtain rfl : l = [] := List.eq_nil_of_length_eq_zero h0
    rw [eI_nil, eT_nil, List.length_nil]
    clear h h0
    go_enter Try.func32, Try.ntmps32
    go_wp2
    go_quiet (fail)
    go_wp2
    go_ret2
    exact ⟨rfl, bdN ((Below.refl _ _).alloc (Nat.le_refl _) _) _⟩
  · obtain ⟨m, hm⟩ : ∃ m, l.length = m + 1 := ⟨l.length - 1, by omega⟩
    have e1 : eI b l = l[m].i := by rw [eI_at b l (by omega)]; simp only [hm, Nat.add_sub_cancel]
    have e2 : eT t l = l[m].t := by rw [eT_at t l (by omega)]; simp only [hm, Nat.add_sub_cancel]
    rw [hm, e1, e2]
    have hB : Below w.heap.size w (w.alloc (.cells #[.int .u64 (b : Nat), .int .u64 (t : Nat), .slice a (m + 1 : Nat) c] 25)) := (Below.refl _ _).alloc (Nat.le_refl _) _
    obtain ⟨blk, off, rfl, -, hlt, u, hc⟩ := (h.keep hB).at m (by omega)
    obtain ⟨c0, c1, c2, c3, c4, iv, -, -⟩ := hc
    have hln := h.len
    have HH := Lib.hid hm
    clear e1 e2 h h0
    generalize l[m] = e at *
    clear hm
    rcases e with ⟨ei, et, ek, ed, eks⟩
    simp only at c0 c1 c2 c3 c4 iv ⊢
    obtain ⟨ua, uc, rfl⟩ := iv.slice
    clear iv
    have tk : wrap64 (m : Int) = (m : Int) := by have := HH.out; unfold wrap64; omega
    have m0 : (0 : Int) ≤ (m : Int) := by omega
    have m1 : (m : Int) < (m : Int) + 1 := by omega
    have m2 : ¬ (m : Int) + 1 = 0 := by omega
    have m3 : ((m : Int) + 1 == 0) = false := by simp; omega
    clear hln
    go_enter Try.func32, Try.ntmps32
    go_wp2
    go_quiet (fail)
    go_wp2
    go_ret2
    exact ⟨rfl, bdN (((Below.refl _ _).alloc (Nat.le_refl _) _).alloc (by simp) _) _⟩
set_option maxHeartbeats 2000000 in
theorem end_ref (b t : Nat) (a : Option Addr) (c : Nat) (l : List En) (w : World) {A : Nat} (h : Sl w A w.heap.size a c l) (hb : Lt64 b) :
    Calls Try.prog 10 #[.agg #[.int .u64 (b : Nat), .int .u64 (t : Nat), .slice a l.length c]] w fun e w' => e = .returned (if okB b t l = true then .tuple #[.int .u64 (eI b l : Nat), .int .u64 (eT t l : Nat), .int .i64 0] else .tuple #[.int .u64 0, .int .u64 0, .int .i64 10]) ∧ Below w.heap.size w w' := by
  have hB : Below w.heap.size w (w.alloc (.cells #[.int .u64 (b : Nat), .int .u64 (t : Nat), .slice a l.length c] 25)) := (Below.refl _ _).alloc (Nat.le_refl _) _
  have HC := Lib.hid (check_log b t a c l _ (h.on hB) hb)
  have HS := Lib.hid (h.on hB)
  have HB := Lib.hid hB
  clear hB h
  cases hk : okB b t l
  · rw [hk, lgE_f] at HC
    rw [if_neg (by simp)]
    clear hk HS hb
    go_enter Try.func10, Try.ntmps10
    go_wp2_with (go_at_call 23; go_loud ((with_reducible refine HC.out.mono ?_); rintro e w1 ⟨rfl, hb1⟩; have hz1 := hb1.size; have HB1 := Lib.hid (HB.out.trans (hb1.mono HB.out.size)); have HL1 := Lib.hid hb1; clear hb1))
    go_wp2
    go_ret3
    exact ⟨rfl, HB1.out⟩
  · rw [hk, lgE_t] at HC
    rw [if_pos rfl]
    have HE := Lib.hid (fun w1 (hb : Below _ _ w1) => last_log b t a c l w1 (HS.out.on hb))
    generalize eI b l = y at *
    generalize eT t l = z at *
    clear hk HS hb
    go_enter Try.func10, Try.ntmps10
    go_wp2_with (go_at_call 23; go_loud ((with_reducible refine HC.out.mono ?_); rintro e w1 ⟨rfl, hb1⟩; have hz1 := hb1.size; have d0 := hb1.cell (p := ⟨w.heap.size, 0, none⟩) (by simp); have d1 := hb1.cell (p := ⟨w.heap.size, 1, none⟩) (by simp); have d2 := hb1.cell (p := ⟨w.heap.size, 2, none⟩) (by simp); simp [go_sem] at d0 d1 d2; have HB1 := Lib.hid (HB.out.trans (hb1.mono HB.out.size)); have HL1 := Lib.hid hb1; clear hb1))
    go_wp2_with (go_at_call 32; go_loud ((with_reducible refine (HE.out _ HL1.out).mono ?_); rintro e w2 ⟨rfl, hb2⟩; have hz2 := hb2.size; have HB2 := Lib.hid (HB1.out.trans (hb2.mono HB1.out.size)); have HL2 := Lib.hid hb2; clear hb2))
    go_wp2
    go_ret3
    exact ⟨rfl, HB2.out⟩
set_option maxHeartbeats 2000000 in
theorem newer_ref (b t x u : Nat) (a : Option Addr) (c : Nat) (l : List En) (w : World) {A : Nat} (h : Sl w A w.heap.size a c l) (hb : Lt64 b) :
    Calls Try.prog 18 #[.agg #[.int .u64 (b : Nat), .int .u64 (t : Nat), .slice a l.length c], .int .u64 (x : Nat), .int .u64 (u : Nat)] w fun e w' => e = .returned (if okB b t l = true then .tuple #[.bool (nwB b t l x u), .int .i64 0] else .tuple #[.bool false, .int .i64 10]) ∧ Below w.heap.size w w' := by
  have hB : Below w.heap.size w (w.alloc (.cells #[.int .u64 (b : Nat), .int .u64 (t : Nat), .slice a l.length c] 25)) := (Below.refl _ _).alloc (Nat.le_refl _) _
  have HC := Lib.hid (check_log b t a c l _ (h.on hB) hb)
  have HS := Lib.hid (h.on hB)
  have HB := Lib.hid hB
  clear hB h
  cases hk : okB b t l
  · rw [hk, lgE_f] at HC
    rw [if_neg (by simp)]
    clear hk HS
    go_enter Try.func18, Try.ntmps18
    go_wp2_with (go_at_call 23; go_loud ((with_reducible refine HC.out.mono ?_); rintro e w1 ⟨rfl, hb1⟩; have hz1 := hb1.size; have HB1 := Lib.hid (HB.out.trans (hb1.mono HB.out.size)); have HL1 := Lib.hid hb1; clear hb1))
    go_wp2
    go_ret2
    exact ⟨rfl, HB1.out⟩
  · rw [hk, lgE_t] at HC
    rw [if_pos rfl]
    have HE := Lib.hid (fun w1 (hb : Below _ _ w1) => last_log b t a c l w1 (HS.out.on hb))
    have HR : Hid (nwB b t l x u = (decide (eT t l < u) || (decide (u = eT t l) && decide (eI b l ≤ x)))) := rfl
    generalize nwB b t l x u = r at *
    generalize eI b l = y at *
    generalize eT t l = z at *
    clear hk HS
    by_cases h1 : z < u
    · have HQ : Hid (r = true) := HR.out.trans (by simp [h1])
      have h1' : (z : Int) < (u : Int) := by omega
      clear HR h1
      go_enter Try.func18, Try.ntmps18
      go_wp2_with (go_at_call 23; go_loud ((with_reducible refine HC.out.mono ?_); rintro e w1 ⟨rfl, hb1⟩; have hz1 := hb1.size; have d0 := hb1.cell (p := ⟨w.heap.size, 0, none⟩) (by simp); have d1 := hb1.cell (p := ⟨w.heap.size, 1, none⟩) (by simp); have d2 := hb1.cell (p := ⟨w.heap.size, 2, none⟩) (by simp); simp [go_sem] at d0 d1 d2; have HB1 := Lib.hid (HB.out.trans (hb1.mono HB.out.size)); have HL1 := Lib.hid hb1; clear hb1))
      go_wp2_with (go_at_call 32; go_loud ((with_reducible refine (HE.out _ HL1.out).mono ?_); rintro e w2 ⟨rfl, hb2⟩; have hz2 := hb2.size; have HB2 := Lib.hid (HB1.out.trans (hb2.mono HB1.out.size)); have HL2 := Lib.hid hb2; clear hb2))
      go_wp2
      go_ret2
      exact ⟨by rw [HQ.out]; rfl, HB2.out⟩
    · have h1' : ¬ (z : Int) < (u : Int) := by omega
      have h1x : decide (z < u) = false := by simpa using h1
      have h1y : decide ((z : Int) < (u : Int)) = false := by simpa using h1'
      by_cases h2 : u = z
      · subst h2
        by_cases h3 : y ≤ x
        · have HQ : Hid (r = true) := HR.out.trans (by simp [h3])
          have h3' : (y : Int) ≤ (x : Int) := by omega
          clear HR h1 h3
          go_enter Try.func18, Try.ntmps18
          go_wp2_with (go_at_call 23; go_loud ((with_reducible refine HC.out.mono ?_); rintro e w1 ⟨rfl, hb1⟩; have hz1 := hb1.size; have d0 := hb1.cell (p := ⟨w.heap.size, 0, none⟩) (by simp); have d1 := hb1.cell (p := ⟨w.heap.size, 1, none⟩) (by simp); have d2 := hb1.cell (p := ⟨w.heap.size, 2, none⟩) (by simp); simp [go_sem] at d0 d1 d2; have HB1 := Lib.hid (HB.out.trans (hb1.mono HB.out.size)); have HL1 := Lib.hid hb1; clear hb1))
          go_wp2_with (go_at_call 32; go_loud ((with_reducible refine (HE.out _ HL1.out).mono ?_); rintro e w2 ⟨rfl, hb2⟩; have hz2 := hb2.size; have HB2 := Lib.hid (HB1.out.trans (hb2.mono HB1.out.size)); have HL2 := Lib.hid hb2; clear hb2))
          go_wp2
          go_ret2
          exact ⟨by rw [HQ.out]; rfl, HB2.out⟩
        · have HQ : Hid (r = false) := HR.out.trans (by simp [h3])
          have h3' : ¬ (y : Int) ≤ (x : Int) := by omega
          have h3x : decide (y ≤ x) = false := by simpa using h3
          have h3y : decide ((y : Int) ≤ (x : Int)) = false := by simpa using h3'
          clear HR h1 h3
          go_enter Try.func18, Try.ntmps18
          go_wp2_with (go_at_call 23; go_loud ((with_reducible refine HC.out.mono ?_); rintro e w1 ⟨rfl, hb1⟩; have hz1 := hb1.size; have d0 := hb1.cell (p := ⟨w.heap.size, 0, none⟩) (by simp); have d1 := hb1.cell (p := ⟨w.heap.size, 1, none⟩) (by simp); have d2 := hb1.cell (p := ⟨w.heap.size, 2, none⟩) (by simp); simp [go_sem] at d0 d1 d2; have HB1 := Lib.hid (HB.out.trans (hb1.mono HB.out.size)); have HL1 := Lib.hid hb1; clear hb1))
          go_wp2_with (go_at_call 32; go_loud ((with_reducible refine (HE.out _ HL1.out).mono ?_); rintro e w2 ⟨rfl, hb2⟩; have hz2 := hb2.size; have HB2 := Lib.hid (HB1.out.trans (hb2.mono HB1.out.size)); have HL2 := Lib.hid hb2; clear hb2))
          go_wp2
          go_ret2
          exact ⟨by rw [HQ.out]; rfl, HB2.out⟩
      · have HQ : Hid (r = false) := HR.out.trans (by simp [h1, h2])
        have h2' : ¬ (u : Int) = (z : Int) := by omega
        have h2x : ((u : Int) == (z : Int)) = false := by simp; omega
        clear HR h1 h2
        go_enter Try.func18, Try.ntmps18
        go_wp2_with (go_at_call 23; go_loud ((with_reducible refine HC.out.mono ?_); rintro e w1 ⟨rfl, hb1⟩; have hz1 := hb1.size; have d0 := hb1.cell (p := ⟨w.heap.size, 0, none⟩) (by simp); have d1 := hb1.cell (p := ⟨w.heap.size, 1, none⟩) (by simp); have d2 := hb1.cell (p := ⟨w.heap.size, 2, none⟩) (by simp); simp [go_sem] at d0 d1 d2; have HB1 := Lib.hid (HB.out.trans (hb1.mono HB.out.size)); have HL1 := Lib.hid hb1; clear hb1))
        go_wp2_with (go_at_call 32; go_loud ((with_reducible refine (HE.out _ HL1.out).mono ?_); rintro e w2 ⟨rfl, hb2⟩; have hz2 := hb2.size; have HB2 := Lib.hid (HB1.out.trans (hb2.mono HB1.out.size)); have HL2 := Lib.hid hb2; clear hb2))
        go_wp2
        go_ret2
        exact ⟨by rw [HQ.out]; rfl, HB2.out⟩
set_option maxHeartbeats 4000000 in
theorem at_log (b t x : Nat) (a : Option Addr) (c : Nat) (l : List En) (w : World) {A : Nat} (h : Sl w A w.heap.size a c l) (h1 : b ≤ x) (h2 : x ≤ b + l.length) (hx : Lt64 x) :
    Calls Try.prog 34 #[.agg #[.int .u64 (b : Nat), .int .u64 (t : Nat), .slice a l.length c], .int .u64 (x : Nat)] w fun e w' => e = .returned (.int .u64 (tmV b t l x : Nat)) ∧ Below w.heap.size w w' := by
  have hB : Below w.heap.size w (w.alloc (.cells #[.int .u64 (b : Nat), .int .u64 (t : Nat), .slice a l.length c] 25)) := (Below.refl _ _).alloc (Nat.le_refl _) _
  by_cases h0 : x = b
  · subst h0
    rw [tmV_b]
    have HB := Lib.hid hB
    clear hB h h1 h2 hx
    go_enter Try.func34, Try.ntmps34
    go_wp2
    go_ret
    exact ⟨rfl, HB.out⟩
  · obtain ⟨j, rfl⟩ : ∃ j, x = b + j + 1 := ⟨x - b - 1, by omega⟩
    have hj : j < l.length := by omega
    rw [tmV_in hj]
    obtain ⟨blk, off, rfl, -, hlt, u, hc⟩ := (h.keep hB).at j hj
    have c1 := hc.c1
    have hln := h.len
    have HB := Lib.hid hB
    have x1 : ¬ ((b + j + 1 : Nat) : Int) = (b : Int) := by omega
    have x2 : (((b + j + 1 : Nat) : Int) == (b : Int)) = false := by simp; omega
    have x3 : IntKind.u64.wrap (((b + j + 1 : Nat) : Int) - (b : Int)) = ((j + 1 : Nat) : Int) := by unfold Lt64 at hx; rw [IntKind.wrap_u64]; omega
    have x4 : IntKind.u64.wrap (((j + 1 : Nat) : Int) - 1) = (j : Int) := by unfold Lt64 at hx; rw [IntKind.wrap_u64]; omega
    have x5 : (j : Int) < (l.length : Int) := by omega
    have x6 : (0 : Int) ≤ (j : Int) := by omega
    obtain ⟨y, hy⟩ : ∃ y, b + j + 1 = y := ⟨_, rfl⟩
    obtain ⟨j1, hj1⟩ : ∃ y, j + 1 = y := ⟨_, rfl⟩
    rw [hy] at x1 x2 x3 ⊢
    rw [hj1] at x3 x4
    clear hB h h1 h2 hx h0 hc hy hj1
    generalize l[j].t = q at *
    go_enter Try.func34, Try.ntmps34
    go_wp2
    go_ret
    exact ⟨rfl, HB.out⟩
set_option maxHeartbeats 4000000 in
theorem term_ref (b t x : Nat) (a : Option Addr) (c : Nat) (l : List En) (w : World) {A : Nat} (h : Sl w A w.heap.size a c l) (hb : Lt64 b) (hx : Lt64 x) :
    Calls Try.prog 12 #[.agg #[.int .u64 (b : Nat), .int .u64 (t : Nat), .slice a l.length c], .int .u64 (x : Nat)] w fun e w' => e = .returned (if okB b t l = true then .tuple #[.int .u64 (tmV b t l x : Nat), .int .i64 (tmE b l.length x : Nat)] else .tuple #[.int .u64 0, .int .i64 10]) ∧ Below w.heap.size w w' := by
  have hB : Below w.heap.size w (w.alloc (.cells #[.int .u64 (b : Nat), .int .u64 (t : Nat), .slice a l.length c] 25)) := (Below.refl _ _).alloc (Nat.le_refl _) _
  have HC := Lib.hid (check_log b t a c l _ (h.on hB) hb)
  have HS := Lib.hid (h.on hB)
  have HB := Lib.hid hB
  have C0 := Lib.hid (Bx3.made w (.int .u64 (b : Nat)) (.int .u64 (t : Nat)) (.slice a l.length c) 25)
  clear hB h
  cases hk : okB b t l
  · rw [hk, lgE_f] at HC
    rw [if_neg (by simp)]
    clear hk HS
    go_enter Try.func12, Try.ntmps12
    go_wp2_with (go_at_call 23; go_loud ((with_reducible refine HC.out.mono ?_); rintro e w1 ⟨rfl, hb1⟩; have HB1 := Lib.hid (HB.out.trans (hb1.mono HB.out.size)); have HL1 := Lib.hid hb1; have C1 := Lib.hid (C0.out.below hb1); obtain ⟨d0, d1, d2⟩ := C1.out.cells; clear hb1))
    go_wp2
    go_ret2
    exact ⟨rfl, HB1.out⟩
  · rw [hk, lgE_t] at HC
    rw [if_pos rfl]
    have he := eI_ok hk hb
    have HE := Lib.hid (fun w1 (hb : Below _ _ w1) => last_log b t a c l w1 (HS.out.on hb))
    have HAT := Lib.hid (fun w1 (hb : Below _ _ w1) h1 h2 => at_log b t x a c l w1 (HS.out.on hb) h1 h2 hx)
    by_cases h1 : x < b
    · have e1 : tmE b l.length x = 15 := by unfold tmE; rw [if_pos h1]
      have e2 : tmV b t l x = 0 := by unfold tmV; rw [if_pos h1]
      rw [e1, e2]
      have p1 : (x : Int) < (b : Int) := by omega
      generalize eI b l = y at *
      generalize eT t l = z at *
      clear hk HS he hb hx h1 e1 e2 HAT
      go_enter Try.func12, Try.ntmps12
      go_wp2_with (go_at_call 23; go_loud ((with_reducible refine HC.out.mono ?_); rintro e w1 ⟨rfl, hb1⟩; have HB1 := Lib.hid (HB.out.trans (hb1.mono HB.out.size)); have HL1 := Lib.hid hb1; have C1 := Lib.hid (C0.out.below hb1); obtain ⟨d0, d1, d2⟩ := C1.out.cells; clear hb1))
      go_wp2_with (go_at_call 32; go_loud ((with_reducible refine (HE.out _ HL1.out).mono ?_); rintro e w2 ⟨rfl, hb2⟩; have HB2 := Lib.hid (HB1.out.trans (hb2.mono HB1.out.size)); have HL2 := Lib.hid (HL1.out.trans (hb2.mono HL1.out.size)); have C2 := Lib.hid (C1.out.below hb2); obtain ⟨d20, d21, d22⟩ := C2.out.cells; clear hb2))
      go_wp2
      go_ret2
      exact ⟨rfl, HB2.out⟩
    · have p1 : ¬ (x : Int) < (b : Int) := by omega
      have p2 : decide ((x : Int) < (b : Int)) = false := by simp; omega
      have p3 : decide (x < b) = false := by simp; omega
      by_cases h2 : b + l.length < x
      · have e1 : tmE b l.length x = 6 := by unfold tmE; rw [if_neg h1, if_pos h2]
        have e2 : tmV b t l x = 0 := by unfold tmV; rw [if_neg h1, if_pos h2]
        rw [e1, e2]
        obtain ⟨y, hy⟩ : ∃ y, eI b l = y := ⟨_, rfl⟩
        rw [hy] at HE he
        have q1 : (y : Int) < (x : Int) := by omega
        generalize eT t l = z at *
        clear hk HS he hb hx h1 h2 e1 e2 HAT hy
        go_enter Try.func12, Try.ntmps12
        go_wp2_with (go_at_call 23; go_loud ((with_reducible refine HC.out.mono ?_); rintro e w1 ⟨rfl, hb1⟩; have HB1 := Lib.hid (HB.out.trans (hb1.mono HB.out.size)); have HL1 := Lib.hid hb1; have C1 := Lib.hid (C0.out.below hb1); obtain ⟨d0, d1, d2⟩ := C1.out.cells; clear hb1))
        go_wp2_with (go_at_call 32; go_loud ((with_reducible refine (HE.out _ HL1.out).mono ?_); rintro e w2 ⟨rfl, hb2⟩; have HB2 := Lib.hid (HB1.out.trans (hb2.mono HB1.out.size)); have HL2 := Lib.hid (HL1.out.trans (hb2.mono HL1.out.size)); have C2 := Lib.hid (C1.out.below hb2); obtain ⟨d20, d21, d22⟩ := C2.out.cells; clear hb2))
        go_wp2
        go_ret2
        exact ⟨rfl, HB2.out⟩
      · have e1 : tmE b l.length x = 0 := tmE_in (by omega) (by omega)
        rw [e1]
        have HA := Lib.hid (fun w1 hb => HAT.out w1 hb (by omega) (by omega))
        obtain ⟨y, hy⟩ : ∃ y, eI b l = y := ⟨_, rfl⟩
        rw [hy] at HE he
        have q1 : ¬ (y : Int) < (x : Int) := by omega
        have q2 : decide ((y : Int) < (x : Int)) = false := by simp; omega
        have q3 : decide (y < x) = false := by simp; omega
        generalize eT t l = z at *
        generalize tmV b t l x = q at *
        clear hk HS he hb hx h1 h2 e1 HAT hy
        go_enter Try.func12, Try.ntmps12
        go_wp2_with (go_at_call 23; go_loud ((with_reducible refine HC.out.mono ?_); rintro e w1 ⟨rfl, hb1⟩; have HB1 := Lib.hid (HB.out.trans (hb1.mono HB.out.size)); have HL1 := Lib.hid hb1; have C1 := Lib.hid (C0.out.below hb1); obtain ⟨d0, d1, d2⟩ := C1.out.cells; clear hb1))
        go_wp2_with (go_at_call 32; go_loud ((with_reducible refine (HE.out _ HL1.out).mono ?_); rintro e w2 ⟨rfl, hb2⟩; have HB2 := Lib.hid (HB1.out.trans (hb2.mono HB1.out.size)); have HL2 := Lib.hid (HL1.out.trans (hb2.mono HL1.out.size)); have C2 := Lib.hid (C1.out.below hb2); obtain ⟨d20, d21, d22⟩ := C2.out.cells; clear hb2))
        go_wp2_with (go_at_call 34; go_loud ((with_reducible refine (HA.out _ HL2.out).mono ?_); rintro e w3 ⟨rfl, hb3⟩; have HB3 := Lib.hid (HB2.out.trans (hb3.mono HB2.out.size)); clear hb3))
        go_wp2
        go_ret2
        exact ⟨rfl, HB3.out⟩
end Lo
end Go.Proofs.Ytjalmciaaenmjaa
