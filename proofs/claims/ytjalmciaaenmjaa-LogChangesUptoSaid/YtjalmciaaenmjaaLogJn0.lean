/-
  ENTRIES JOINED TO A LOG: log.Join.
-/
import Derived.Test.YtjalmciaaenmjaaLogJoin
namespace Go.Proofs.Ytjalmciaaenmjaa
open Go.RowKit Go.Lib
namespace Lo
set_option linter.unusedVariables false
/-- What an answer of join or Join is of: Base, BaseTerm, entries, an Index, an error. -/
def jr (b t : Nat) (l s : List En) : Nat × Nat × List En × Nat × Nat := if joinB b t l s = true then (b, t, joinL b t l s, joinF b t l s, 0) else (0, 0, [], 0, 17)
def jnS (b x : Nat) (s : List En) : List En := if x < b then s.drop (min (b - x) s.length) else s
def jnX (b x : Nat) : Nat := if x < b then b else x
def jnU (b t x u : Nat) : Nat := if x < b then t else u
def jv (b t : Nat) (l : List En) (x u : Nat) (s : List En) : Nat × Nat × List En × Nat × Nat :=
  if okB b t l = false then (0, 0, [], 0, 10) else if rowB x s = false then (0, 0, [], 0, 4) else if rfE b t l (jnX b x) (jnU b t x u) = 0 then jr b t l (jnS b x s) else (0, 0, [], 0, rfE b t l (jnX b x) (jnU b t x u))
def JV (w : World) (q : Nat × Nat × List En × Nat × Nat) (e : Ending) (w' : World) : Prop := JIs w q.1 q.2.1 q.2.2.1 q.2.2.2.1 q.2.2.2.2 e w'
theorem JoinR.open' {w w' : World} {b t B T F R : Nat} {l s L : List En} {e : Ending} (hq : jr b t l s = (B, T, L, F, R)) (h : JoinR w b t l s e w') : JIs w B T L F R e w' := by
  unfold JoinR at h
  unfold jr at hq
  by_cases hj : joinB b t l s = true
  · rw [if_pos hj] at h hq
    cases hq
    exact h
  · rw [if_neg hj] at h hq
    cases hq
    exact h
theorem JV.of {w w' : World} {q : Nat × Nat × List En × Nat × Nat} {B T F R A : Nat} {L : List En} {a : Option Addr} {c : Nat} (hq : q = (B, T, L, F, R)) (h : OwnS w' A a c L) (hA : w.heap.size ≤ A) :
    JV w q (.returned (.tuple #[.agg #[.int .u64 (B : Nat), .int .u64 (T : Nat), .slice a L.length c], .int .u64 (F : Nat), .int .i64 (R : Nat)])) w' := by
  subst hq
  exact ⟨a, c, rfl, h.less hA⟩
theorem JV.no {w : World} {q : Nat × Nat × List En × Nat × Nat} {R : Nat} (hq : q = (0, 0, [], 0, R)) (w' : World) : JV w q (.returned (.tuple #[.agg #[.int .u64 0, .int .u64 0, .slice none 0 0], .int .u64 0, .int .i64 (R : Nat)])) w' := by
  subst hq
  exact ⟨none, 0, rfl, own_nil _ _⟩
theorem row_ne : ∀ {s : List En} {x : Nat}, rowB x s = true → ∀ e ∈ s, e.i ≠ 0
  | [], _, _, e, h => absurd h (by simp)
  | e0 :: r, x, h, e, he => by
    obtain ⟨-, h2, h3⟩ := row_cons h
    rcases List.mem_cons.1 he with rfl | h4
    · exact en_pos h2
    · exact row_ne h3 e h4
theorem Sl.path {w : World} {A B : Nat} {ad : Addr} {c : Nat} {l : List En} (h : Sl w A B (some ad) c l) (k : Nat) (hkl : k ≤ l.length) : Sl w A B (some (ad.add (k * 5))) (c - k) (l.drop k) := by
  have hc := h.cap
  by_cases h0 : l.drop k = []
  · rw [h0]; exact Sl.empty _ _ _ _ _ (fun e => by cases e)
  · have : 0 < l.length := by
      rcases Nat.eq_zero_or_pos l.length with e | e
      · exact absurd (by rw [List.eq_nil_of_length_eq_zero e]; simp) h0
      · exact e
    obtain ⟨b1, o1, e1, -⟩ := h.at 0 this
    cases e1
    rw [Addr.add_lit]
    exact h.drop k (c - k) (by rw [List.length_drop]; omega)
theorem Bx3.dn {w : World} {B : Nat} {a b c : Value} (h : Bx3 w B a b c) (n : Nat) : Bx3 (w.drewN n) B a b c := h
theorem w64_ok {n : Nat} (h : n ≤ 2199023255551) : wrap64 (n : Int) = (n : Int) := by unfold wrap64; omega
theorem lt_all {j n : Nat} (h : j < n) : (j : Int) < (n : Int) ∧ (j : Int) ≤ (n : Int) ∧ j < n ∧ (¬ (n : Int) < (j : Int)) ∧ (¬ (n : Int) ≤ (j : Int)) ∧ decide ((n : Int) < (j : Int)) = false ∧ decide (n < j) = false ∧ ¬ n < j :=
  ⟨by omega, by omega, h, by omega, by omega, by simp; omega, by simp; omega, by omega⟩
theorem bdn {B : Nat} {w w' : World} {n : Nat} (h : Below B (w.drewN n) w') : Below B w w' := (bdN (Below.refl _ _) n).trans h
set_option maxHeartbeats 16000000 in
theorem join_bad (b t x u : Nat) (a : Option Addr) (c : Nat) (l : List En) (a2 : Option Addr) (c2 : Nat) (s : List En) (w : World) {A A2 : Nat} (h : Sl w A w.heap.size a c l) (h2 : Sl w A2 w.heap.size a2 c2 s) (hb : Lt64 b) (hx : Lt64 x) (hs : l.length + s.length ≤ 2199023255551) (hk : okB b t l = false) :
    Calls Try.prog 26 #[.agg #[.int .u64 (b : Nat), .int .u64 (t : Nat), .slice a l.length c], .int .u64 (x : Nat), .int .u64 (u : Nat), .slice a2 s.length c2] w fun e w' => JV w (jv b t l x u s) e w' ∧ Below w.heap.size w w' := by
  have hB : Below w.heap.size w ((w.alloc (.cells #[.int .u64 (b : Nat), .int .u64 (t : Nat), .slice a l.length c] 25)).alloc (.cells #[.int .u64 0, .int .u64 0, .slice none 0 0] 25)) := ((Below.refl _ _).alloc (Nat.le_refl _) _).alloc (by simp) _
  have HB0 := Lib.hid hB
  have C0 := Lib.hid ((Bx3.made w (.int .u64 (b : Nat)) (.int .u64 (t : Nat)) (.slice a l.length c) 25).al (.cells #[.int .u64 0, .int .u64 0, .slice none 0 0] 25))
  have R0 := Lib.hid (show Bx3 ((w.alloc (.cells #[.int .u64 (b : Nat), .int .u64 (t : Nat), .slice a l.length c] 25)).alloc (.cells #[.int .u64 0, .int .u64 0, .slice none 0 0] 25)) (w.heap.size + 1) (.int .u64 0) (.int .u64 0) (.slice none 0 0) by have h9 := Bx3.made (w.alloc (.cells #[.int .u64 (b : Nat), .int .u64 (t : Nat), .slice a l.length c] 25)) (.int .u64 0) (.int .u64 0) (.slice none 0 0) 25; rw [World.size_alloc] at h9; exact h9)
  have HC := Lib.hid (log_check b t a c l _ (h.on hB))
  have HP := Lib.hid (fun w' => JV.no (w := w) (q := jv b t l x u s) (R := 10) (by unfold jv; rw [if_pos hk]) w')
  rw [hk] at HC
  clear hB h h2 hb hx hs hk
  go_enter Try.func26, Try.ntmps26
  go_wp2_with (go_at_call 22; go_loud ((with_reducible refine HC.out.mono ?_); rintro e w1 ⟨rfl, hb⟩; have HB1 := Lib.hid (HB0.out.trans (hb.mono HB0.out.size)); have HL1 := Lib.hid hb; have C1 := Lib.hid (C0.out.below hb); have R1 := Lib.hid (R0.out.below hb); obtain ⟨d10, d11, d12⟩ := C1.out.cells; obtain ⟨f10, f11, f12⟩ := C1.out.fz; obtain ⟨e10, e11, e12⟩ := R1.out.cells; obtain ⟨g10, g11, g12⟩ := R1.out.fz; clear hb))
  go_wp2
  refine bodyPost_log3 rfl (w.heap.size + 1) 0 0 (.slice none 0 0) rfl rfl ?_ ?_
  case refine_1 => exact ((R1.out.set0 _).set1 _).set2 _
  case refine_2 => exact ⟨HP.out _, ((HB1.out.setCell (by exact Nat.le_succ _) _).setCell (by exact Nat.le_succ _) _).setCell (by exact Nat.le_succ _) _⟩
set_option maxHeartbeats 16000000 in
theorem join_row0 (b t x u : Nat) (a : Option Addr) (c : Nat) (l : List En) (a2 : Option Addr) (c2 : Nat) (s : List En) (w : World) {A A2 : Nat} (h : Sl w A w.heap.size a c l) (h2 : Sl w A2 w.heap.size a2 c2 s) (hb : Lt64 b) (hx : Lt64 x) (hs : l.length + s.length ≤ 2199023255551) (hk : okB b t l = true) (hr : rowB x s = false) :
    Calls Try.prog 26 #[.agg #[.int .u64 (b : Nat), .int .u64 (t : Nat), .slice a l.length c], .int .u64 (x : Nat), .int .u64 (u : Nat), .slice a2 s.length c2] w fun e w' => JV w (jv b t l x u s) e w' ∧ Below w.heap.size w w' := by
  have hB : Below w.heap.size w ((w.alloc (.cells #[.int .u64 (b : Nat), .int .u64 (t : Nat), .slice a l.length c] 25)).alloc (.cells #[.int .u64 0, .int .u64 0, .slice none 0 0] 25)) := ((Below.refl _ _).alloc (Nat.le_refl _) _).alloc (by simp) _
  have HB0 := Lib.hid hB
  have C0 := Lib.hid ((Bx3.made w (.int .u64 (b : Nat)) (.int .u64 (t : Nat)) (.slice a l.length c) 25).al (.cells #[.int .u64 0, .int .u64 0, .slice none 0 0] 25))
  have R0 := Lib.hid (show Bx3 ((w.alloc (.cells #[.int .u64 (b : Nat), .int .u64 (t : Nat), .slice a l.length c] 25)).alloc (.cells #[.int .u64 0, .int .u64 0, .slice none 0 0] 25)) (w.heap.size + 1) (.int .u64 0) (.int .u64 0) (.slice none 0 0) by have h9 := Bx3.made (w.alloc (.cells #[.int .u64 (b : Nat), .int .u64 (t : Nat), .slice a l.length c] 25)) (.int .u64 0) (.int .u64 0) (.slice none 0 0) 25; rw [World.size_alloc] at h9; exact h9)
  have HC := Lib.hid (log_check b t a c l _ (h.on hB))
  have HI := Lib.hid (fun z (hz : Below w.heap.size ((w.alloc (.cells #[.int .u64 (b : Nat), .int .u64 (t : Nat), .slice a l.length c] 25)).alloc (.cells #[.int .u64 0, .int .u64 0, .slice none 0 0] 25)) z) (hs : w.heap.size ≤ z.heap.size) => in_row x a2 c2 s z (((h2.keep hB).keep hz).more hs (Nat.le_refl _)))
  have HP := Lib.hid (fun w' => JV.no (w := w) (q := jv b t l x u s) (R := 4) (by unfold jv; rw [if_neg (by rw [hk]; simp), if_pos hr]) w')
  rw [hk] at HC
  rw [hr] at HI
  clear hB h h2 hb hx hs hk hr
  go_enter Try.func26, Try.ntmps26
  go_wp2_with (go_at_call 22; go_loud ((with_reducible refine HC.out.mono ?_); rintro e w1 ⟨rfl, hb⟩; have HB1 := Lib.hid (HB0.out.trans (hb.mono HB0.out.size)); have HL1 := Lib.hid hb; have C1 := Lib.hid (C0.out.below hb); have R1 := Lib.hid (R0.out.below hb); obtain ⟨d10, d11, d12⟩ := C1.out.cells; obtain ⟨f10, f11, f12⟩ := C1.out.fz; obtain ⟨e10, e11, e12⟩ := R1.out.cells; obtain ⟨g10, g11, g12⟩ := R1.out.fz; clear hb))
  go_wp2_with (go_at_call 41; go_loud ((with_reducible refine (HI.out _ (HL1.out.mono HB0.out.size) HB1.out.size).mono ?_); rintro e w2 ⟨rfl, hb⟩; have HB2 := Lib.hid (HB1.out.trans (hb.mono HB1.out.size)); have HL2 := Lib.hid hb; have C2 := Lib.hid (C1.out.below hb); have R2 := Lib.hid (R1.out.below hb); obtain ⟨d20, d21, d22⟩ := C2.out.cells; obtain ⟨f20, f21, f22⟩ := C2.out.fz; obtain ⟨e20, e21, e22⟩ := R2.out.cells; obtain ⟨g20, g21, g22⟩ := R2.out.fz; clear hb))
  go_wp2
  refine bodyPost_log3 rfl (w.heap.size + 1) 0 0 (.slice none 0 0) rfl rfl ?_ ?_
  case refine_1 => exact ((R2.out.set0 _).set1 _).set2 _
  case refine_2 => exact ⟨HP.out _, ((HB2.out.setCell (by exact Nat.le_succ _) _).setCell (by exact Nat.le_succ _) _).setCell (by exact Nat.le_succ _) _⟩
set_option maxHeartbeats 16000000 in
theorem join_an (b t x u : Nat) (a : Option Addr) (c : Nat) (l : List En) (a2 : Option Addr) (c2 : Nat) (s : List En) (w : World) {A A2 : Nat} (h : Sl w A w.heap.size a c l) (h2 : Sl w A2 w.heap.size a2 c2 s) (hb : Lt64 b) (hx : Lt64 x) (hs : l.length + s.length ≤ 2199023255551) (hk : okB b t l = true) (hr : rowB x s = true) (hlt : ¬ x < b) (hq : ¬ rfE b t l (jnX b x) (jnU b t x u) = 0) :
    Calls Try.prog 26 #[.agg #[.int .u64 (b : Nat), .int .u64 (t : Nat), .slice a l.length c], .int .u64 (x : Nat), .int .u64 (u : Nat), .slice a2 s.length c2] w fun e w' => JV w (jv b t l x u s) e w' ∧ Below w.heap.size w w' := by
  have hB : Below w.heap.size w ((w.alloc (.cells #[.int .u64 (b : Nat), .int .u64 (t : Nat), .slice a l.length c] 25)).alloc (.cells #[.int .u64 0, .int .u64 0, .slice none 0 0] 25)) := ((Below.refl _ _).alloc (Nat.le_refl _) _).alloc (by simp) _
  have HB0 := Lib.hid hB
  have C0 := Lib.hid ((Bx3.made w (.int .u64 (b : Nat)) (.int .u64 (t : Nat)) (.slice a l.length c) 25).al (.cells #[.int .u64 0, .int .u64 0, .slice none 0 0] 25))
  have R0 := Lib.hid (show Bx3 ((w.alloc (.cells #[.int .u64 (b : Nat), .int .u64 (t : Nat), .slice a l.length c] 25)).alloc (.cells #[.int .u64 0, .int .u64 0, .slice none 0 0] 25)) (w.heap.size + 1) (.int .u64 0) (.int .u64 0) (.slice none 0 0) by have h9 := Bx3.made (w.alloc (.cells #[.int .u64 (b : Nat), .int .u64 (t : Nat), .slice a l.length c] 25)) (.int .u64 0) (.int .u64 0) (.slice none 0 0) 25; rw [World.size_alloc] at h9; exact h9)
  have HC := Lib.hid (log_check b t a c l _ (h.on hB))
  have HI := Lib.hid (fun z (hz : Below w.heap.size ((w.alloc (.cells #[.int .u64 (b : Nat), .int .u64 (t : Nat), .slice a l.length c] 25)).alloc (.cells #[.int .u64 0, .int .u64 0, .slice none 0 0] 25)) z) (hs : w.heap.size ≤ z.heap.size) => in_row x a2 c2 s z (((h2.keep hB).keep hz).more hs (Nat.le_refl _)))
  have he := eI_ok hk hb
  have hlt1 : ¬ (x : Int) < (b : Int) := by omega
  have hlt2 : decide ((x : Int) < (b : Int)) = false := by simp; omega
  have hlt3 : decide (x < b) = false := by simp; omega
  have hX : jnX b x = x := by unfold jnX; first | rw [if_pos hlt] | rw [if_neg hlt]
  have hU : jnU b t x u = u := by unfold jnU; first | rw [if_pos hlt] | rw [if_neg hlt]
  have hS : jnS b x s = s := by unfold jnS; rw [if_neg hlt]
  have HP := Lib.hid (fun w' => JV.no (w := w) (q := jv b t l x u s) (R := rfE b t l (jnX b x) (jnU b t x u)) (by unfold jv; rw [if_neg (by rw [hk]; simp), if_neg (by rw [hr]; simp), if_neg hq]) w')
  rw [hX, hU] at hq HP
  have HRF := Lib.hid (fun z (hz : Below w.heap.size ((w.alloc (.cells #[.int .u64 (b : Nat), .int .u64 (t : Nat), .slice a l.length c] 25)).alloc (.cells #[.int .u64 0, .int .u64 0, .slice none 0 0] 25)) z) (hsz : w.heap.size ≤ z.heap.size) => refuse_of b t (x) (u) a c l z (((h.keep hB).keep hz).more hsz (Nat.le_refl _)) he hx)
  generalize rfE b t l (x) (u) = rf at *
  have q1 : ¬ (rf : Int) = 0 := by omega
  have q2 : ((rf : Int) != 0) = true := by simp; omega
  rw [hk] at HC
  rw [hr] at HI
  clear hB h h2 hb hx hs hk hr he hq hX hU hS
  clear hlt
  generalize s.length = n at *
  go_enter Try.func26, Try.ntmps26
  go_wp2_with (go_at_call 22; go_loud ((with_reducible refine HC.out.mono ?_); rintro e w1 ⟨rfl, hb⟩; have HB1 := Lib.hid (HB0.out.trans (hb.mono HB0.out.size)); have HL1 := Lib.hid hb; have C1 := Lib.hid (C0.out.below hb); have R1 := Lib.hid (R0.out.below hb); obtain ⟨d10, d11, d12⟩ := C1.out.cells; obtain ⟨f10, f11, f12⟩ := C1.out.fz; obtain ⟨e10, e11, e12⟩ := R1.out.cells; obtain ⟨g10, g11, g12⟩ := R1.out.fz; clear hb))
  go_wp2_with (go_at_call 41; go_loud ((with_reducible refine (HI.out _ (HL1.out.mono HB0.out.size) HB1.out.size).mono ?_); rintro e w2 ⟨rfl, hb⟩; have HB2 := Lib.hid (HB1.out.trans (hb.mono HB1.out.size)); have HL2 := Lib.hid hb; have C2 := Lib.hid (C1.out.below hb); have R2 := Lib.hid (R1.out.below hb); obtain ⟨d20, d21, d22⟩ := C2.out.cells; obtain ⟨f20, f21, f22⟩ := C2.out.fz; obtain ⟨e20, e21, e22⟩ := R2.out.cells; obtain ⟨g20, g21, g22⟩ := R2.out.fz; clear hb))
  go_wp2_with (go_at_call 44; go_loud ((with_reducible refine (HRF.out _ ((HL1.out.mono HB0.out.size).trans (HL2.out.mono HB1.out.size)) HB2.out.size).mono ?_); rintro e w3 ⟨rfl, hb⟩; have HB3 := Lib.hid (HB2.out.trans (hb.mono HB2.out.size)); have HL3 := Lib.hid hb; have C3 := Lib.hid (C2.out.below hb); have R3 := Lib.hid (R2.out.below hb); obtain ⟨d30, d31, d32⟩ := C3.out.cells; obtain ⟨f30, f31, f32⟩ := C3.out.fz; obtain ⟨e30, e31, e32⟩ := R3.out.cells; obtain ⟨g30, g31, g32⟩ := R3.out.fz; clear hb))
  go_wp2
  refine bodyPost_log3 rfl (w.heap.size + 1) 0 0 (.slice none 0 0) rfl rfl ?_ ?_
  case refine_1 => exact ((R3.out.set0 _).set1 _).set2 _
  case refine_2 => exact ⟨HP.out _, ((HB3.out.setCell (by exact Nat.le_succ _) _).setCell (by exact Nat.le_succ _) _).setCell (by exact Nat.le_succ _) _⟩
set_option maxHeartbeats 16000000 in
theorem join_ay (b t x u : Nat) (a : Option Addr) (c : Nat) (l : List En) (a2 : Option Addr) (c2 : Nat) (s : List En) (w : World) {A A2 : Nat} (h : Sl w A w.heap.size a c l) (h2 : Sl w A2 w.heap.size a2 c2 s) (hb : Lt64 b) (hx : Lt64 x) (hs : l.length + s.length ≤ 2199023255551) (hk : okB b t l = true) (hr : rowB x s = true) (hlt : ¬ x < b) (hq : rfE b t l (jnX b x) (jnU b t x u) = 0) :
    Calls Try.prog 26 #[.agg #[.int .u64 (b : Nat), .int .u64 (t : Nat), .slice a l.length c], .int .u64 (x : Nat), .int .u64 (u : Nat), .slice a2 s.length c2] w fun e w' => JV w (jv b t l x u s) e w' ∧ Below w.heap.size w w' := by
  have hB : Below w.heap.size w ((w.alloc (.cells #[.int .u64 (b : Nat), .int .u64 (t : Nat), .slice a l.length c] 25)).alloc (.cells #[.int .u64 0, .int .u64 0, .slice none 0 0] 25)) := ((Below.refl _ _).alloc (Nat.le_refl _) _).alloc (by simp) _
  have HB0 := Lib.hid hB
  have C0 := Lib.hid ((Bx3.made w (.int .u64 (b : Nat)) (.int .u64 (t : Nat)) (.slice a l.length c) 25).al (.cells #[.int .u64 0, .int .u64 0, .slice none 0 0] 25))
  have R0 := Lib.hid (show Bx3 ((w.alloc (.cells #[.int .u64 (b : Nat), .int .u64 (t : Nat), .slice a l.length c] 25)).alloc (.cells #[.int .u64 0, .int .u64 0, .slice none 0 0] 25)) (w.heap.size + 1) (.int .u64 0) (.int .u64 0) (.slice none 0 0) by have h9 := Bx3.made (w.alloc (.cells #[.int .u64 (b : Nat), .int .u64 (t : Nat), .slice a l.length c] 25)) (.int .u64 0) (.int .u64 0) (.slice none 0 0) 25; rw [World.size_alloc] at h9; exact h9)
  have HC := Lib.hid (log_check b t a c l _ (h.on hB))
  have HI := Lib.hid (fun z (hz : Below w.heap.size ((w.alloc (.cells #[.int .u64 (b : Nat), .int .u64 (t : Nat), .slice a l.length c] 25)).alloc (.cells #[.int .u64 0, .int .u64 0, .slice none 0 0] 25)) z) (hs : w.heap.size ≤ z.heap.size) => in_row x a2 c2 s z (((h2.keep hB).keep hz).more hs (Nat.le_refl _)))
  have he := eI_ok hk hb
  have hlt1 : ¬ (x : Int) < (b : Int) := by omega
  have hlt2 : decide ((x : Int) < (b : Int)) = false := by simp; omega
  have hlt3 : decide (x < b) = false := by simp; omega
  have hX : jnX b x = x := by unfold jnX; first | rw [if_pos hlt] | rw [if_neg hlt]
  have hU : jnU b t x u = u := by unfold jnU; first | rw [if_pos hlt] | rw [if_neg hlt]
  have hS : jnS b x s = s := by unfold jnS; rw [if_neg hlt]
  obtain ⟨⟨B', T', L', F', R'⟩, hj⟩ : ∃ q, jr b t l (jnS b x s) = q := ⟨_, rfl⟩
  have hv : jv b t l x u s = (B', T', L', F', R') := by unfold jv; rw [if_neg (by rw [hk]; simp), if_neg (by rw [hr]; simp), if_pos hq, hj]
  have HP := Lib.hid (fun w' A a c => JV.of (w := w) (w' := w') (A := A) (a := a) (c := c) hv)
  have h3 : Sl w A2 w.heap.size (a2) (c2) (s) := h2
  have hl3 : (s).length = s.length := rfl
  have hs3 : l.length + (s).length ≤ 2199023255551 := Nat.le_trans (Nat.add_le_add_left (show (s).length ≤ s.length from Nat.le_refl _) _) hs
  have hne : ∀ e ∈ (s), e.i ≠ 0 := fun e he => row_ne hr e he
  rw [hS] at hj
  have HJ := Lib.hid (fun z (hz : Below w.heap.size ((w.alloc (.cells #[.int .u64 (b : Nat), .int .u64 (t : Nat), .slice a l.length c] 25)).alloc (.cells #[.int .u64 0, .int .u64 0, .slice none 0 0] 25)) z) (hsz : w.heap.size ≤ z.heap.size) => (join_of b t a c l (a2) (c2) (s) z (((h.keep hB).keep hz).more hsz (Nat.le_refl _)) (((h3.keep hB).keep hz).more hsz (Nat.le_refl _)) he hb hs3 hne).mono fun e w' h => (⟨JoinR.open' hj h.1, h.2⟩ : JIs z B' T' L' F' R' e w' ∧ Below z.heap.size z w'))
  rw [hl3] at HJ
  rw [hX, hU] at hq
  have HRF := Lib.hid (fun z (hz : Below w.heap.size ((w.alloc (.cells #[.int .u64 (b : Nat), .int .u64 (t : Nat), .slice a l.length c] 25)).alloc (.cells #[.int .u64 0, .int .u64 0, .slice none 0 0] 25)) z) (hsz : w.heap.size ≤ z.heap.size) => refuse_of b t (x) (u) a c l z (((h.keep hB).keep hz).more hsz (Nat.le_refl _)) he hx)
  rw [hq] at HRF
  rw [hk] at HC
  rw [hr] at HI
  clear hB h h2 hb hx hs hk hr he hq hX hU hS h3 hl3 hs3 hne hj hv
  clear hlt
  generalize s.length = n at *
  go_enter Try.func26, Try.ntmps26
  go_wp2_with (go_at_call 22; go_loud ((with_reducible refine HC.out.mono ?_); rintro e w1 ⟨rfl, hb⟩; have HB1 := Lib.hid (HB0.out.trans (hb.mono HB0.out.size)); have HL1 := Lib.hid hb; have C1 := Lib.hid (C0.out.below hb); have R1 := Lib.hid (R0.out.below hb); obtain ⟨d10, d11, d12⟩ := C1.out.cells; obtain ⟨f10, f11, f12⟩ := C1.out.fz; obtain ⟨e10, e11, e12⟩ := R1.out.cells; obtain ⟨g10, g11, g12⟩ := R1.out.fz; clear hb))
  go_wp2_with (go_at_call 41; go_loud ((with_reducible refine (HI.out _ (HL1.out.mono HB0.out.size) HB1.out.size).mono ?_); rintro e w2 ⟨rfl, hb⟩; have HB2 := Lib.hid (HB1.out.trans (hb.mono HB1.out.size)); have HL2 := Lib.hid hb; have C2 := Lib.hid (C1.out.below hb); have R2 := Lib.hid (R1.out.below hb); obtain ⟨d20, d21, d22⟩ := C2.out.cells; obtain ⟨f20, f21, f22⟩ := C2.out.fz; obtain ⟨e20, e21, e22⟩ := R2.out.cells; obtain ⟨g20, g21, g22⟩ := R2.out.fz; clear hb))
  go_wp2_with (go_at_call 44; go_loud ((with_reducible refine (HRF.out _ ((HL1.out.mono HB0.out.size).trans (HL2.out.mono HB1.out.size)) HB2.out.size).mono ?_); rintro e w3 ⟨rfl, hb⟩; have HB3 := Lib.hid (HB2.out.trans (hb.mono HB2.out.size)); have HL3 := Lib.hid hb; have C3 := Lib.hid (C2.out.below hb); have R3 := Lib.hid (R2.out.below hb); obtain ⟨d30, d31, d32⟩ := C3.out.cells; obtain ⟨f30, f31, f32⟩ := C3.out.fz; obtain ⟨e30, e31, e32⟩ := R3.out.cells; obtain ⟨g30, g31, g32⟩ := R3.out.fz; clear hb))
  go_wp2_with (go_at_call 45; go_loud ((with_reducible refine (HJ.out _ (((HL1.out.mono HB0.out.size).trans (HL2.out.mono HB1.out.size)).trans (HL3.out.mono HB2.out.size)) HB3.out.size).mono ?_); rintro e w4 ⟨⟨a4, c4, rfl, ho⟩, hb⟩; have HB4 := Lib.hid (HB3.out.trans (hb.mono HB3.out.size)); have HL4 := Lib.hid hb; have C4 := Lib.hid (C3.out.below hb); have R4 := Lib.hid (R3.out.below hb); obtain ⟨d40, d41, d42⟩ := C4.out.cells; obtain ⟨f40, f41, f42⟩ := C4.out.fz; obtain ⟨e40, e41, e42⟩ := R4.out.cells; obtain ⟨g40, g41, g42⟩ := R4.out.fz; have HO4 := Lib.hid ho; clear ho; clear hb))
  go_wp2
  refine bodyPost_log3 rfl (w.heap.size + 1) B' T' (.slice a4 L'.length c4) rfl rfl ?_ ?_
  case refine_1 => exact ((R4.out.set0 _).set1 _).set2 _
  case refine_2 => exact ⟨HP.out _ _ _ _ (((HO4.out.put (p := w.heap.size + 1) (by have := R3.out.lt; omega) 0 _).put (p := w.heap.size + 1) (by have := R3.out.lt; omega) 1 _).put (p := w.heap.size + 1) (by have := R3.out.lt; omega) 2 _) HB3.out.size, ((HB4.out.setCell (by exact Nat.le_succ _) _).setCell (by exact Nat.le_succ _) _).setCell (by exact Nat.le_succ _) _⟩
end Lo
end Go.Proofs.Ytjalmciaaenmjaa
