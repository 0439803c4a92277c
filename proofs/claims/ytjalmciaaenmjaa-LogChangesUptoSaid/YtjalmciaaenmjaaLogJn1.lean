/-
  ENTRIES JOINED TO A LOG: log.Join, an Index below Base.
-/
import Derived.Test.YtjalmciaaenmjaaLogJn0
namespace Go.Proofs.Ytjalmciaaenmjaa
open Go.RowKit Go.Lib
namespace Lo
set_option linter.unusedVariables false
set_option maxHeartbeats 16000000 in
theorem join_bn (b t x u : Nat) (a : Option Addr) (c : Nat) (l : List En) (a2 : Option Addr) (c2 : Nat) (s : List En) (w : World) {A A2 : Nat} (h : Sl w A w.heap.size a c l) (h2 : Sl w A2 w.heap.size a2 c2 s) (hb : Lt64 b) (hx : Lt64 x) (hs : l.length + s.length ≤ 2199023255551) (hk : okB b t l = true) (hr : rowB x s = true) (hlt : x < b) (j : Nat) (ad : Addr) (ha2 : a2 = some ad) (hj0 : b - x = j) (hj1 : j < s.length) (hq : ¬ rfE b t l (jnX b x) (jnU b t x u) = 0) :
    Calls Try.prog 26 #[.agg #[.int .u64 (b : Nat), .int .u64 (t : Nat), .slice a l.length c], .int .u64 (x : Nat), .int .u64 (u : Nat), .slice a2 s.length c2] w fun e w' => JV w (jv b t l x u s) e w' ∧ Below w.heap.size w w' := by
  have hB : Below w.heap.size w ((w.alloc (.cells #[.int .u64 (b : Nat), .int .u64 (t : Nat), .slice a l.length c] 25)).alloc (.cells #[.int .u64 0, .int .u64 0, .slice none 0 0] 25)) := ((Below.refl _ _).alloc (Nat.le_refl _) _).alloc (by simp) _
  have HB0 := Lib.hid hB
  have C0 := Lib.hid ((Bx3.made w (.int .u64 (b : Nat)) (.int .u64 (t : Nat)) (.slice a l.length c) 25).al (.cells #[.int .u64 0, .int .u64 0, .slice none 0 0] 25))
  have R0 := Lib.hid (show Bx3 ((w.alloc (.cells #[.int .u64 (b : Nat), .int .u64 (t : Nat), .slice a l.length c] 25)).alloc (.cells #[.int .u64 0, .int .u64 0, .slice none 0 0] 25)) (w.heap.size + 1) (.int .u64 0) (.int .u64 0) (.slice none 0 0) by have h9 := Bx3.made (w.alloc (.cells #[.int .u64 (b : Nat), .int .u64 (t : Nat), .slice a l.length c] 25)) (.int .u64 0) (.int .u64 0) (.slice none 0 0) 25; rw [World.size_alloc] at h9; exact h9)
  have HC := Lib.hid (log_check b t a c l _ (h.on hB))
  have HI := Lib.hid (fun z (hz : Below w.heap.size ((w.alloc (.cells #[.int .u64 (b : Nat), .int .u64 (t : Nat), .slice a l.length c] 25)).alloc (.cells #[.int .u64 0, .int .u64 0, .slice none 0 0] 25)) z) (hs : w.heap.size ≤ z.heap.size) => in_row x a2 c2 s z (((h2.keep hB).keep hz).more hs (Nat.le_refl _)))
  have he := eI_ok hk hb
  have hc2 := h2.cap
  have hl2 := h2.len
  have hlt1 : (x : Int) < (b : Int) := by omega
  have t1 : IntKind.u64.wrap ((b : Int) - (x : Int)) = ((b - x : Nat) : Int) := by unfold Lt64 at hx hb; rw [IntKind.wrap_u64]; omega
  have t2 : IntKind.u64.wrap (s.length : Int) = (s.length : Int) := by rw [IntKind.wrap_u64]; omega
  subst ha2
  rw [hj0] at t1
  have hmin : min (b - x) s.length = j := by omega
  have n1 : (j : Int) ≤ (s.length : Int) := by omega
  have n2 : (s.length : Int) ≤ (c2 : Int) := by omega
  have n4 : ¬ c2 = j := by omega
  have n6 : ¬ c2 - j = 0 := by omega
  have t9 := w64_ok (n := j) (by omega)
  obtain ⟨f0, f1, f2, f3, f4, f5, f6, f7⟩ := lt_all (show j < s.length by omega)
  have hX : jnX b x = b := by unfold jnX; first | rw [if_pos hlt] | rw [if_neg hlt]
  have hU : jnU b t x u = t := by unfold jnU; first | rw [if_pos hlt] | rw [if_neg hlt]
  have hS : jnS b x s = (s.drop j) := by unfold jnS; rw [if_pos hlt, hmin]
  have HP := Lib.hid (fun w' => JV.no (w := w) (q := jv b t l x u s) (R := rfE b t l (jnX b x) (jnU b t x u)) (by unfold jv; rw [if_neg (by rw [hk]; simp), if_neg (by rw [hr]; simp), if_neg hq]) w')
  rw [hX, hU] at hq HP
  have HRF := Lib.hid (fun z (hz : Below w.heap.size ((w.alloc (.cells #[.int .u64 (b : Nat), .int .u64 (t : Nat), .slice a l.length c] 25)).alloc (.cells #[.int .u64 0, .int .u64 0, .slice none 0 0] 25)) z) (hsz : w.heap.size ≤ z.heap.size) => refuse_of b t (b) (t) a c l z (((h.keep hB).keep hz).more hsz (Nat.le_refl _)) he hb)
  generalize rfE b t l (b) (t) = rf at *
  have q1 : ¬ (rf : Int) = 0 := by omega
  have q2 : ((rf : Int) != 0) = true := by simp; omega
  rw [hk] at HC
  rw [hr] at HI
  clear hB h h2 hb hx hs hk hr he hq hX hU hS
  clear hlt hmin
  generalize s.length = n at *
  go_enter Try.func26, Try.ntmps26
  go_wp2_with (go_at_call 22; go_loud ((with_reducible refine HC.out.mono ?_); rintro e w1 ⟨rfl, hb⟩; have HB1 := Lib.hid (HB0.out.trans (hb.mono HB0.out.size)); have HL1 := Lib.hid hb; have C1 := Lib.hid (C0.out.below hb); have R1 := Lib.hid (R0.out.below hb); obtain ⟨d10, d11, d12⟩ := C1.out.cells; obtain ⟨f10, f11, f12⟩ := C1.out.fz; obtain ⟨e10, e11, e12⟩ := R1.out.cells; obtain ⟨g10, g11, g12⟩ := R1.out.fz; clear hb))
  go_wp2_with (go_at_call 41; go_loud ((with_reducible refine (HI.out _ (HL1.out.mono HB0.out.size) HB1.out.size).mono ?_); rintro e w2 ⟨rfl, hb⟩; have HB2 := Lib.hid (HB1.out.trans (hb.mono HB1.out.size)); have HL2 := Lib.hid hb; have C2 := Lib.hid (C1.out.below hb); have R2 := Lib.hid (R1.out.below hb); obtain ⟨d20, d21, d22⟩ := C2.out.cells; obtain ⟨f20, f21, f22⟩ := C2.out.fz; obtain ⟨e20, e21, e22⟩ := R2.out.cells; obtain ⟨g20, g21, g22⟩ := R2.out.fz; clear hb))
  go_wp2
  go_quiet (fail)
  go_wp2_with (go_at_call 44; go_loud ((with_reducible refine (HRF.out _ (bdN ((HL1.out.mono HB0.out.size).trans (HL2.out.mono HB1.out.size)) _) (bdN HB2.out _).size).mono ?_); rintro e w3 ⟨rfl, hb0⟩; have hb : Below w2.heap.size w2 w3 := bdn hb0; clear hb0; have HB3 := Lib.hid (HB2.out.trans (hb.mono HB2.out.size)); have HL3 := Lib.hid hb; have C3 := Lib.hid (C2.out.below hb); have R3 := Lib.hid (R2.out.below hb); obtain ⟨d30, d31, d32⟩ := C3.out.cells; obtain ⟨f30, f31, f32⟩ := C3.out.fz; obtain ⟨e30, e31, e32⟩ := R3.out.cells; obtain ⟨g30, g31, g32⟩ := R3.out.fz; clear hb))
  go_wp2
  refine bodyPost_log3 rfl (w.heap.size + 1) 0 0 (.slice none 0 0) rfl rfl ?_ ?_
  case refine_1 => exact ((R3.out.set0 _).set1 _).set2 _
  case refine_2 => exact ⟨HP.out _, ((HB3.out.setCell (by exact Nat.le_succ _) _).setCell (by exact Nat.le_succ _) _).setCell (by exact Nat.le_succ _) _⟩
set_option maxHeartbeats 16000000 in
theorem join_by (b t x u : Nat) (a : Option Addr) (c : Nat) (l : List En) (a2 : Option Addr) (c2 : Nat) (s : List En) (w : World) {A A2 : Nat} (h : Sl w A w.heap.size a c l) (h2 : Sl w A2 w.heap.size a2 c2 s) (hb : Lt64 b) (hx : Lt64 x) (hs : l.length + s.length ≤ 2199023255551) (hk : okB b t l = true) (hr : rowB x s = true) (hlt : x < b) (j : Nat) (ad : Addr) (ha2 : a2 = some ad) (hj0 : b - x = j) (hj1 : j < s.length) (hq : rfE b t l (jnX b x) (jnU b t x u) = 0) :
    Calls Try.prog 26 #[.agg #[.int .u64 (b : Nat), .int .u64 (t : Nat), .slice a l.length c], .int .u64 (x : Nat), .int .u64 (u : Nat), .slice a2 s.length c2] w fun e w' => JV w (jv b t l x u s) e w' ∧ Below w.heap.size w w' := by
  have hB : Below w.heap.size w ((w.alloc (.cells #[.int .u64 (b : Nat), .int .u64 (t : Nat), .slice a l.length c] 25)).alloc (.cells #[.int .u64 0, .int .u64 0, .slice none 0 0] 25)) := ((Below.refl _ _).alloc (Nat.le_refl _) _).alloc (by simp) _
  have HB0 := Lib.hid hB
  have C0 := Lib.hid ((Bx3.made w (.int .u64 (b : Nat)) (.int .u64 (t : Nat)) (.slice a l.length c) 25).al (.cells #[.int .u64 0, .int .u64 0, .slice none 0 0] 25))
  have R0 := Lib.hid (show Bx3 ((w.alloc (.cells #[.int .u64 (b : Nat), .int .u64 (t : Nat), .slice a l.length c] 25)).alloc (.cells #[.int .u64 0, .int .u64 0, .slice none 0 0] 25)) (w.heap.size + 1) (.int .u64 0) (.int .u64 0) (.slice none 0 0) by have h9 := Bx3.made (w.alloc (.cells #[.int .u64 (b : Nat), .int .u64 (t : Nat), .slice a l.length c] 25)) (.int .u64 0) (.int .u64 0) (.slice none 0 0) 25; rw [World.size_alloc] at h9; exact h9)
  have HC := Lib.hid (log_check b t a c l _ (h.on hB))
  have HI := Lib.hid (fun z (hz : Below w.heap.size ((w.alloc (.cells #[.int .u64 (b : Nat), .int .u64 (t : Nat), .slice a l.length c] 25)).alloc (.cells #[.int .u64 0, .int .u64 0, .slice none 0 0] 25)) z) (hs : w.heap.size ≤ z.heap.size) => in_row x a2 c2 s z (((h2.keep hB).keep hz).more hs (Nat.le_refl _)))
  have he := eI_ok hk hb
  have hc2 := h2.cap
  have hl2 := h2.len
  have hlt1 : (x : Int) < (b : Int) := by omega
  have t1 : IntKind.u64.wrap ((b : Int) - (x : Int)) = ((b - x : Nat) : Int) := by unfold Lt64 at hx hb; rw [IntKind.wrap_u64]; omega
  have t2 : IntKind.u64.wrap (s.length : Int) = (s.length : Int) := by rw [IntKind.wrap_u64]; omega
  subst ha2
  rw [hj0] at t1
  have hmin : min (b - x) s.length = j := by omega
  have n1 : (j : Int) ≤ (s.length : Int) := by omega
  have n2 : (s.length : Int) ≤ (c2 : Int) := by omega
  have n4 : ¬ c2 = j := by omega
  have n6 : ¬ c2 - j = 0 := by omega
  have t9 := w64_ok (n := j) (by omega)
  obtain ⟨f0, f1, f2, f3, f4, f5, f6, f7⟩ := lt_all (show j < s.length by omega)
  have hX : jnX b x = b := by unfold jnX; first | rw [if_pos hlt] | rw [if_neg hlt]
  have hU : jnU b t x u = t := by unfold jnU; first | rw [if_pos hlt] | rw [if_neg hlt]
  have hS : jnS b x s = (s.drop j) := by unfold jnS; rw [if_pos hlt, hmin]
  obtain ⟨⟨B', T', L', F', R'⟩, hj⟩ : ∃ q, jr b t l (jnS b x s) = q := ⟨_, rfl⟩
  have hv : jv b t l x u s = (B', T', L', F', R') := by unfold jv; rw [if_neg (by rw [hk]; simp), if_neg (by rw [hr]; simp), if_pos hq, hj]
  have HP := Lib.hid (fun w' A a c => JV.of (w := w) (w' := w') (A := A) (a := a) (c := c) hv)
  have h3 : Sl w A2 w.heap.size (some (ad.add (j * 5))) (c2 - j) ((s.drop j)) := h2.path j (Nat.le_of_lt hj1)
  have hl3 : ((s.drop j)).length = s.length - j := by rw [List.length_drop]
  have hs3 : l.length + ((s.drop j)).length ≤ 2199023255551 := Nat.le_trans (Nat.add_le_add_left (show ((s.drop j)).length ≤ s.length from by rw [List.length_drop]; exact Nat.sub_le _ _) _) hs
  have hne : ∀ e ∈ ((s.drop j)), e.i ≠ 0 := fun e he => row_ne hr e (List.mem_of_mem_drop he)
  rw [hS] at hj
  have HJ := Lib.hid (fun z (hz : Below w.heap.size ((w.alloc (.cells #[.int .u64 (b : Nat), .int .u64 (t : Nat), .slice a l.length c] 25)).alloc (.cells #[.int .u64 0, .int .u64 0, .slice none 0 0] 25)) z) (hsz : w.heap.size ≤ z.heap.size) => (join_of b t a c l (some (ad.add (j * 5))) (c2 - j) ((s.drop j)) z (((h.keep hB).keep hz).more hsz (Nat.le_refl _)) (((h3.keep hB).keep hz).more hsz (Nat.le_refl _)) he hb hs3 hne).mono fun e w' h => (⟨JoinR.open' hj h.1, h.2⟩ : JIs z B' T' L' F' R' e w' ∧ Below z.heap.size z w'))
  rw [hl3] at HJ
  rw [hX, hU] at hq
  have HRF := Lib.hid (fun z (hz : Below w.heap.size ((w.alloc (.cells #[.int .u64 (b : Nat), .int .u64 (t : Nat), .slice a l.length c] 25)).alloc (.cells #[.int .u64 0, .int .u64 0, .slice none 0 0] 25)) z) (hsz : w.heap.size ≤ z.heap.size) => refuse_of b t (b) (t) a c l z (((h.keep hB).keep hz).more hsz (Nat.le_refl _)) he hb)
  rw [hq] at HRF
  rw [hk] at HC
  rw [hr] at HI
  clear hB h h2 hb hx hs hk hr he hq hX hU hS h3 hl3 hs3 hne hj hv
  clear hlt hmin
  generalize s.length = n at *
  go_enter Try.func26, Try.ntmps26
  go_wp2_with (go_at_call 22; go_loud ((with_reducible refine HC.out.mono ?_); rintro e w1 ⟨rfl, hb⟩; have HB1 := Lib.hid (HB0.out.trans (hb.mono HB0.out.size)); have HL1 := Lib.hid hb; have C1 := Lib.hid (C0.out.below hb); have R1 := Lib.hid (R0.out.below hb); obtain ⟨d10, d11, d12⟩ := C1.out.cells; obtain ⟨f10, f11, f12⟩ := C1.out.fz; obtain ⟨e10, e11, e12⟩ := R1.out.cells; obtain ⟨g10, g11, g12⟩ := R1.out.fz; clear hb))
  go_wp2_with (go_at_call 41; go_loud ((with_reducible refine (HI.out _ (HL1.out.mono HB0.out.size) HB1.out.size).mono ?_); rintro e w2 ⟨rfl, hb⟩; have HB2 := Lib.hid (HB1.out.trans (hb.mono HB1.out.size)); have HL2 := Lib.hid hb; have C2 := Lib.hid (C1.out.below hb); have R2 := Lib.hid (R1.out.below hb); obtain ⟨d20, d21, d22⟩ := C2.out.cells; obtain ⟨f20, f21, f22⟩ := C2.out.fz; obtain ⟨e20, e21, e22⟩ := R2.out.cells; obtain ⟨g20, g21, g22⟩ := R2.out.fz; clear hb))
  go_wp2
  go_quiet (fail)
  go_wp2_with (go_at_call 44; go_loud ((with_reducible refine (HRF.out _ (bdN ((HL1.out.mono HB0.out.size).trans (HL2.out.mono HB1.out.size)) _) (bdN HB2.out _).size).mono ?_); rintro e w3 ⟨rfl, hb0⟩; have hb : Below w2.heap.size w2 w3 := bdn hb0; clear hb0; have HB3 := Lib.hid (HB2.out.trans (hb.mono HB2.out.size)); have HL3 := Lib.hid hb; have C3 := Lib.hid (C2.out.below hb); have R3 := Lib.hid (R2.out.below hb); obtain ⟨d30, d31, d32⟩ := C3.out.cells; obtain ⟨f30, f31, f32⟩ := C3.out.fz; obtain ⟨e30, e31, e32⟩ := R3.out.cells; obtain ⟨g30, g31, g32⟩ := R3.out.fz; clear hb))
  go_wp2_with (go_at_call 45; go_loud ((with_reducible refine (HJ.out _ (((HL1.out.mono HB0.out.size).trans (HL2.out.mono HB1.out.size)).trans (HL3.out.mono HB2.out.size)) HB3.out.size).mono ?_); rintro e w4 ⟨⟨a4, c4, rfl, ho⟩, hb⟩; have HB4 := Lib.hid (HB3.out.trans (hb.mono HB3.out.size)); have HL4 := Lib.hid hb; have C4 := Lib.hid (C3.out.below hb); have R4 := Lib.hid (R3.out.below hb); obtain ⟨d40, d41, d42⟩ := C4.out.cells; obtain ⟨f40, f41, f42⟩ := C4.out.fz; obtain ⟨e40, e41, e42⟩ := R4.out.cells; obtain ⟨g40, g41, g42⟩ := R4.out.fz; have HO4 := Lib.hid ho; clear ho; clear hb))
  go_wp2
  refine bodyPost_log3 rfl (w.heap.size + 1) B' T' (.slice a4 L'.length c4) rfl rfl ?_ ?_
  case refine_1 => exact ((R4.out.set0 _).set1 _).set2 _
  case refine_2 => exact ⟨HP.out _ _ _ _ (((HO4.out.put (p := w.heap.size + 1) (by have := R3.out.lt; omega) 0 _).put (p := w.heap.size + 1) (by have := R3.out.lt; omega) 1 _).put (p := w.heap.size + 1) (by have := R3.out.lt; omega) 2 _) HB3.out.size, ((HB4.out.setCell (by exact Nat.le_succ _) _).setCell (by exact Nat.le_succ _) _).setCell (by exact Nat.le_succ _) _⟩
set_option maxHeartbeats 16000000 in
theorem join_cn (b t x u : Nat) (a : Option Addr) (c : Nat) (l : List En) (a2 : Option Addr) (c2 : Nat) (s : List En) (w : World) {A A2 : Nat} (h : Sl w A w.heap.size a c l) (h2 : Sl w A2 w.heap.size a2 c2 s) (hb : Lt64 b) (hx : Lt64 x) (hs : l.length + s.length ≤ 2199023255551) (hk : okB b t l = true) (hr : rowB x s = true) (hlt : x < b) (j : Nat) (hj0 : b - x = j) (hj1 : j = s.length) (hjc : c2 = s.length) (hq : ¬ rfE b t l (jnX b x) (jnU b t x u) = 0) :
    Calls Try.prog 26 #[.agg #[.int .u64 (b : Nat), .int .u64 (t : Nat), .slice a l.length c], .int .u64 (x : Nat), .int .u64 (u : Nat), .slice a2 s.length c2] w fun e w' => JV w (jv b t l x u s) e w' ∧ Below w.heap.size w w' := by
  have hB : Below w.heap.size w ((w.alloc (.cells #[.int .u64 (b : Nat), .int .u64 (t : Nat), .slice a l.length c] 25)).alloc (.cells #[.int .u64 0, .int .u64 0, .slice none 0 0] 25)) := ((Below.refl _ _).alloc (Nat.le_refl _) _).alloc (by simp) _
  have HB0 := Lib.hid hB
  have C0 := Lib.hid ((Bx3.made w (.int .u64 (b : Nat)) (.int .u64 (t : Nat)) (.slice a l.length c) 25).al (.cells #[.int .u64 0, .int .u64 0, .slice none 0 0] 25))
  have R0 := Lib.hid (show Bx3 ((w.alloc (.cells #[.int .u64 (b : Nat), .int .u64 (t : Nat), .slice a l.length c] 25)).alloc (.cells #[.int .u64 0, .int .u64 0, .slice none 0 0] 25)) (w.heap.size + 1) (.int .u64 0) (.int .u64 0) (.slice none 0 0) by have h9 := Bx3.made (w.alloc (.cells #[.int .u64 (b : Nat), .int .u64 (t : Nat), .slice a l.length c] 25)) (.int .u64 0) (.int .u64 0) (.slice none 0 0) 25; rw [World.size_alloc] at h9; exact h9)
  have HC := Lib.hid (log_check b t a c l _ (h.on hB))
  have HI := Lib.hid (fun z (hz : Below w.heap.size ((w.alloc (.cells #[.int .u64 (b : Nat), .int .u64 (t : Nat), .slice a l.length c] 25)).alloc (.cells #[.int .u64 0, .int .u64 0, .slice none 0 0] 25)) z) (hs : w.heap.size ≤ z.heap.size) => in_row x a2 c2 s z (((h2.keep hB).keep hz).more hs (Nat.le_refl _)))
  have he := eI_ok hk hb
  have hc2 := h2.cap
  have hl2 := h2.len
  have hlt1 : (x : Int) < (b : Int) := by omega
  have t1 : IntKind.u64.wrap ((b : Int) - (x : Int)) = ((b - x : Nat) : Int) := by unfold Lt64 at hx hb; rw [IntKind.wrap_u64]; omega
  have t2 : IntKind.u64.wrap (s.length : Int) = (s.length : Int) := by rw [IntKind.wrap_u64]; omega
  rw [hj0] at t1
  subst hjc
  have hmin : min (b - x) s.length = s.length := by omega
  have hnil : s.drop s.length = [] := List.drop_eq_nil_of_le (Nat.le_refl _)
  obtain rfl : j = s.length := hj1
  have t9 := w64_ok (n := s.length) (by omega)
  have hX : jnX b x = b := by unfold jnX; first | rw [if_pos hlt] | rw [if_neg hlt]
  have hU : jnU b t x u = t := by unfold jnU; first | rw [if_pos hlt] | rw [if_neg hlt]
  have hS : jnS b x s = ([] : List En) := by unfold jnS; rw [if_pos hlt, hmin, hnil]
  have HP := Lib.hid (fun w' => JV.no (w := w) (q := jv b t l x u s) (R := rfE b t l (jnX b x) (jnU b t x u)) (by unfold jv; rw [if_neg (by rw [hk]; simp), if_neg (by rw [hr]; simp), if_neg hq]) w')
  rw [hX, hU] at hq HP
  have HRF := Lib.hid (fun z (hz : Below w.heap.size ((w.alloc (.cells #[.int .u64 (b : Nat), .int .u64 (t : Nat), .slice a l.length c] 25)).alloc (.cells #[.int .u64 0, .int .u64 0, .slice none 0 0] 25)) z) (hsz : w.heap.size ≤ z.heap.size) => refuse_of b t (b) (t) a c l z (((h.keep hB).keep hz).more hsz (Nat.le_refl _)) he hb)
  generalize rfE b t l (b) (t) = rf at *
  have q1 : ¬ (rf : Int) = 0 := by omega
  have q2 : ((rf : Int) != 0) = true := by simp; omega
  rw [hk] at HC
  rw [hr] at HI
  clear hB h h2 hb hx hs hk hr he hq hX hU hS
  clear hlt hmin hnil
  generalize s.length = n at *
  go_enter Try.func26, Try.ntmps26
  go_wp2_with (go_at_call 22; go_loud ((with_reducible refine HC.out.mono ?_); rintro e w1 ⟨rfl, hb⟩; have HB1 := Lib.hid (HB0.out.trans (hb.mono HB0.out.size)); have HL1 := Lib.hid hb; have C1 := Lib.hid (C0.out.below hb); have R1 := Lib.hid (R0.out.below hb); obtain ⟨d10, d11, d12⟩ := C1.out.cells; obtain ⟨f10, f11, f12⟩ := C1.out.fz; obtain ⟨e10, e11, e12⟩ := R1.out.cells; obtain ⟨g10, g11, g12⟩ := R1.out.fz; clear hb))
  go_wp2_with (go_at_call 41; go_loud ((with_reducible refine (HI.out _ (HL1.out.mono HB0.out.size) HB1.out.size).mono ?_); rintro e w2 ⟨rfl, hb⟩; have HB2 := Lib.hid (HB1.out.trans (hb.mono HB1.out.size)); have HL2 := Lib.hid hb; have C2 := Lib.hid (C1.out.below hb); have R2 := Lib.hid (R1.out.below hb); obtain ⟨d20, d21, d22⟩ := C2.out.cells; obtain ⟨f20, f21, f22⟩ := C2.out.fz; obtain ⟨e20, e21, e22⟩ := R2.out.cells; obtain ⟨g20, g21, g22⟩ := R2.out.fz; clear hb))
  go_wp2
  go_quiet (fail)
  go_wp2_with (go_at_call 44; go_loud ((with_reducible refine (HRF.out _ (bdN ((HL1.out.mono HB0.out.size).trans (HL2.out.mono HB1.out.size)) _) (bdN HB2.out _).size).mono ?_); rintro e w3 ⟨rfl, hb0⟩; have hb : Below w2.heap.size w2 w3 := bdn hb0; clear hb0; have HB3 := Lib.hid (HB2.out.trans (hb.mono HB2.out.size)); have HL3 := Lib.hid hb; have C3 := Lib.hid (C2.out.below hb); have R3 := Lib.hid (R2.out.below hb); obtain ⟨d30, d31, d32⟩ := C3.out.cells; obtain ⟨f30, f31, f32⟩ := C3.out.fz; obtain ⟨e30, e31, e32⟩ := R3.out.cells; obtain ⟨g30, g31, g32⟩ := R3.out.fz; clear hb))
  go_wp2
  refine bodyPost_log3 rfl (w.heap.size + 1) 0 0 (.slice none 0 0) rfl rfl ?_ ?_
  case refine_1 => exact ((R3.out.set0 _).set1 _).set2 _
  case refine_2 => exact ⟨HP.out _, ((HB3.out.setCell (by exact Nat.le_succ _) _).setCell (by exact Nat.le_succ _) _).setCell (by exact Nat.le_succ _) _⟩
set_option maxHeartbeats 16000000 in
theorem join_cy (b t x u : Nat) (a : Option Addr) (c : Nat) (l : List En) (a2 : Option Addr) (c2 : Nat) (s : List En) (w : World) {A A2 : Nat} (h : Sl w A w.heap.size a c l) (h2 : Sl w A2 w.heap.size a2 c2 s) (hb : Lt64 b) (hx : Lt64 x) (hs : l.length + s.length ≤ 2199023255551) (hk : okB b t l = true) (hr : rowB x s = true) (hlt : x < b) (j : Nat) (hj0 : b - x = j) (hj1 : j = s.length) (hjc : c2 = s.length) (hq : rfE b t l (jnX b x) (jnU b t x u) = 0) :
    Calls Try.prog 26 #[.agg #[.int .u64 (b : Nat), .int .u64 (t : Nat), .slice a l.length c], .int .u64 (x : Nat), .int .u64 (u : Nat), .slice a2 s.length c2] w fun e w' => JV w (jv b t l x u s) e w' ∧ Below w.heap.size w w' := by
  have hB : Below w.heap.size w ((w.alloc (.cells #[.int .u64 (b : Nat), .int .u64 (t : Nat), .slice a l.length c] 25)).alloc (.cells #[.int .u64 0, .int .u64 0, .slice none 0 0] 25)) := ((Below.refl _ _).alloc (Nat.le_refl _) _).alloc (by simp) _
  have HB0 := Lib.hid hB
  have C0 := Lib.hid ((Bx3.made w (.int .u64 (b : Nat)) (.int .u64 (t : Nat)) (.slice a l.length c) 25).al (.cells #[.int .u64 0, .int .u64 0, .slice none 0 0] 25))
  have R0 := Lib.hid (show Bx3 ((w.alloc (.cells #[.int .u64 (b : Nat), .int .u64 (t : Nat), .slice a l.length c] 25)).alloc (.cells #[.int .u64 0, .int .u64 0, .slice none 0 0] 25)) (w.heap.size + 1) (.int .u64 0) (.int .u64 0) (.slice none 0 0) by have h9 := Bx3.made (w.alloc (.cells #[.int .u64 (b : Nat), .int .u64 (t : Nat), .slice a l.length c] 25)) (.int .u64 0) (.int .u64 0) (.slice none 0 0) 25; rw [World.size_alloc] at h9; exact h9)
  have HC := Lib.hid (log_check b t a c l _ (h.on hB))
  have HI := Lib.hid (fun z (hz : Below w.heap.size ((w.alloc (.cells #[.int .u64 (b : Nat), .int .u64 (t : Nat), .slice a l.length c] 25)).alloc (.cells #[.int .u64 0, .int .u64 0, .slice none 0 0] 25)) z) (hs : w.heap.size ≤ z.heap.size) => in_row x a2 c2 s z (((h2.keep hB).keep hz).more hs (Nat.le_refl _)))
  have he := eI_ok hk hb
  have hc2 := h2.cap
  have hl2 := h2.len
  have hlt1 : (x : Int) < (b : Int) := by omega
  have t1 : IntKind.u64.wrap ((b : Int) - (x : Int)) = ((b - x : Nat) : Int) := by unfold Lt64 at hx hb; rw [IntKind.wrap_u64]; omega
  have t2 : IntKind.u64.wrap (s.length : Int) = (s.length : Int) := by rw [IntKind.wrap_u64]; omega
  rw [hj0] at t1
  subst hjc
  have hmin : min (b - x) s.length = s.length := by omega
  have hnil : s.drop s.length = [] := List.drop_eq_nil_of_le (Nat.le_refl _)
  obtain rfl : j = s.length := hj1
  have t9 := w64_ok (n := s.length) (by omega)
  have hX : jnX b x = b := by unfold jnX; first | rw [if_pos hlt] | rw [if_neg hlt]
  have hU : jnU b t x u = t := by unfold jnU; first | rw [if_pos hlt] | rw [if_neg hlt]
  have hS : jnS b x s = ([] : List En) := by unfold jnS; rw [if_pos hlt, hmin, hnil]
  obtain ⟨⟨B', T', L', F', R'⟩, hj⟩ : ∃ q, jr b t l (jnS b x s) = q := ⟨_, rfl⟩
  have hv : jv b t l x u s = (B', T', L', F', R') := by unfold jv; rw [if_neg (by rw [hk]; simp), if_neg (by rw [hr]; simp), if_pos hq, hj]
  have HP := Lib.hid (fun w' A a c => JV.of (w := w) (w' := w') (A := A) (a := a) (c := c) hv)
  have h3 : Sl w A2 w.heap.size (a2) (0) (([] : List En)) := Sl.empty _ _ _ _ _ (fun _ => rfl)
  have hl3 : (([] : List En)).length = 0 := rfl
  have hs3 : l.length + (([] : List En)).length ≤ 2199023255551 := Nat.le_trans (Nat.add_le_add_left (show (([] : List En)).length ≤ s.length from Nat.zero_le _) _) hs
  have hne : ∀ e ∈ (([] : List En)), e.i ≠ 0 := fun e he => row_ne hr e (absurd he (by simp))
  rw [hS] at hj
  have HJ := Lib.hid (fun z (hz : Below w.heap.size ((w.alloc (.cells #[.int .u64 (b : Nat), .int .u64 (t : Nat), .slice a l.length c] 25)).alloc (.cells #[.int .u64 0, .int .u64 0, .slice none 0 0] 25)) z) (hsz : w.heap.size ≤ z.heap.size) => (join_of b t a c l (a2) (0) (([] : List En)) z (((h.keep hB).keep hz).more hsz (Nat.le_refl _)) (((h3.keep hB).keep hz).more hsz (Nat.le_refl _)) he hb hs3 hne).mono fun e w' h => (⟨JoinR.open' hj h.1, h.2⟩ : JIs z B' T' L' F' R' e w' ∧ Below z.heap.size z w'))
  rw [hl3] at HJ
  rw [hX, hU] at hq
  have HRF := Lib.hid (fun z (hz : Below w.heap.size ((w.alloc (.cells #[.int .u64 (b : Nat), .int .u64 (t : Nat), .slice a l.length c] 25)).alloc (.cells #[.int .u64 0, .int .u64 0, .slice none 0 0] 25)) z) (hsz : w.heap.size ≤ z.heap.size) => refuse_of b t (b) (t) a c l z (((h.keep hB).keep hz).more hsz (Nat.le_refl _)) he hb)
  rw [hq] at HRF
  rw [hk] at HC
  rw [hr] at HI
  clear hB h h2 hb hx hs hk hr he hq hX hU hS h3 hl3 hs3 hne hj hv
  clear hlt hmin hnil
  generalize s.length = n at *
  go_enter Try.func26, Try.ntmps26
  go_wp2_with (go_at_call 22; go_loud ((with_reducible refine HC.out.mono ?_); rintro e w1 ⟨rfl, hb⟩; have HB1 := Lib.hid (HB0.out.trans (hb.mono HB0.out.size)); have HL1 := Lib.hid hb; have C1 := Lib.hid (C0.out.below hb); have R1 := Lib.hid (R0.out.below hb); obtain ⟨d10, d11, d12⟩ := C1.out.cells; obtain ⟨f10, f11, f12⟩ := C1.out.fz; obtain ⟨e10, e11, e12⟩ := R1.out.cells; obtain ⟨g10, g11, g12⟩ := R1.out.fz; clear hb))
  go_wp2_with (go_at_call 41; go_loud ((with_reducible refine (HI.out _ (HL1.out.mono HB0.out.size) HB1.out.size).mono ?_); rintro e w2 ⟨rfl, hb⟩; have HB2 := Lib.hid (HB1.out.trans (hb.mono HB1.out.size)); have HL2 := Lib.hid hb; have C2 := Lib.hid (C1.out.below hb); have R2 := Lib.hid (R1.out.below hb); obtain ⟨d20, d21, d22⟩ := C2.out.cells; obtain ⟨f20, f21, f22⟩ := C2.out.fz; obtain ⟨e20, e21, e22⟩ := R2.out.cells; obtain ⟨g20, g21, g22⟩ := R2.out.fz; clear hb))
  go_wp2
  go_quiet (fail)
  go_wp2_with (go_at_call 44; go_loud ((with_reducible refine (HRF.out _ (bdN ((HL1.out.mono HB0.out.size).trans (HL2.out.mono HB1.out.size)) _) (bdN HB2.out _).size).mono ?_); rintro e w3 ⟨rfl, hb0⟩; have hb : Below w2.heap.size w2 w3 := bdn hb0; clear hb0; have HB3 := Lib.hid (HB2.out.trans (hb.mono HB2.out.size)); have HL3 := Lib.hid hb; have C3 := Lib.hid (C2.out.below hb); have R3 := Lib.hid (R2.out.below hb); obtain ⟨d30, d31, d32⟩ := C3.out.cells; obtain ⟨f30, f31, f32⟩ := C3.out.fz; obtain ⟨e30, e31, e32⟩ := R3.out.cells; obtain ⟨g30, g31, g32⟩ := R3.out.fz; clear hb))
  go_wp2_with (go_at_call 45; go_loud ((with_reducible refine (HJ.out _ (((HL1.out.mono HB0.out.size).trans (HL2.out.mono HB1.out.size)).trans (HL3.out.mono HB2.out.size)) HB3.out.size).mono ?_); rintro e w4 ⟨⟨a4, c4, rfl, ho⟩, hb⟩; have HB4 := Lib.hid (HB3.out.trans (hb.mono HB3.out.size)); have HL4 := Lib.hid hb; have C4 := Lib.hid (C3.out.below hb); have R4 := Lib.hid (R3.out.below hb); obtain ⟨d40, d41, d42⟩ := C4.out.cells; obtain ⟨f40, f41, f42⟩ := C4.out.fz; obtain ⟨e40, e41, e42⟩ := R4.out.cells; obtain ⟨g40, g41, g42⟩ := R4.out.fz; have HO4 := Lib.hid ho; clear ho; clear hb))
  go_wp2
  refine bodyPost_log3 rfl (w.heap.size + 1) B' T' (.slice a4 L'.length c4) rfl rfl ?_ ?_
  case refine_1 => exact ((R4.out.set0 _).set1 _).set2 _
  case refine_2 => exact ⟨HP.out _ _ _ _ (((HO4.out.put (p := w.heap.size + 1) (by have := R3.out.lt; omega) 0 _).put (p := w.heap.size + 1) (by have := R3.out.lt; omega) 1 _).put (p := w.heap.size + 1) (by have := R3.out.lt; omega) 2 _) HB3.out.size, ((HB4.out.setCell (by exact Nat.le_succ _) _).setCell (by exact Nat.le_succ _) _).setCell (by exact Nat.le_succ _) _⟩
set_option maxHeartbeats 16000000 in
theorem join_dn (b t x u : Nat) (a : Option Addr) (c : Nat) (l : List En) (a2 : Option Addr) (c2 : Nat) (s : List En) (w : World) {A A2 : Nat} (h : Sl w A w.heap.size a c l) (h2 : Sl w A2 w.heap.size a2 c2 s) (hb : Lt64 b) (hx : Lt64 x) (hs : l.length + s.length ≤ 2199023255551) (hk : okB b t l = true) (hr : rowB x s = true) (hlt : x < b) (j : Nat) (ad : Addr) (ha2 : a2 = some ad) (hj0 : b - x = j) (hj1 : j = s.length) (hjc : s.length < c2) (hq : ¬ rfE b t l (jnX b x) (jnU b t x u) = 0) :
    Calls Try.prog 26 #[.agg #[.int .u64 (b : Nat), .int .u64 (t : Nat), .slice a l.length c], .int .u64 (x : Nat), .int .u64 (u : Nat), .slice a2 s.length c2] w fun e w' => JV w (jv b t l x u s) e w' ∧ Below w.heap.size w w' := by
  have hB : Below w.heap.size w ((w.alloc (.cells #[.int .u64 (b : Nat), .int .u64 (t : Nat), .slice a l.length c] 25)).alloc (.cells #[.int .u64 0, .int .u64 0, .slice none 0 0] 25)) := ((Below.refl _ _).alloc (Nat.le_refl _) _).alloc (by simp) _
  have HB0 := Lib.hid hB
  have C0 := Lib.hid ((Bx3.made w (.int .u64 (b : Nat)) (.int .u64 (t : Nat)) (.slice a l.length c) 25).al (.cells #[.int .u64 0, .int .u64 0, .slice none 0 0] 25))
  have R0 := Lib.hid (show Bx3 ((w.alloc (.cells #[.int .u64 (b : Nat), .int .u64 (t : Nat), .slice a l.length c] 25)).alloc (.cells #[.int .u64 0, .int .u64 0, .slice none 0 0] 25)) (w.heap.size + 1) (.int .u64 0) (.int .u64 0) (.slice none 0 0) by have h9 := Bx3.made (w.alloc (.cells #[.int .u64 (b : Nat), .int .u64 (t : Nat), .slice a l.length c] 25)) (.int .u64 0) (.int .u64 0) (.slice none 0 0) 25; rw [World.size_alloc] at h9; exact h9)
  have HC := Lib.hid (log_check b t a c l _ (h.on hB))
  have HI := Lib.hid (fun z (hz : Below w.heap.size ((w.alloc (.cells #[.int .u64 (b : Nat), .int .u64 (t : Nat), .slice a l.length c] 25)).alloc (.cells #[.int .u64 0, .int .u64 0, .slice none 0 0] 25)) z) (hs : w.heap.size ≤ z.heap.size) => in_row x a2 c2 s z (((h2.keep hB).keep hz).more hs (Nat.le_refl _)))
  have he := eI_ok hk hb
  have hc2 := h2.cap
  have hl2 := h2.len
  have hlt1 : (x : Int) < (b : Int) := by omega
  have t1 : IntKind.u64.wrap ((b : Int) - (x : Int)) = ((b - x : Nat) : Int) := by unfold Lt64 at hx hb; rw [IntKind.wrap_u64]; omega
  have t2 : IntKind.u64.wrap (s.length : Int) = (s.length : Int) := by rw [IntKind.wrap_u64]; omega
  subst ha2
  rw [hj0] at t1
  have hmin : min (b - x) s.length = s.length := by omega
  have hnil : s.drop s.length = [] := List.drop_eq_nil_of_le (Nat.le_refl _)
  have n2 : (s.length : Int) ≤ (c2 : Int) := by omega
  have n4 : ¬ c2 = s.length := by omega
  have n6 : ¬ c2 - s.length = 0 := by omega
  obtain rfl : j = s.length := hj1
  have t9 := w64_ok (n := s.length) (by omega)
  have hX : jnX b x = b := by unfold jnX; first | rw [if_pos hlt] | rw [if_neg hlt]
  have hU : jnU b t x u = t := by unfold jnU; first | rw [if_pos hlt] | rw [if_neg hlt]
  have hS : jnS b x s = ([] : List En) := by unfold jnS; rw [if_pos hlt, hmin, hnil]
  have HP := Lib.hid (fun w' => JV.no (w := w) (q := jv b t l x u s) (R := rfE b t l (jnX b x) (jnU b t x u)) (by unfold jv; rw [if_neg (by rw [hk]; simp), if_neg (by rw [hr]; simp), if_neg hq]) w')
  rw [hX, hU] at hq HP
  have HRF := Lib.hid (fun z (hz : Below w.heap.size ((w.alloc (.cells #[.int .u64 (b : Nat), .int .u64 (t : Nat), .slice a l.length c] 25)).alloc (.cells #[.int .u64 0, .int .u64 0, .slice none 0 0] 25)) z) (hsz : w.heap.size ≤ z.heap.size) => refuse_of b t (b) (t) a c l z (((h.keep hB).keep hz).more hsz (Nat.le_refl _)) he hb)
  generalize rfE b t l (b) (t) = rf at *
  have q1 : ¬ (rf : Int) = 0 := by omega
  have q2 : ((rf : Int) != 0) = true := by simp; omega
  rw [hk] at HC
  rw [hr] at HI
  clear hB h h2 hb hx hs hk hr he hq hX hU hS
  clear hlt hmin hnil
  generalize s.length = n at *
  go_enter Try.func26, Try.ntmps26
  go_wp2_with (go_at_call 22; go_loud ((with_reducible refine HC.out.mono ?_); rintro e w1 ⟨rfl, hb⟩; have HB1 := Lib.hid (HB0.out.trans (hb.mono HB0.out.size)); have HL1 := Lib.hid hb; have C1 := Lib.hid (C0.out.below hb); have R1 := Lib.hid (R0.out.below hb); obtain ⟨d10, d11, d12⟩ := C1.out.cells; obtain ⟨f10, f11, f12⟩ := C1.out.fz; obtain ⟨e10, e11, e12⟩ := R1.out.cells; obtain ⟨g10, g11, g12⟩ := R1.out.fz; clear hb))
  go_wp2_with (go_at_call 41; go_loud ((with_reducible refine (HI.out _ (HL1.out.mono HB0.out.size) HB1.out.size).mono ?_); rintro e w2 ⟨rfl, hb⟩; have HB2 := Lib.hid (HB1.out.trans (hb.mono HB1.out.size)); have HL2 := Lib.hid hb; have C2 := Lib.hid (C1.out.below hb); have R2 := Lib.hid (R1.out.below hb); obtain ⟨d20, d21, d22⟩ := C2.out.cells; obtain ⟨f20, f21, f22⟩ := C2.out.fz; obtain ⟨e20, e21, e22⟩ := R2.out.cells; obtain ⟨g20, g21, g22⟩ := R2.out.fz; clear hb))
  go_wp2
  go_quiet (fail)
  go_wp2_with (go_at_call 44; go_loud ((with_reducible refine (HRF.out _ (bdN ((HL1.out.mono HB0.out.size).trans (HL2.out.mono HB1.out.size)) _) (bdN HB2.out _).size).mono ?_); rintro e w3 ⟨rfl, hb0⟩; have hb : Below w2.heap.size w2 w3 := bdn hb0; clear hb0; have HB3 := Lib.hid (HB2.out.trans (hb.mono HB2.out.size)); have HL3 := Lib.hid hb; have C3 := Lib.hid (C2.out.below hb); have R3 := Lib.hid (R2.out.below hb); obtain ⟨d30, d31, d32⟩ := C3.out.cells; obtain ⟨f30, f31, f32⟩ := C3.out.fz; obtain ⟨e30, e31, e32⟩ := R3.out.cells; obtain ⟨g30, g31, g32⟩ := R3.out.fz; clear hb))
  go_wp2
  refine bodyPost_log3 rfl (w.heap.size + 1) 0 0 (.slice none 0 0) rfl rfl ?_ ?_
  case refine_1 => exact ((R3.out.set0 _).set1 _).set2 _
  case refine_2 => exact ⟨HP.out _, ((HB3.out.setCell (by exact Nat.le_succ _) _).setCell (by exact Nat.le_succ _) _).setCell (by exact Nat.le_succ _) _⟩
set_option maxHeartbeats 16000000 in
theorem join_dy (b t x u : Nat) (a : Option Addr) (c : Nat) (l : List En) (a2 : Option Addr) (c2 : Nat) (s : List En) (w : World) {A A2 : Nat} (h : Sl w A w.heap.size a c l) (h2 : Sl w A2 w.heap.size a2 c2 s) (hb : Lt64 b) (hx : Lt64 x) (hs : l.length + s.length ≤ 2199023255551) (hk : okB b t l = true) (hr : rowB x s = true) (hlt : x < b) (j : Nat) (ad : Addr) (ha2 : a2 = some ad) (hj0 : b - x = j) (hj1 : j = s.length) (hjc : s.length < c2) (hq : rfE b t l (jnX b x) (jnU b t x u) = 0) :
    Calls Try.prog 26 #[.agg #[.int .u64 (b : Nat), .int .u64 (t : Nat), .slice a l.length c], .int .u64 (x : Nat), .int .u64 (u : Nat), .slice a2 s.length c2] w fun e w' => JV w (jv b t l x u s) e w' ∧ Below w.heap.size w w' := by
  have hB : Below w.heap.size w ((w.alloc (.cells #[.int .u64 (b : Nat), .int .u64 (t : Nat), .slice a l.length c] 25)).alloc (.cells #[.int .u64 0, .int .u64 0, .slice none 0 0] 25)) := ((Below.refl _ _).alloc (Nat.le_refl _) _).alloc (by simp) _
  have HB0 := Lib.hid hB
  have C0 := Lib.hid ((Bx3.made w (.int .u64 (b : Nat)) (.int .u64 (t : Nat)) (.slice a l.length c) 25).al (.cells #[.int .u64 0, .int .u64 0, .slice none 0 0] 25))
  have R0 := Lib.hid (show Bx3 ((w.alloc (.cells #[.int .u64 (b : Nat), .int .u64 (t : Nat), .slice a l.length c] 25)).alloc (.cells #[.int .u64 0, .int .u64 0, .slice none 0 0] 25)) (w.heap.size + 1) (.int .u64 0) (.int .u64 0) (.slice none 0 0) by have h9 := Bx3.made (w.alloc (.cells #[.int .u64 (b : Nat), .int .u64 (t : Nat), .slice a l.length c] 25)) (.int .u64 0) (.int .u64 0) (.slice none 0 0) 25; rw [World.size_alloc] at h9; exact h9)
  have HC := Lib.hid (log_check b t a c l _ (h.on hB))
  have HI := Lib.hid (fun z (hz : Below w.heap.size ((w.alloc (.cells #[.int .u64 (b : Nat), .int .u64 (t : Nat), .slice a l.length c] 25)).alloc (.cells #[.int .u64 0, .int .u64 0, .slice none 0 0] 25)) z) (hs : w.heap.size ≤ z.heap.size) => in_row x a2 c2 s z (((h2.keep hB).keep hz).more hs (Nat.le_refl _)))
  have he := eI_ok hk hb
  have hc2 := h2.cap
  have hl2 := h2.len
  have hlt1 : (x : Int) < (b : Int) := by omega
  have t1 : IntKind.u64.wrap ((b : Int) - (x : Int)) = ((b - x : Nat) : Int) := by unfold Lt64 at hx hb; rw [IntKind.wrap_u64]; omega
  have t2 : IntKind.u64.wrap (s.length : Int) = (s.length : Int) := by rw [IntKind.wrap_u64]; omega
  subst ha2
  rw [hj0] at t1
  have hmin : min (b - x) s.length = s.length := by omega
  have hnil : s.drop s.length = [] := List.drop_eq_nil_of_le (Nat.le_refl _)
  have n2 : (s.length : Int) ≤ (c2 : Int) := by omega
  have n4 : ¬ c2 = s.length := by omega
  have n6 : ¬ c2 - s.length = 0 := by omega
  obtain rfl : j = s.length := hj1
  have t9 := w64_ok (n := s.length) (by omega)
  have hX : jnX b x = b := by unfold jnX; first | rw [if_pos hlt] | rw [if_neg hlt]
  have hU : jnU b t x u = t := by unfold jnU; first | rw [if_pos hlt] | rw [if_neg hlt]
  have hS : jnS b x s = ([] : List En) := by unfold jnS; rw [if_pos hlt, hmin, hnil]
  obtain ⟨⟨B', T', L', F', R'⟩, hj⟩ : ∃ q, jr b t l (jnS b x s) = q := ⟨_, rfl⟩
  have hv : jv b t l x u s = (B', T', L', F', R') := by unfold jv; rw [if_neg (by rw [hk]; simp), if_neg (by rw [hr]; simp), if_pos hq, hj]
  have HP := Lib.hid (fun w' A a c => JV.of (w := w) (w' := w') (A := A) (a := a) (c := c) hv)
  have h3 : Sl w A2 w.heap.size (some (ad.add (s.length * 5))) (c2 - s.length) (([] : List En)) := Sl.empty _ _ _ _ _ (fun e => by cases e)
  have hl3 : (([] : List En)).length = 0 := rfl
  have hs3 : l.length + (([] : List En)).length ≤ 2199023255551 := Nat.le_trans (Nat.add_le_add_left (show (([] : List En)).length ≤ s.length from Nat.zero_le _) _) hs
  have hne : ∀ e ∈ (([] : List En)), e.i ≠ 0 := fun e he => row_ne hr e (absurd he (by simp))
  rw [hS] at hj
  have HJ := Lib.hid (fun z (hz : Below w.heap.size ((w.alloc (.cells #[.int .u64 (b : Nat), .int .u64 (t : Nat), .slice a l.length c] 25)).alloc (.cells #[.int .u64 0, .int .u64 0, .slice none 0 0] 25)) z) (hsz : w.heap.size ≤ z.heap.size) => (join_of b t a c l (some (ad.add (s.length * 5))) (c2 - s.length) (([] : List En)) z (((h.keep hB).keep hz).more hsz (Nat.le_refl _)) (((h3.keep hB).keep hz).more hsz (Nat.le_refl _)) he hb hs3 hne).mono fun e w' h => (⟨JoinR.open' hj h.1, h.2⟩ : JIs z B' T' L' F' R' e w' ∧ Below z.heap.size z w'))
  rw [hl3] at HJ
  rw [hX, hU] at hq
  have HRF := Lib.hid (fun z (hz : Below w.heap.size ((w.alloc (.cells #[.int .u64 (b : Nat), .int .u64 (t : Nat), .slice a l.length c] 25)).alloc (.cells #[.int .u64 0, .int .u64 0, .slice none 0 0] 25)) z) (hsz : w.heap.size ≤ z.heap.size) => refuse_of b t (b) (t) a c l z (((h.keep hB).keep hz).more hsz (Nat.le_refl _)) he hb)
  rw [hq] at HRF
  rw [hk] at HC
  rw [hr] at HI
  clear hB h h2 hb hx hs hk hr he hq hX hU hS h3 hl3 hs3 hne hj hv
  clear hlt hmin hnil
  generalize s.length = n at *
  go_enter Try.func26, Try.ntmps26
  go_wp2_with (go_at_call 22; go_loud ((with_reducible refine HC.out.mono ?_); rintro e w1 ⟨rfl, hb⟩; have HB1 := Lib.hid (HB0.out.trans (hb.mono HB0.out.size)); have HL1 := Lib.hid hb; have C1 := Lib.hid (C0.out.below hb); have R1 := Lib.hid (R0.out.below hb); obtain ⟨d10, d11, d12⟩ := C1.out.cells; obtain ⟨f10, f11, f12⟩ := C1.out.fz; obtain ⟨e10, e11, e12⟩ := R1.out.cells; obtain ⟨g10, g11, g12⟩ := R1.out.fz; clear hb))
  go_wp2_with (go_at_call 41; go_loud ((with_reducible refine (HI.out _ (HL1.out.mono HB0.out.size) HB1.out.size).mono ?_); rintro e w2 ⟨rfl, hb⟩; have HB2 := Lib.hid (HB1.out.trans (hb.mono HB1.out.size)); have HL2 := Lib.hid hb; have C2 := Lib.hid (C1.out.below hb); have R2 := Lib.hid (R1.out.below hb); obtain ⟨d20, d21, d22⟩ := C2.out.cells; obtain ⟨f20, f21, f22⟩ := C2.out.fz; obtain ⟨e20, e21, e22⟩ := R2.out.cells; obtain ⟨g20, g21, g22⟩ := R2.out.fz; clear hb))
  go_wp2
  go_quiet (fail)
  go_wp2_with (go_at_call 44; go_loud ((with_reducible refine (HRF.out _ (bdN ((HL1.out.mono HB0.out.size).trans (HL2.out.mono HB1.out.size)) _) (bdN HB2.out _).size).mono ?_); rintro e w3 ⟨rfl, hb0⟩; have hb : Below w2.heap.size w2 w3 := bdn hb0; clear hb0; have HB3 := Lib.hid (HB2.out.trans (hb.mono HB2.out.size)); have HL3 := Lib.hid hb; have C3 := Lib.hid (C2.out.below hb); have R3 := Lib.hid (R2.out.below hb); obtain ⟨d30, d31, d32⟩ := C3.out.cells; obtain ⟨f30, f31, f32⟩ := C3.out.fz; obtain ⟨e30, e31, e32⟩ := R3.out.cells; obtain ⟨g30, g31, g32⟩ := R3.out.fz; clear hb))
  go_wp2_with (go_at_call 45; go_loud ((with_reducible refine (HJ.out _ (((HL1.out.mono HB0.out.size).trans (HL2.out.mono HB1.out.size)).trans (HL3.out.mono HB2.out.size)) HB3.out.size).mono ?_); rintro e w4 ⟨⟨a4, c4, rfl, ho⟩, hb⟩; have HB4 := Lib.hid (HB3.out.trans (hb.mono HB3.out.size)); have HL4 := Lib.hid hb; have C4 := Lib.hid (C3.out.below hb); have R4 := Lib.hid (R3.out.below hb); obtain ⟨d40, d41, d42⟩ := C4.out.cells; obtain ⟨f40, f41, f42⟩ := C4.out.fz; obtain ⟨e40, e41, e42⟩ := R4.out.cells; obtain ⟨g40, g41, g42⟩ := R4.out.fz; have HO4 := Lib.hid ho; clear ho; clear hb))
  go_wp2
  refine bodyPost_log3 rfl (w.heap.size + 1) B' T' (.slice a4 L'.length c4) rfl rfl ?_ ?_
  case refine_1 => exact ((R4.out.set0 _).set1 _).set2 _
  case refine_2 => exact ⟨HP.out _ _ _ _ (((HO4.out.put (p := w.heap.size + 1) (by have := R3.out.lt; omega) 0 _).put (p := w.heap.size + 1) (by have := R3.out.lt; omega) 1 _).put (p := w.heap.size + 1) (by have := R3.out.lt; omega) 2 _) HB3.out.size, ((HB4.out.setCell (by exact Nat.le_succ _) _).setCell (by exact Nat.le_succ _) _).setCell (by exact Nat.le_succ _) _⟩
end Lo
end Go.Proofs.Ytjalmciaaenmjaa
