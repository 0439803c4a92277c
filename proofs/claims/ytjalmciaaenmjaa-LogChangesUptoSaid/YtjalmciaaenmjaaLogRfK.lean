/-
  gafferref14.Join, where something is left or not.
-/
import Derived.Test.YtjalmciaaenmjaaLogRfJ
namespace Go.Proofs.Ytjalmciaaenmjaa
open Go.RowKit Go.Lib
namespace Lo
set_option linter.unusedVariables false
theorem rf_base (b t : Nat) (l : List En) : rfE b t l b t = 0 := by
  unfold rfE
  rw [if_pos (tmE_in (Nat.le_refl _) (by omega)), if_pos (tmV_b b t l)]
theorem jr_nil (b t : Nat) (l : List En) : jr b t l [] = (b, t, l, 0, 0) := by
  unfold jr
  rw [if_pos (by rfl)]
  rfl
theorem row_le {b x : Nat} {s : List En} (hx : Lt64 x) (hr : rowB x s = true) (h : ∀ j (h : j < s.length), s[j].i ≤ b) (hlt : x < b) : x + s.length ≤ b := by
  by_cases h0 : s.length = 0
  · omega
  · have h1 := h (s.length - 1) (by omega)
    have h2 := ((row_is s x hr hx).2 (s.length - 1) (by omega)).1
    omega
theorem jv_under {b t x u : Nat} {l s : List En} (hx : Lt64 x) (hk : okB b t l = true) (hr : rowB x s = true) (h : ∀ j (h : j < s.length), s[j].i ≤ b) (hlt : x < b) : jv b t l x u s = (b, t, l, 0, 0) := by
  have h1 := row_le hx hr h hlt
  unfold jv
  rw [if_neg (by rw [hk]; simp), if_neg (by rw [hr]; simp), show jnX b x = b from if_pos hlt, show jnU b t x u = t from if_pos hlt, if_pos (rf_base b t l), show jnS b x s = [] by unfold jnS; rw [if_pos hlt]; exact List.drop_eq_nil_of_le (by omega), jr_nil]
theorem jv_at {b t x u X U : Nat} {l s : List En} (hx : Lt64 x) (hk : okB b t l = true) (hr : rowB x s = true) (h : ∀ j (h : j < s.length), s[j].i ≤ b) {j : Nat} (hj : j = s.length) (hX : X = x + j) (hU : U = if j = 0 then u else t) (hXb : ¬ X < b) :
    jv b t l x u s = if rfE b t l X U = 0 then (b, t, l, 0, 0) else (0, 0, [], 0, rfE b t l X U) := by
  by_cases hlt : x < b
  · have h1 := row_le hx hr h hlt
    obtain rfl : X = b := by omega
    obtain rfl : U = t := by rw [hU, if_neg (by omega)]
    rw [jv_under hx hk hr h hlt, if_pos (rf_base _ _ _)]
  · have h0 : s = [] := by
      apply List.eq_nil_of_length_eq_zero
      apply Nat.eq_zero_of_not_pos
      intro hp
      have h1 := h 0 hp
      have h2 := ((row_is s x hr hx).2 0 hp).1
      omega
    subst h0
    have hj0 : j = 0 := hj
    subst hj0
    obtain rfl : X = x := hX
    obtain rfl : U = u := hU
    unfold jv
    rw [if_neg (by rw [hk]; simp), if_neg (by rw [hr]; simp), show jnX b X = X from if_neg hlt, show jnU b t X U = U from if_neg hlt, show jnS b X ([] : List En) = [] by unfold jnS; rw [if_neg hlt], jr_nil]
set_option maxHeartbeats 16000000 in
set_option maxRecDepth 100000 in
theorem ref_join_none (b t x u : Nat) (a : Option Addr) (c : Nat) (l : List En) (a2 : Option Addr) (c2 : Nat) (s : List En) (w : World) {A A2 : Nat} (h : Sl w A w.heap.size a c l) (h2 : Sl w A2 w.heap.size a2 c2 s) (hb : Lt64 b) (hx : Lt64 x) (hs : l.length + s.length ≤ 2199023255551) (hk : okB b t l = true) (hr : rowB x s = true) (J : Nat) (hJ : J = s.length) (hJ2 : ∀ j (h : j < s.length), s[j].i ≤ b) :
    Calls Try.prog 27 #[.agg #[.int .u64 (b : Nat), .int .u64 (t : Nat), .slice a l.length c], .int .u64 (x : Nat), .int .u64 (u : Nat), .slice a2 s.length c2] w fun e w' => JO (jv b t l x u s) e w' ∧ Below w.heap.size w w' := by
  have hB : Below w.heap.size w ((w.alloc (.cells #[.int .u64 (b : Nat), .int .u64 (t : Nat), .slice a l.length c] 25)).alloc (.cells #[.int .u64 0, .int .u64 0, .slice none 0 0] 25)) := ((Below.refl _ _).alloc (Nat.le_refl _) _).alloc (by simp) _
  have HB0 := Lib.hid hB
  have C0 := Lib.hid ((Bx3.made w (.int .u64 (b : Nat)) (.int .u64 (t : Nat)) (.slice a l.length c) 25).al (.cells #[.int .u64 0, .int .u64 0, .slice none 0 0] 25))
  have R0 := Lib.hid (show Bx3 ((w.alloc (.cells #[.int .u64 (b : Nat), .int .u64 (t : Nat), .slice a l.length c] 25)).alloc (.cells #[.int .u64 0, .int .u64 0, .slice none 0 0] 25)) (w.heap.size + 1) (.int .u64 0) (.int .u64 0) (.slice none 0 0) by have h9 := Bx3.made (w.alloc (.cells #[.int .u64 (b : Nat), .int .u64 (t : Nat), .slice a l.length c] 25)) (.int .u64 0) (.int .u64 0) (.slice none 0 0) 25; rw [World.size_alloc] at h9; exact h9)
  have HC := Lib.hid (check_log b t a c l _ (h.on hB) hb)
  have HSL := Lib.hid (fun z (hz : Below w.heap.size w z) => (h.keep hz).more hz.size (Nat.zero_le A))
  have HS2 := Lib.hid (fun z (hz : Below w.heap.size w z) => h2.keep hz)
  have HSS := Lib.hid (fun z (hz : Below w.heap.size w z) => (h2.keep hz).more (Nat.le_refl _) (Nat.zero_le A2))
  have HLN := Lib.hid h2.len
  have HLL := Lib.hid h.len
  have HROW := Lib.hid (row_is s x hr hx)
  have HXL := Lib.hid (row_is s x hr hx).1
  unfold Lt64 at HXL
  have HE := Lib.hid (eI_ok hk hb)
  have HBX := Lib.hid hb
  have HJ : Hid (J ≤ s.length ∧ ∀ j, j < J → ∀ (h : j < s.length), s[j].i ≤ b) := ⟨by omega, fun j _ h => hJ2 j h⟩
  have HJS := Lib.hid hJ
  have HJA : Hid (x < b → jv b t l x u s = (b, t, l, 0, 0)) := fun hlt => jv_under hx hk hr hJ2 hlt
  have HJB : Hid (∀ X U, X = x + J → U = (if J = 0 then u else t) → ¬ X < b → jv b t l x u s = if rfE b t l X U = 0 then (b, t, l, 0, 0) else (0, 0, [], 0, rfE b t l X U)) := fun X U hX hU hXb => jv_at hx hk hr hJ2 hJ hX hU hXb
  rw [hk, lgE_t] at HC
  clear hB h h2 hs
  go_enter Try.func27, Try.ntmps27
  go_wp2_with (go_at_call 23; go_loud ((with_reducible refine HC.out.mono ?_); rintro e w1 ⟨rfl, hb⟩; have HB1 := Lib.hid (HB0.out.trans (hb.mono HB0.out.size)); have HL1 := Lib.hid hb; have C1 := Lib.hid (C0.out.below hb); have R1 := Lib.hid (R0.out.below hb); obtain ⟨d10, d11, d12⟩ := C1.out.cells; obtain ⟨f10, f11, f12⟩ := C1.out.fz; obtain ⟨e10, e11, e12⟩ := R1.out.cells; obtain ⟨g10, g11, g12⟩ := R1.out.fz; clear hb))
  go_wp2
  go_loopg [23] s.length (fun gg i wx => ∃ k : Nat, k + gg = s.length ∧ i = .int .i64 k ∧ Aside (Below w1.heap.size w1 wx))
  case atStart => exact ⟨0, by omega, rfl, Below.refl _ _⟩
  case round =>
    obtain ⟨k, hkg, rfl, HBW⟩ := hrel
    cases gk with
    | zero =>
      obtain rfl : k = s.length := by omega
      clear hkg
      have HB2 := Lib.hid (HB1.out.trans (HBW.out.mono HB1.out.size))
      have C2 := Lib.hid (C1.out.below HBW.out)
      have R2 := Lib.hid (R1.out.below HBW.out)
      obtain ⟨d20, d21, d22⟩ := C2.out.cells
      obtain ⟨f20, f21, f22⟩ := C2.out.fz
      have HPB := Lib.hid (show w.heap.size + 1 < wr.heap.size from R2.out.lt)
      have HG0 := Lib.hid (copy_gr b t a c l wr (A := 0) (HSL.out _ HB2.out))
      go_wp2_with (go_at_call 24; go_loud ((with_reducible refine HG0.out.mono ?_); rintro e w3 ⟨⟨a3, c3, rfl, hg⟩, hb⟩; have HB3 := Lib.hid (HB2.out.trans (hb.mono HB2.out.size)); have C3 := Lib.hid (C2.out.below hb); have R3 := Lib.hid (R2.out.below hb); obtain ⟨d30, d31, d32⟩ := C3.out.cells; obtain ⟨f30, f31, f32⟩ := C3.out.fz; have HG3 := Lib.hid hg; have HZ3 := Lib.hid hb.size; clear hg hb))
      have C4 := Lib.hid (((C3.out.set0 (.int .u64 (b : Nat))).set1 (.int .u64 (t : Nat))).set2 (.slice a3 l.length c3))
      have R4 := Lib.hid (((R3.out.far (p := w.heap.size) (by omega) 0 (.int .u64 (b : Nat))).far (p := w.heap.size) (by omega) 1 (.int .u64 (t : Nat))).far (p := w.heap.size) (by omega) 2 (.slice a3 l.length c3))
      have HB4 := Lib.hid (((HB3.out.setCell (p := ⟨w.heap.size, 0, none⟩) (by exact Nat.le_refl _) (.int .u64 (b : Nat))).setCell (p := ⟨w.heap.size, 1, none⟩) (by exact Nat.le_refl _) (.int .u64 (t : Nat))).setCell (p := ⟨w.heap.size, 2, none⟩) (by exact Nat.le_refl _) (.slice a3 l.length c3))
      have HG4 := Lib.hid (((HG3.out.put (p := w.heap.size) (by have := HPB.out; omega) (by have := C3.out.lt; omega) 0 (.int .u64 (b : Nat))).put (p := w.heap.size) (by have := HPB.out; omega) (by have := C3.out.lt; simp; omega) 1 (.int .u64 (t : Nat))).put (p := w.heap.size) (by have := HPB.out; omega) (by have := C3.out.lt; simp; omega) 2 (.slice a3 l.length c3))
      have HZ4 : Hid (wr.heap.size ≤ (((w3.setCell ⟨w.heap.size, 0, none⟩ (.int .u64 (b : Nat))).setCell ⟨w.heap.size, 1, none⟩ (.int .u64 (t : Nat))).setCell ⟨w.heap.size, 2, none⟩ (.slice a3 l.length c3)).heap.size) := by show _ ≤ _; simp; exact HZ3.out
      generalize ((w3.setCell ⟨w.heap.size, 0, none⟩ (.int .u64 (b : Nat))).setCell ⟨w.heap.size, 1, none⟩ (.int .u64 (t : Nat))).setCell ⟨w.heap.size, 2, none⟩ (.slice a3 l.length c3) = w4 at *
      generalize wr.heap.size = base at *
      clear d20 d21 d22 f20 f21 f22 d30 d31 d32 f30 f31 f32 C3 R3 HB3 HG3 HG0 C2 R2
      go_loopg [1, 2, 3] J (fun gg iv tv sv wx => ∃ (j : Nat) (av : Option Addr) (cv n X U : Nat), j + gg = J ∧ iv = .int .u64 (X : Nat) ∧ tv = .int .u64 (U : Nat) ∧ sv = .slice av n cv ∧ Aside (X = x + j ∧ U = (if j = 0 then u else t) ∧ n = s.length - j) ∧ Aside (Below w4.heap.size w4 wx) ∧ Aside (Sl wx 0 w.heap.size av cv (s.drop j)))
      case atStart => exact ⟨0, _, _, _, x, u, by omega, rfl, rfl, rfl, ⟨rfl, rfl, rfl⟩, Below.refl _ _, HSS.out _ HB4.out⟩
      case round =>
        obtain ⟨j, av, cv, n, X, U, hjg, rfl, rfl, rfl, HV, HBW2, HSJ⟩ := hrel
        have C5 := Lib.hid (C4.out.below HBW2.out)
        have R5 := Lib.hid (R4.out.below HBW2.out)
        obtain ⟨d50, d51, d52⟩ := C5.out.cells
        cases gk with
        | zero =>
          obtain rfl : j = J := by omega
          clear hjg
          obtain ⟨e50, e51, e52⟩ := R5.out.cells
          obtain ⟨g50, g51, g52⟩ := R5.out.fz
          have HG5 := Lib.hid (HG4.out.below HBW2.out)
          have HB5 := Lib.hid (HB4.out.trans (HBW2.out.mono HB4.out.size))
          have HZ5 := Lib.hid (Nat.le_trans HZ4.out HBW2.out.size)
          clear C4 R4 HG4 HB4
          have hn0 : n = 0 := by have := HV.out.2.2; have := HJS.out; omega
          subst hn0
          have hX := HV.out.1
          have hU := HV.out.2.1
          have HLA : Hid (∀ z, Below wr.heap.size wr z → Calls Try.prog 32 #[.agg #[.int .u64 (b : Nat), .int .u64 (t : Nat), .slice a3 l.length c3]] z fun e w' => e = .returned (.tuple #[.int .u64 (eI b l : Nat), .int .u64 (eT t l : Nat)]) ∧ Below z.heap.size z w') := fun z hz => last_log b t a3 c3 l z (A := 0) ((HG5.out.below hz).sl HLL.out)
          rw [HE.out] at HLA
          by_cases hXb : X < b
          · have t1 : decide (X < b) = true := by simpa using hXb
            have t2 : (X : Int) < (b : Int) := by omega
            have HPY := Lib.hid (fun w' a c hs => JO.of (q := jv b t l x u s) (w' := w') (a := a) (c := c) (F := 0) (R := 0) (HJA.out (by omega)) rfl hs)
            clear hX hU hXb HLA
            go_wp2
            go_quiet (fail)
            go_wp2
            refine bodyPost_log3 rfl (w.heap.size + 1) b t (.slice a3 l.length c3) rfl rfl ?_ ?_
            case refine_1 => exact (((R5.out.dn nq).set0 _).set1 _).set2 _
            case refine_2 =>
              have hz := (R5.out.dn nq).lt
              have h9 := ((((HG5.out.below (bdN (Below.refl wr.heap.size wr) nq)).put (p := w.heap.size + 1) HPB.out hz 0 (.int .u64 (b : Nat))).put (p := w.heap.size + 1) HPB.out (by simpa using hz) 1 (.int .u64 (t : Nat))).put (p := w.heap.size + 1) HPB.out (by simpa using hz) 2 (.slice a3 l.length c3))
              exact ⟨HPY.out _ _ _ (h9.sl HLL.out), (((HB5.out.trans ((bdN (Below.refl wr.heap.size wr) nq).mono HB5.out.size)).setCell (by exact Nat.le_succ _) _).setCell (by exact Nat.le_succ _) _).setCell (by exact Nat.le_succ _) _⟩
          · have t1 : decide (X < b) = false := by simpa using hXb
            have t2 : ¬ (X : Int) < (b : Int) := by omega
            have HJV := Lib.hid (HJB.out X U hX hU hXb)
            have hx64 : Lt64 X := by have := HXL.out; have := HJS.out; unfold Lt64; omega
            generalize eT t l = yt at *
            by_cases h6 : b + l.length < X
            · have u1 : decide (b + l.length < X) = true := by simpa using h6
              have u2 : ((b + l.length : Nat) : Int) < (X : Int) := by omega
              have hr6 : rfE b t l X U = 6 := by unfold rfE tmE; rw [if_neg (by rw [if_neg hXb, if_pos h6]; decide), if_neg hXb, if_pos h6]
              have HP := Lib.hid (fun w' => JO.no (q := jv b t l x u s) (R := 6) (by rw [HJV.out, hr6]; rfl) w')
              obtain ⟨y, hy⟩ : ∃ y, b + l.length = y := ⟨_, rfl⟩
              rw [hy] at u1 u2 HLA
              clear hX hU hXb hr6 h6 hy hx64
              go_wp2
              go_quiet (fail)
              go_wp2_with (go_at_call 32; go_loud ((with_reducible refine (HLA.out _ (bdN (Below.refl wr.heap.size wr) nq)).mono ?_); rintro e w6 ⟨rfl, hb⟩; have HW6 := Lib.hid ((bdN (Below.refl wr.heap.size wr) nq).trans (hb.mono (bdN (Below.refl wr.heap.size wr) nq).size)); have C6 := Lib.hid ((C5.out.dn nq).below hb); have R6 := Lib.hid ((R5.out.dn nq).below hb); obtain ⟨d60, d61, d62⟩ := C6.out.cells; obtain ⟨e60, e61, e62⟩ := R6.out.cells; obtain ⟨g60, g61, g62⟩ := R6.out.fz; clear hb))
              go_wp2
              refine bodyPost_log3 rfl (w.heap.size + 1) 0 0 (.slice none 0 0) rfl rfl ?_ ?_
              case refine_1 => exact (((R6.out).set0 _).set1 _).set2 _
              case refine_2 => exact ⟨HP.out _, (((HB5.out.trans ((HW6.out).mono HB5.out.size)).setCell (by exact Nat.le_succ _) _).setCell (by exact Nat.le_succ _) _).setCell (by exact Nat.le_succ _) _⟩
            · have u1 : decide (b + l.length < X) = false := by simpa using h6
              have u2 : ¬ ((b + l.length : Nat) : Int) < (X : Int) := by omega
              have HAT : Hid (∀ z, Below wr.heap.size wr z → Calls Try.prog 34 #[.agg #[.int .u64 (b : Nat), .int .u64 (t : Nat), .slice a3 l.length c3], .int .u64 (X : Nat)] z fun e w' => e = .returned (.int .u64 (tmV b t l X : Nat)) ∧ Below z.heap.size z w') := fun z hz => at_log b t X a3 c3 l z (A := 0) ((HG5.out.below hz).sl HLL.out) (by omega) (by omega) hx64
              have hrf : rfE b t l X U = if tmV b t l X = U then 0 else 18 := by unfold rfE; rw [if_pos (tmE_in (by omega) (by omega))]
              rw [hrf] at HJV
              generalize tmV b t l X = tv at *
              obtain ⟨y, hy⟩ : ∃ y, b + l.length = y := ⟨_, rfl⟩
              rw [hy] at u1 u2 HLA
              by_cases h7 : tv = U
              · subst h7
                have v1 : ((tv : Int) != (tv : Int)) = false := by simp
                have HPY := Lib.hid (fun w' a c hs => JO.of (q := jv b t l x u s) (w' := w') (a := a) (c := c) (B := b) (T := t) (L := l) (F := 0) (R := 0) (by rw [HJV.out, if_pos (if_pos rfl)]) rfl hs)
                clear hX hU hXb hrf h6 hy hx64 HJV
                go_wp2
                go_quiet (fail)
                go_wp2_with (go_at_call 32; go_loud ((with_reducible refine (HLA.out _ (bdN (Below.refl wr.heap.size wr) nq)).mono ?_); rintro e w6 ⟨rfl, hb⟩; have HW6 := Lib.hid ((bdN (Below.refl wr.heap.size wr) nq).trans (hb.mono (bdN (Below.refl wr.heap.size wr) nq).size)); have C6 := Lib.hid ((C5.out.dn nq).below hb); have R6 := Lib.hid ((R5.out.dn nq).below hb); obtain ⟨d60, d61, d62⟩ := C6.out.cells; obtain ⟨e60, e61, e62⟩ := R6.out.cells; obtain ⟨g60, g61, g62⟩ := R6.out.fz; clear hb))
                go_wp2_with (go_at_call 34; go_loud ((with_reducible refine (HAT.out _ HW6.out).mono ?_); rintro e w7 ⟨rfl, hb⟩; have HW7 := Lib.hid (HW6.out.trans (hb.mono HW6.out.size)); have C7 := Lib.hid (C6.out.below hb); have R7 := Lib.hid (R6.out.below hb); obtain ⟨d70, d71, d72⟩ := C7.out.cells; obtain ⟨e70, e71, e72⟩ := R7.out.cells; obtain ⟨g70, g71, g72⟩ := R7.out.fz; clear hb))
                go_wp2
                go_loopg [93] 0 (fun gg i wx => gg = 0 ∧ i = .int .i64 0 ∧ wx = w7)
                case atStart => exact ⟨rfl, rfl, rfl⟩
                case round =>
                  obtain ⟨hgg, rfl, rfl⟩ := hrel
                  cases gk with
                  | succ gg => exact absurd hgg (by simp)
                  | zero =>
                    clear hgg
                    go_wp2
                    refine bodyPost_log3 rfl (w.heap.size + 1) b t (.slice a3 l.length c3) rfl rfl ?_ ?_
                    case refine_1 => exact (((R7.out).set0 _).set1 _).set2 _
                    case refine_2 =>
                      have hz := (R7.out).lt
                      have h9 := ((((HG5.out.below (HW7.out)).put (p := w.heap.size + 1) HPB.out hz 0 (.int .u64 (b : Nat))).put (p := w.heap.size + 1) HPB.out (by simpa using hz) 1 (.int .u64 (t : Nat))).put (p := w.heap.size + 1) HPB.out (by simpa using hz) 2 (.slice a3 l.length c3))
                      exact ⟨HPY.out _ _ _ (h9.sl HLL.out), (((HB5.out.trans ((HW7.out).mono HB5.out.size)).setCell (by exact Nat.le_succ _) _).setCell (by exact Nat.le_succ _) _).setCell (by exact Nat.le_succ _) _⟩
              · have v1 : ((tv : Int) != (U : Int)) = true := by simp; omega
                have v2 : ¬ (tv : Int) = (U : Int) := by omega
                have v3 : (tv == U) = false := by simp; omega
                have v4 : (tv != U) = true := by simp; omega
                have HP := Lib.hid (fun w' => JO.no (q := jv b t l x u s) (R := 18) (by rw [HJV.out, if_neg h7]; rfl) w')
                clear hX hU hXb hrf h6 h7 hy hx64 HJV
                go_wp2
                go_quiet (fail)
                go_wp2_with (go_at_call 32; go_loud ((with_reducible refine (HLA.out _ (bdN (Below.refl wr.heap.size wr) nq)).mono ?_); rintro e w6 ⟨rfl, hb⟩; have HW6 := Lib.hid ((bdN (Below.refl wr.heap.size wr) nq).trans (hb.mono (bdN (Below.refl wr.heap.size wr) nq).size)); have C6 := Lib.hid ((C5.out.dn nq).below hb); have R6 := Lib.hid ((R5.out.dn nq).below hb); obtain ⟨d60, d61, d62⟩ := C6.out.cells; obtain ⟨e60, e61, e62⟩ := R6.out.cells; obtain ⟨g60, g61, g62⟩ := R6.out.fz; clear hb))
                go_wp2_with (go_at_call 34; go_loud ((with_reducible refine (HAT.out _ HW6.out).mono ?_); rintro e w7 ⟨rfl, hb⟩; have HW7 := Lib.hid (HW6.out.trans (hb.mono HW6.out.size)); have C7 := Lib.hid (C6.out.below hb); have R7 := Lib.hid (R6.out.below hb); obtain ⟨d70, d71, d72⟩ := C7.out.cells; obtain ⟨e70, e71, e72⟩ := R7.out.cells; obtain ⟨g70, g71, g72⟩ := R7.out.fz; clear hb))
                go_wp2
                refine bodyPost_log3 rfl (w.heap.size + 1) 0 0 (.slice none 0 0) rfl rfl ?_ ?_
                case refine_1 => exact (((R7.out).set0 _).set1 _).set2 _
                case refine_2 => exact ⟨HP.out _, (((HB5.out.trans ((HW7.out).mono HB5.out.size)).setCell (by exact Nat.le_succ _) _).setCell (by exact Nat.le_succ _) _).setCell (by exact Nat.le_succ _) _⟩
        | succ gg =>
          have hjs : j < s.length := by have := HJ.out.1; omega
          have hei := (HROW.out.2 j hjs).1
          have hib : s[j].i ≤ b := HJ.out.2 j (by omega) hjs
          obtain ⟨blk, off, rfl, -, hbk, ue, hc⟩ := HSJ.out.at 0 (by rw [List.length_drop]; omega)
          have c0 := hc.c0
          have e0 : (s.drop j)[0]'(by rw [List.length_drop]; omega) = s[j] := by rw [List.getElem_drop]; rfl
          rw [e0, Nat.zero_mul, Nat.add_zero] at c0
          clear hc e0
          generalize s[j].i = ei at *
          have hn := HV.out.2.2
          have hcp := HSJ.out.cap
          rw [List.length_drop] at hcp
          have n0 : (0 : Int) < (n : Int) := by omega
          have n0' : 0 < n := by omega
          have n0'' : decide (0 < n) = true := by simp; omega
          have n1 : (1 : Int) ≤ (n : Int) := by omega
          have n2 : (n : Int) ≤ (cv : Int) := by omega
          have n3 : (1 : Int) ≤ (cv : Int) := by omega
          have t1 : decide (ei ≤ b) = true := by simp; omega
          have t2 : (ei : Int) ≤ (b : Int) := by omega
          have HVN : Hid (ei = x + (j + 1) ∧ t = (if j + 1 = 0 then u else t) ∧ n - 1 = s.length - (j + 1)) := ⟨by omega, by rw [if_neg (by omega)], by omega⟩
          have HP1 := Lib.hid (HSJ.out.path 1 (by rw [List.length_drop]; omega))
          rw [List.drop_drop, Addr.add_lit] at HP1
          have HJG := Lib.hid hjg
          by_cases hcv : cv = 1
          · have hn1 : n = 1 := by omega
            subst hcv hn1
            have HSN : Hid (∀ z, Sl z 0 w.heap.size (some ⟨blk, off, none⟩) 0 (s.drop (j + 1))) := fun z => by
              rw [List.drop_eq_nil_of_le (by omega)]
              exact Sl.empty _ _ _ _ _ (fun e => by cases e)
            clear hjg hn hcp hib hjs hei
            go_wp2
            go_quiet (fail)
            go_wp2
            go_roundg gg
            case measure => have := HJG.out; omega
            case rel => exact ⟨j + 1, _, _, _, ei, t, by have := HJG.out; omega, rfl, rfl, rfl, HVN.out, bdN HBW2.out _, HSN.out _⟩
          · have n4 : ¬ cv = 1 := hcv
            have n5 : ¬ cv - 1 = 0 := by omega
            clear hjg hn hcp hib hjs hei hcv
            go_wp2
            go_quiet (fail)
            go_wp2
            go_roundg gg
            case measure => have := HJG.out; omega
            case rel => exact ⟨j + 1, _, _, _, ei, t, by have := HJG.out; omega, rfl, rfl, rfl, HVN.out, bdN HBW2.out _, HP1.out.keep (bdN (Below.refl _ _) _)⟩
    | succ gg =>
      have hlt : k < s.length := by omega
      have hlt2 : (k : Int) < (s.length : Int) := by omega
      have hbx := HBW.out
      obtain ⟨blk, off, rfl, -, hbk, ue, hc⟩ := (HS2.out _ (HB1.out.trans (hbx.mono HB1.out.size))).at k hlt
      obtain ⟨c0, c1, c2', c3', c4, iv, i64, t64⟩ := hc
      obtain ⟨ua, uc, rfl⟩ := iv.slice
      have HK := Lib.hid hkg
      have IV := Lib.hid iv
      have I64 := Lib.hid i64
      have tk : IntKind.i64.wrap ((k : Int) + 1) = (k : Int) + 1 := by have := HLN.out; rw [IntKind.wrap_i64]; omega
      have tku : IntKind.u64.wrap (k : Int) = (k : Int) := by have := HLN.out; rw [IntKind.wrap_u64]; omega
      have HI := Lib.hid (HROW.out.2 k hlt)
      clear hkg hbx iv i64 t64
      generalize s[k] = e at *
      rcases e with ⟨ei, et, ek, ed, eks⟩
      simp only at c0 c1 c2' c3' c4 HI IV I64
      have ha : Below wr.heap.size wr (wr.alloc (.cells #[.int .u64 (ei : Nat), .int .u64 (et : Nat), .int .u8 (ek : Nat), .string ed, .slice ua eks.length uc] 53)) := ((Below.refl _ _).alloc (Nat.le_refl _) _)
      have HZ := HBW.out.size
      have HWZ : w.heap.size ≤ wr.heap.size := Nat.le_trans HB1.out.size HZ
      have HCE := Lib.hid (check_ref ei et ek ed eks (.slice ua eks.length uc) (wr.alloc (.cells #[.int .u64 (ei : Nat), .int .u64 (et : Nat), .int .u8 (ek : Nat), .string ed, .slice ua eks.length uc] 53)) (A := 0) ((IV.out.keep (ha.mono HWZ)).more (Nat.le_trans HWZ ha.size) (Nat.zero_le _)))
      have HNE : Hid (Eb (wr.alloc (.cells #[.int .u64 (ei : Nat), .int .u64 (et : Nat), .int .u8 (ek : Nat), .string ed, .slice ua eks.length uc] 53)) wr.heap.size ⟨ei, et, ek, ed, eks⟩ (.slice ua eks.length uc)) := heap_alloc_new wr _
      have HA1 := Lib.hid (HBW.out.trans (ha.mono HZ))
      have HAS := Lib.hid ha.size
      clear ha
      have h1 := HI.out.2
      have hei := HI.out.1
      have hxl := HXL.out
      rw [h1] at HCE
      have hk41 := HLN.out
      obtain ⟨y, hy⟩ : ∃ y, x + 1 = y := ⟨_, rfl⟩
      have x1 : IntKind.u64.wrap ((ei : Int) - (k : Int)) = (y : Int) := by rw [IntKind.wrap_u64]; omega
      have x2 : IntKind.u64.wrap ((y : Int) - 1) = (x : Int) := by rw [IntKind.wrap_u64]; omega
      have y1 : ((x : Int) != (x : Int)) = false := by simp
      have y2 : ¬ (ei : Int) ≤ (x : Int) := by omega
      have y3 : decide ((ei : Int) ≤ (x : Int)) = false := by simp; omega
      have y4 : decide (ei ≤ x) = false := by simp; omega
      clear h1 hei hxl hk41 hy HI
      go_wp2_with (go_at_call 43; go_loud ((with_reducible refine HCE.out.mono ?_); rintro e w2 ⟨rfl, hb⟩; have HB2 := Lib.hid (HA1.out.trans (hb.mono (Nat.le_trans HZ HAS.out))); have E1 : Eb w2 wr.heap.size ⟨ei, et, ek, ed, eks⟩ (.slice ua eks.length uc) := heap_oldR hb HNE.out; obtain ⟨g0, g1, -⟩ := E1.cells; have HBA := Lib.hid (HB1.out.trans (HB2.out.mono HB1.out.size)); have R9 := Lib.hid (R1.out.below HB2.out); obtain ⟨e90, e91, e92⟩ := R9.out.cells; obtain ⟨g90, g91, g92⟩ := R9.out.fz; clear hb E1))
      go_wp2
      go_roundg gg
      case measure => have := HK.out; omega
      case rel => exact ⟨k + 1, by have := HK.out; omega, by simp, HB2.out⟩
end Lo
end Go.Proofs.Ytjalmciaaenmjaa
