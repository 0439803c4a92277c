/-
  LogChanges: whatever a log is, entries are joined, and trimmed.
-/
import Derived.Test.YtjalmciaaenmjaaLogRfL
import Derived.Test.YtjalmciaaenmjaaLogLive
import Derived.Test.YtjalmciaaenmjaaLogSame
import Derived.Test.YtjalmciaaenmjaaLogArg
namespace Go.Proofs.Ytjalmciaaenmjaa
open Go.RowKit Go.Lib
namespace Lo
set_option linter.unusedVariables false
theorem first_over (s : List En) (b : Nat) : (∀ j (h : j < s.length), s[j].i ≤ b) ∨ ∃ J, ∃ h : J < s.length, (∀ j, j < J → ∀ (h : j < s.length), s[j].i ≤ b) ∧ b < s[J].i := by
  by_cases hall : ∀ j (h : j < s.length), s[j].i ≤ b
  · exact .inl hall
  · right
    have hex : ∃ J, ∃ h : J < s.length, b < s[J].i := by
      apply Classical.byContradiction
      intro hn
      exact hall fun j hj => Nat.le_of_not_lt fun hlt => hn ⟨j, hj, hlt⟩
    have key : ∀ n J, J ≤ n → (∃ h : J < s.length, b < s[J].i) → ∃ J, ∃ h : J < s.length, (∀ j, j < J → ∀ (h : j < s.length), s[j].i ≤ b) ∧ b < s[J].i := by
      intro n
      induction n with
      | zero =>
        intro J hJ ⟨h, hb⟩
        obtain rfl : J = 0 := by omega
        exact ⟨0, h, fun j hj => by omega, hb⟩
      | succ n ih =>
        intro J hJ ⟨h, hb⟩
        by_cases hlow : ∃ j, j < J ∧ ∃ h : j < s.length, b < s[j].i
        · obtain ⟨j, hj, h2⟩ := hlow
          exact ih j (by omega) h2
        · exact ⟨J, h, fun j hj hjs => Nat.le_of_not_lt fun hlt => hlow ⟨j, hj, hjs, hlt⟩, hb⟩
    obtain ⟨J, hJ⟩ := hex
    exact key J J (Nat.le_refl _) hJ
theorem ref_join (b t x u : Nat) (a : Option Addr) (c : Nat) (l : List En) (a2 : Option Addr) (c2 : Nat) (s : List En) (w : World) {A A2 : Nat} (h : Sl w A w.heap.size a c l) (h2 : Sl w A2 w.heap.size a2 c2 s) (hb : Lt64 b) (hx : Lt64 x) (hs : l.length + s.length ≤ 2199023255551) :
    Calls Try.prog 27 #[.agg #[.int .u64 (b : Nat), .int .u64 (t : Nat), .slice a l.length c], .int .u64 (x : Nat), .int .u64 (u : Nat), .slice a2 s.length c2] w fun e w' => JO (jv b t l x u s) e w' ∧ Below w.heap.size w w' := by
  cases hk : okB b t l
  · exact ref_join_bad b t x u a c l a2 c2 s w h h2 hb hx hs hk
  · cases hr : rowB x s
    · exact ref_join_row b t x u a c l a2 c2 s w h h2 hb hx hs hk hr
    · rcases first_over s b with hall | ⟨J, hJ, h1, h3⟩
      · exact ref_join_none b t x u a c l a2 c2 s w h h2 hb hx hs hk hr s.length rfl hall
      · exact ref_join_left b t x u a c l a2 c2 s w h h2 hb hx hs hk hr J hJ h1 h3
set_option maxHeartbeats 16000000 in
set_option maxRecDepth 100000 in
theorem logChanges (v : Value) (x : Lg) (ix te up : Int) (u : Value) (y : Option Addr × Nat × List En) (w : World) (hx : LogA w v x) (hi : (Lit.int .u64 ix).wf = true) (ht : (Lit.int .u64 te).wf = true) (hp : (Lit.int .u64 up).wf = true)
    (hy : u = .slice y.1 y.2.2.length y.2.1 ∧ Sl w 0 w.heap.size y.1 y.2.1 y.2.2) (hsum : x.l.length + y.2.2.length ≤ 1048576) :
    Calls Try.prog 4 #[v, .int .u64 ix, .int .u64 te, u, .int .u64 up] w fun e w' => e = .returned (.bool true) ∧ Below w.heap.size w w' := by
  obtain ⟨ix, rfl, hix⟩ := u64_of hi
  obtain ⟨te, rfl, hte⟩ := u64_of ht
  obtain ⟨up, rfl, hup⟩ := u64_of hp
  obtain ⟨b, t, a, c, l⟩ := x
  obtain ⟨rfl, hs, hb, htt⟩ := hx
  obtain ⟨ya, yc, s⟩ := y
  obtain ⟨rfl, hy⟩ := hy
  simp only at hs hb htt hy hsum ⊢
  have hB : Below w.heap.size w (w.alloc (.cells #[.int .u64 (b : Nat), .int .u64 (t : Nat), .slice a l.length c] 25)) := (Below.refl _ _).alloc (Nat.le_refl _) _
  have HB0 := Lib.hid hB
  have C0 := Lib.hid (Bx3.made w (.int .u64 (b : Nat)) (.int .u64 (t : Nat)) (.slice a l.length c) 25)
  have S0 := Lib.hid (hs.on hB)
  have Y0 := Lib.hid (hy.on hB)
  have KL := Lib.hid lives_true
  have KC := Lib.hid (fun z h => copy_gr b t a c l z (A := 0) h)
  have KE := Lib.hid (fun z h => copy_ents ya yc s z (A := 0) h)
  have KJ := Lib.hid (fun a1 c1 a2 c2 z h h2 => the_join b t ix te a1 c1 l a2 c2 s z (A := 0) (A2 := 0) h h2 hb hix (by omega))
  have KR := Lib.hid (fun z h h2 => ref_join b t ix te a c l ya yc s z (A := 0) (A2 := 0) h h2 hb hix (by omega))
  have KT := Lib.hid (fun a1 c1 z h => the_trim b t up a1 c1 l z (A := 0) h hb hup)
  have KU := Lib.hid (fun z h => trim_ref b t up a c l z (A := 0) h hb hup)
  have HLS := Lib.hid hs.len
  have HLY := Lib.hid hy.len
  unfold JV JIs at KJ
  unfold JO at KR
  unfold TrimIs at KT
  unfold TrR at KU
  generalize jv b t l ix te s = qq at *
  obtain ⟨B, T, L, F, R⟩ := qq
  generalize trB b t l up = B2 at *
  generalize trT b t l up = T2 at *
  generalize trE b t l up = R2 at *
  generalize trL b t l up = L2 at *
  simp only at KJ KR KT KU
  have KS1 := Lib.hid (fun a1 c1 a2 c2 z h h2 => same_log B T a1 c1 L B T a2 c2 L z (A := 0) (A2 := 0) h h2)
  have KS2 := Lib.hid (fun a1 c1 a2 c2 z h h2 => same_log B2 T2 a1 c1 L2 B2 T2 a2 c2 L2 z (A := 0) (A2 := 0) h h2)
  have KS3 := Lib.hid (fun a1 c1 z h h2 => same_log b t a1 c1 l b t a c l z (A := 0) (A2 := 0) h h2)
  have KS4 := Lib.hid (fun a1 c1 z h h2 => same_ents a1 c1 s ya yc s z (A := 0) (A2 := 0) h h2)
  rw [sameG_self] at KS1 KS2 KS3
  rw [sameL_self] at KS4
  clear hB hs hy hix hte hup hb htt hsum
  go_enter Try.func4, Try.ntmps4
  go_upto_region 1 with fail
  generalize (w.alloc (.cells #[.int .u64 (b : Nat), .int .u64 (t : Nat), .slice a l.length c] 25)) = w0 at *
  obtain ⟨ca0, cb0, cc0⟩ := C0.out.cells
  go_upto_region 2 with (first | (go_at_call 24; go_loud ((with_reducible refine (KC.out _ S0.out).mono ?_); rintro e w1 ⟨⟨a1, c1, rfl, hG⟩, hb⟩; have HB1 := Lib.hid (HB0.out.trans (hb.mono HB0.out.size)); have C1 := Lib.hid (C0.out.below hb); obtain ⟨ca1, cb1, cc1⟩ := C1.out.cells; have S1 := Lib.hid (S0.out.on hb); have Y1 := Lib.hid (Y0.out.on hb); have G1 := Lib.hid (hG.sl HLS.out); clear hG; clear hb)) | (go_at_call 25; go_loud ((with_reducible refine (KE.out _ Y1.out).mono ?_); rintro e w2 ⟨⟨a2, c2, rfl, hG⟩, hb⟩; have HB2 := Lib.hid (HB1.out.trans (hb.mono HB1.out.size)); have C2 := Lib.hid (C1.out.below hb); obtain ⟨ca2, cb2, cc2⟩ := C2.out.cells; have S2 := Lib.hid (S1.out.on hb); have Y2 := Lib.hid (Y1.out.on hb); have G2 := Lib.hid (G1.out.on hb); have Q2 := Lib.hid (hG.sl HLY.out); clear hG; clear hb)))
  have hb : Below w2.heap.size w2 (w2.alloc (.cells #[.int .u64 (b : Nat), .int .u64 (t : Nat), .slice a1 l.length c1] 25)) := (Below.refl _ _).alloc (Nat.le_refl _) _
  have HB3 := Lib.hid (HB2.out.trans (hb.mono HB2.out.size))
  have C3 := Lib.hid (C2.out.below hb)
  obtain ⟨ca3, cb3, cc3⟩ := C3.out.cells
  have S3 := Lib.hid (S2.out.on hb)
  have Y3 := Lib.hid (Y2.out.on hb)
  have G3 := Lib.hid (G2.out.on hb)
  have Q3 := Lib.hid (Q2.out.on hb)
  have D3 := Lib.hid (Bx3.made w2 (.int .u64 (b : Nat)) (.int .u64 (t : Nat)) (.slice a1 l.length c1) 25)
  clear hb
  generalize w2.alloc (.cells #[.int .u64 (b : Nat), .int .u64 (t : Nat), .slice a1 l.length c1] 25) = w3 at *
  generalize w2.heap.size = N3 at *
  obtain ⟨da3, db3, dc3⟩ := D3.out.cells
  go_upto_region 3 with (go_at_call 26; go_loud ((with_reducible refine (KJ.out _ _ _ _ _ G3.out Q3.out).mono ?_); rintro e w4 ⟨⟨a4, c4, rfl, ho⟩, hb⟩; have HB4 := Lib.hid (HB3.out.trans (hb.mono HB3.out.size)); have C4 := Lib.hid (C3.out.below hb); obtain ⟨ca4, cb4, cc4⟩ := C4.out.cells; have D4 := Lib.hid (D3.out.below hb); obtain ⟨da4, db4, dc4⟩ := D4.out.cells; have S4 := Lib.hid (S3.out.on hb); have Y4 := Lib.hid (Y3.out.on hb); have G4 := Lib.hid (G3.out.on hb); have Q4 := Lib.hid (Q3.out.on hb); have J4 := Lib.hid (ho.sl.more (Nat.le_refl _) (Nat.zero_le _)); clear ho; clear hb))
  have hb : Below w4.heap.size w4 (w4.alloc (.cells #[.int .u64 (B : Nat), .int .u64 (T : Nat), .slice a4 L.length c4] 25)) := (Below.refl _ _).alloc (Nat.le_refl _) _
  have HB5 := Lib.hid (HB4.out.trans (hb.mono HB4.out.size))
  have C5 := Lib.hid (C4.out.below hb)
  obtain ⟨ca5, cb5, cc5⟩ := C5.out.cells
  have D5 := Lib.hid (D4.out.below hb)
  obtain ⟨da5, db5, dc5⟩ := D5.out.cells
  have S5 := Lib.hid (S4.out.on hb)
  have Y5 := Lib.hid (Y4.out.on hb)
  have G5 := Lib.hid (G4.out.on hb)
  have Q5 := Lib.hid (Q4.out.on hb)
  have J5 := Lib.hid (J4.out.on hb)
  have E5 := Lib.hid (Bx3.made w4 (.int .u64 (B : Nat)) (.int .u64 (T : Nat)) (.slice a4 L.length c4) 25)
  clear hb
  generalize w4.alloc (.cells #[.int .u64 (B : Nat), .int .u64 (T : Nat), .slice a4 L.length c4] 25) = w5 at *
  generalize w4.heap.size = N5 at *
  obtain ⟨ea5, eb5, ec5⟩ := E5.out.cells
  go_upto_region 4 with (go_at_call 27; go_loud ((with_reducible refine (KR.out _ S5.out Y5.out).mono ?_); rintro e w6 ⟨⟨a6, c6, rfl, ho⟩, hb⟩; have HB6 := Lib.hid (HB5.out.trans (hb.mono HB5.out.size)); have C6 := Lib.hid (C5.out.below hb); obtain ⟨ca6, cb6, cc6⟩ := C6.out.cells; have D6 := Lib.hid (D5.out.below hb); obtain ⟨da6, db6, dc6⟩ := D6.out.cells; have E6 := Lib.hid (E5.out.below hb); obtain ⟨ea6, eb6, ec6⟩ := E6.out.cells; have S6 := Lib.hid (S5.out.on hb); have Y6 := Lib.hid (Y5.out.on hb); have G6 := Lib.hid (G5.out.on hb); have Q6 := Lib.hid (Q5.out.on hb); have J6 := Lib.hid (J5.out.on hb); have K6 := Lib.hid ho; clear ho; clear hb))
  have hb : Below w6.heap.size w6 (w6.alloc (.cells #[.int .u64 (B : Nat), .int .u64 (T : Nat), .slice a6 L.length c6] 25)) := (Below.refl _ _).alloc (Nat.le_refl _) _
  have HB7 := Lib.hid (HB6.out.trans (hb.mono HB6.out.size))
  have C7 := Lib.hid (C6.out.below hb)
  obtain ⟨ca7, cb7, cc7⟩ := C7.out.cells
  have D7 := Lib.hid (D6.out.below hb)
  obtain ⟨da7, db7, dc7⟩ := D7.out.cells
  have E7 := Lib.hid (E6.out.below hb)
  obtain ⟨ea7, eb7, ec7⟩ := E7.out.cells
  have S7 := Lib.hid (S6.out.on hb)
  have Y7 := Lib.hid (Y6.out.on hb)
  have G7 := Lib.hid (G6.out.on hb)
  have Q7 := Lib.hid (Q6.out.on hb)
  have J7 := Lib.hid (J6.out.on hb)
  have K7 := Lib.hid (K6.out.on hb)
  have H7 := Lib.hid (Bx3.made w6 (.int .u64 (B : Nat)) (.int .u64 (T : Nat)) (.slice a6 L.length c6) 25)
  clear hb
  generalize w6.alloc (.cells #[.int .u64 (B : Nat), .int .u64 (T : Nat), .slice a6 L.length c6] 25) = w7 at *
  generalize w6.heap.size = N7 at *
  obtain ⟨ha7, hb7, hc7⟩ := H7.out.cells
  go_upto_region 5 with (go_at_call 28; go_loud ((with_reducible refine (KT.out _ _ _ G7.out).mono ?_); rintro e w8 ⟨⟨a8, c8, rfl, ho⟩, hb⟩; have HB8 := Lib.hid (HB7.out.trans (hb.mono HB7.out.size)); have C8 := Lib.hid (C7.out.below hb); obtain ⟨ca8, cb8, cc8⟩ := C8.out.cells; have D8 := Lib.hid (D7.out.below hb); obtain ⟨da8, db8, dc8⟩ := D8.out.cells; have E8 := Lib.hid (E7.out.below hb); obtain ⟨ea8, eb8, ec8⟩ := E8.out.cells; have H8 := Lib.hid (H7.out.below hb); obtain ⟨ha8, hb8, hc8⟩ := H8.out.cells; have S8 := Lib.hid (S7.out.on hb); have Y8 := Lib.hid (Y7.out.on hb); have G8 := Lib.hid (G7.out.on hb); have Q8 := Lib.hid (Q7.out.on hb); have J8 := Lib.hid (J7.out.on hb); have K8 := Lib.hid (K7.out.on hb); have M8 := Lib.hid (ho.sl.more (Nat.le_refl _) (Nat.zero_le _)); clear ho; clear hb))
  have hb : Below w8.heap.size w8 (w8.alloc (.cells #[.int .u64 (B2 : Nat), .int .u64 (T2 : Nat), .slice a8 L2.length c8] 25)) := (Below.refl _ _).alloc (Nat.le_refl _) _
  have HB9 := Lib.hid (HB8.out.trans (hb.mono HB8.out.size))
  have C9 := Lib.hid (C8.out.below hb)
  obtain ⟨ca9, cb9, cc9⟩ := C9.out.cells
  have D9 := Lib.hid (D8.out.below hb)
  obtain ⟨da9, db9, dc9⟩ := D9.out.cells
  have E9 := Lib.hid (E8.out.below hb)
  obtain ⟨ea9, eb9, ec9⟩ := E9.out.cells
  have H9 := Lib.hid (H8.out.below hb)
  obtain ⟨ha9, hb9, hc9⟩ := H9.out.cells
  have S9 := Lib.hid (S8.out.on hb)
  have Y9 := Lib.hid (Y8.out.on hb)
  have G9 := Lib.hid (G8.out.on hb)
  have Q9 := Lib.hid (Q8.out.on hb)
  have J9 := Lib.hid (J8.out.on hb)
  have K9 := Lib.hid (K8.out.on hb)
  have M9 := Lib.hid (M8.out.on hb)
  have I9 := Lib.hid (Bx3.made w8 (.int .u64 (B2 : Nat)) (.int .u64 (T2 : Nat)) (.slice a8 L2.length c8) 25)
  clear hb
  generalize w8.alloc (.cells #[.int .u64 (B2 : Nat), .int .u64 (T2 : Nat), .slice a8 L2.length c8] 25) = w9 at *
  generalize w8.heap.size = N9 at *
  obtain ⟨ia9, ib9, ic9⟩ := I9.out.cells
  go_upto_region 6 with (go_at_call 29; go_loud ((with_reducible refine (KU.out _ S9.out).mono ?_); rintro e w10 ⟨⟨a10, c10, rfl, ho⟩, hb⟩; have HB10 := Lib.hid (HB9.out.trans (hb.mono HB9.out.size)); have C10 := Lib.hid (C9.out.below hb); obtain ⟨ca10, cb10, cc10⟩ := C10.out.cells; have D10 := Lib.hid (D9.out.below hb); obtain ⟨da10, db10, dc10⟩ := D10.out.cells; have E10 := Lib.hid (E9.out.below hb); obtain ⟨ea10, eb10, ec10⟩ := E10.out.cells; have H10 := Lib.hid (H9.out.below hb); obtain ⟨ha10, hb10, hc10⟩ := H10.out.cells; have I10 := Lib.hid (I9.out.below hb); obtain ⟨ia10, ib10, ic10⟩ := I10.out.cells; have S10 := Lib.hid (S9.out.on hb); have Y10 := Lib.hid (Y9.out.on hb); have G10 := Lib.hid (G9.out.on hb); have Q10 := Lib.hid (Q9.out.on hb); have J10 := Lib.hid (J9.out.on hb); have K10 := Lib.hid (K9.out.on hb); have M10 := Lib.hid (M9.out.on hb); have O10 := Lib.hid ho; clear ho; clear hb))
  have hb : Below w10.heap.size w10 (w10.alloc (.cells #[.int .u64 (B2 : Nat), .int .u64 (T2 : Nat), .slice a10 L2.length c10] 25)) := (Below.refl _ _).alloc (Nat.le_refl _) _
  have HB11 := Lib.hid (HB10.out.trans (hb.mono HB10.out.size))
  have C11 := Lib.hid (C10.out.below hb)
  obtain ⟨ca11, cb11, cc11⟩ := C11.out.cells
  have D11 := Lib.hid (D10.out.below hb)
  obtain ⟨da11, db11, dc11⟩ := D11.out.cells
  have E11 := Lib.hid (E10.out.below hb)
  obtain ⟨ea11, eb11, ec11⟩ := E11.out.cells
  have H11 := Lib.hid (H10.out.below hb)
  obtain ⟨ha11, hb11, hc11⟩ := H11.out.cells
  have I11 := Lib.hid (I10.out.below hb)
  obtain ⟨ia11, ib11, ic11⟩ := I11.out.cells
  have S11 := Lib.hid (S10.out.on hb)
  have Y11 := Lib.hid (Y10.out.on hb)
  have G11 := Lib.hid (G10.out.on hb)
  have Q11 := Lib.hid (Q10.out.on hb)
  have J11 := Lib.hid (J10.out.on hb)
  have K11 := Lib.hid (K10.out.on hb)
  have M11 := Lib.hid (M10.out.on hb)
  have O11 := Lib.hid (O10.out.on hb)
  have P11 := Lib.hid (Bx3.made w10 (.int .u64 (B2 : Nat)) (.int .u64 (T2 : Nat)) (.slice a10 L2.length c10) 25)
  clear hb
  generalize w10.alloc (.cells #[.int .u64 (B2 : Nat), .int .u64 (T2 : Nat), .slice a10 L2.length c10] 25) = w11 at *
  generalize w10.heap.size = N11 at *
  obtain ⟨pa11, pb11, pc11⟩ := P11.out.cells
  go_wp2_with (go_at_call 15; go_loud ((with_reducible refine (KL.out _).mono ?_); rintro e w12 ⟨rfl, hb⟩; have HB12 := Lib.hid (HB11.out.trans (hb.mono HB11.out.size)); have C12 := Lib.hid (C11.out.below hb); obtain ⟨ca12, cb12, cc12⟩ := C12.out.cells; have D12 := Lib.hid (D11.out.below hb); obtain ⟨da12, db12, dc12⟩ := D12.out.cells; have E12 := Lib.hid (E11.out.below hb); obtain ⟨ea12, eb12, ec12⟩ := E12.out.cells; have H12 := Lib.hid (H11.out.below hb); obtain ⟨ha12, hb12, hc12⟩ := H12.out.cells; have I12 := Lib.hid (I11.out.below hb); obtain ⟨ia12, ib12, ic12⟩ := I12.out.cells; have P12 := Lib.hid (P11.out.below hb); obtain ⟨pa12, pb12, pc12⟩ := P12.out.cells; have S12 := Lib.hid (S11.out.on hb); have Y12 := Lib.hid (Y11.out.on hb); have G12 := Lib.hid (G11.out.on hb); have Q12 := Lib.hid (Q11.out.on hb); have J12 := Lib.hid (J11.out.on hb); have K12 := Lib.hid (K11.out.on hb); have M12 := Lib.hid (M11.out.on hb); have O12 := Lib.hid (O11.out.on hb); clear hb))
  go_wp2_with (go_at_call 30; go_loud ((with_reducible refine (KS1.out _ _ _ _ _ J12.out K12.out).mono ?_); rintro e w13 ⟨rfl, hb⟩; have HB13 := Lib.hid (HB12.out.trans (hb.mono HB12.out.size)); have C13 := Lib.hid (C12.out.below hb); obtain ⟨ca13, cb13, cc13⟩ := C13.out.cells; have D13 := Lib.hid (D12.out.below hb); obtain ⟨da13, db13, dc13⟩ := D13.out.cells; have E13 := Lib.hid (E12.out.below hb); obtain ⟨ea13, eb13, ec13⟩ := E13.out.cells; have H13 := Lib.hid (H12.out.below hb); obtain ⟨ha13, hb13, hc13⟩ := H13.out.cells; have I13 := Lib.hid (I12.out.below hb); obtain ⟨ia13, ib13, ic13⟩ := I13.out.cells; have P13 := Lib.hid (P12.out.below hb); obtain ⟨pa13, pb13, pc13⟩ := P13.out.cells; have S13 := Lib.hid (S12.out.on hb); have Y13 := Lib.hid (Y12.out.on hb); have G13 := Lib.hid (G12.out.on hb); have Q13 := Lib.hid (Q12.out.on hb); have J13 := Lib.hid (J12.out.on hb); have K13 := Lib.hid (K12.out.on hb); have M13 := Lib.hid (M12.out.on hb); have O13 := Lib.hid (O12.out.on hb); clear hb))
  go_wp2_with (go_at_call 30; go_loud ((with_reducible refine (KS2.out _ _ _ _ _ M13.out O13.out).mono ?_); rintro e w14 ⟨rfl, hb⟩; have HB14 := Lib.hid (HB13.out.trans (hb.mono HB13.out.size)); have C14 := Lib.hid (C13.out.below hb); obtain ⟨ca14, cb14, cc14⟩ := C14.out.cells; have D14 := Lib.hid (D13.out.below hb); obtain ⟨da14, db14, dc14⟩ := D14.out.cells; have E14 := Lib.hid (E13.out.below hb); obtain ⟨ea14, eb14, ec14⟩ := E14.out.cells; have H14 := Lib.hid (H13.out.below hb); obtain ⟨ha14, hb14, hc14⟩ := H14.out.cells; have I14 := Lib.hid (I13.out.below hb); obtain ⟨ia14, ib14, ic14⟩ := I14.out.cells; have P14 := Lib.hid (P13.out.below hb); obtain ⟨pa14, pb14, pc14⟩ := P14.out.cells; have S14 := Lib.hid (S13.out.on hb); have Y14 := Lib.hid (Y13.out.on hb); have G14 := Lib.hid (G13.out.on hb); have Q14 := Lib.hid (Q13.out.on hb); have J14 := Lib.hid (J13.out.on hb); have K14 := Lib.hid (K13.out.on hb); have M14 := Lib.hid (M13.out.on hb); have O14 := Lib.hid (O13.out.on hb); clear hb))
  go_wp2_with (go_at_call 30; go_loud ((with_reducible refine (KS3.out _ _ _ G14.out S14.out).mono ?_); rintro e w15 ⟨rfl, hb⟩; have HB15 := Lib.hid (HB14.out.trans (hb.mono HB14.out.size)); have C15 := Lib.hid (C14.out.below hb); obtain ⟨ca15, cb15, cc15⟩ := C15.out.cells; have D15 := Lib.hid (D14.out.below hb); obtain ⟨da15, db15, dc15⟩ := D15.out.cells; have E15 := Lib.hid (E14.out.below hb); obtain ⟨ea15, eb15, ec15⟩ := E15.out.cells; have H15 := Lib.hid (H14.out.below hb); obtain ⟨ha15, hb15, hc15⟩ := H15.out.cells; have I15 := Lib.hid (I14.out.below hb); obtain ⟨ia15, ib15, ic15⟩ := I15.out.cells; have P15 := Lib.hid (P14.out.below hb); obtain ⟨pa15, pb15, pc15⟩ := P15.out.cells; have S15 := Lib.hid (S14.out.on hb); have Y15 := Lib.hid (Y14.out.on hb); have G15 := Lib.hid (G14.out.on hb); have Q15 := Lib.hid (Q14.out.on hb); have J15 := Lib.hid (J14.out.on hb); have K15 := Lib.hid (K14.out.on hb); have M15 := Lib.hid (M14.out.on hb); have O15 := Lib.hid (O14.out.on hb); clear hb))
  go_wp2_with (go_at_call 16; go_loud ((with_reducible refine (KS4.out _ _ _ Q15.out Y15.out).mono ?_); rintro e w16 ⟨rfl, hb⟩; have HB16 := Lib.hid (HB15.out.trans (hb.mono HB15.out.size)); have C16 := Lib.hid (C15.out.below hb); obtain ⟨ca16, cb16, cc16⟩ := C16.out.cells; have D16 := Lib.hid (D15.out.below hb); obtain ⟨da16, db16, dc16⟩ := D16.out.cells; have E16 := Lib.hid (E15.out.below hb); obtain ⟨ea16, eb16, ec16⟩ := E16.out.cells; have H16 := Lib.hid (H15.out.below hb); obtain ⟨ha16, hb16, hc16⟩ := H16.out.cells; have I16 := Lib.hid (I15.out.below hb); obtain ⟨ia16, ib16, ic16⟩ := I16.out.cells; have P16 := Lib.hid (P15.out.below hb); obtain ⟨pa16, pb16, pc16⟩ := P16.out.cells; have S16 := Lib.hid (S15.out.on hb); have Y16 := Lib.hid (Y15.out.on hb); have G16 := Lib.hid (G15.out.on hb); have Q16 := Lib.hid (Q15.out.on hb); have J16 := Lib.hid (J15.out.on hb); have K16 := Lib.hid (K15.out.on hb); have M16 := Lib.hid (M15.out.on hb); have O16 := Lib.hid (O15.out.on hb); clear hb))
  go_wp2
  go_ret
  exact ⟨rfl, HB16.out⟩
end Lo
end Go.Proofs.Ytjalmciaaenmjaa
