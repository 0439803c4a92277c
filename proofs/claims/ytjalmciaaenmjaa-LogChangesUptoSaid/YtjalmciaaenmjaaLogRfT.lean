/-
  A LOG WITHOUT ITS FIRST ENTRIES, as the document says it: gafferref14.Trim.
-/
import Derived.Test.YtjalmciaaenmjaaLogRf3
import Derived.Test.YtjalmciaaenmjaaLogTrimmed
namespace Go.Proofs.Ytjalmciaaenmjaa
open Go.RowKit Go.Lib
namespace Lo
set_option linter.unusedVariables false
theorem Gr.put {w : World} {base : Nat} {v : Value} {l : List En} (h : Gr w base v l) {p : Nat} (hp : p < base) (hs : p < w.heap.size) (j : Nat) (u : Value) : Gr (w.setCell ⟨p, j, none⟩ u) base v l := by
  obtain ⟨ps, k1, k2, k3⟩ := h
  refine ⟨ps, k1, ?_, fun q hq => ?_⟩
  · refine ⟨k2.1, ?_⟩
    rcases k2.2 with h2 | ⟨g, cap, cur, h3, h4, h5, h6⟩
    · exact .inl h2
    · refine .inr ⟨g, cap, cur, h3, h4, ?_, h6⟩
      have : p ≠ g := by omega
      simp [World.setCell, Array.getElem?_modify, this, h5]
  · obtain ⟨i1, i2, A, B, i3, i4, i5, i6⟩ := k3 q hq
    exact ⟨i1, i2, A, B, i3.put (.inl (by omega)) j u, i4, by simpa using i5, i6⟩
theorem Gr.less {w : World} {base b2 : Nat} {v : Value} {l : List En} (h : Gr w base v l) (hb : b2 ≤ base) : Gr w b2 v l := by
  obtain ⟨ps, k1, k2, k3⟩ := h
  refine ⟨ps, k1, ⟨k2.1, ?_⟩, fun q hq => ?_⟩
  · rcases k2.2 with h2 | ⟨g, cap, cur, h3, h4, h5⟩
    · exact .inl h2
    · exact .inr ⟨g, cap, cur, h3, Nat.le_trans hb h4, h5⟩
  · obtain ⟨i1, i2, A, B, i3, i4, i5⟩ := k3 q hq
    exact ⟨i1, i2, A, B, i3, Nat.le_trans hb i4, i5⟩
theorem flatE_take (ps : List (En × Value)) : ∀ k, flatE (ps.take k) = (flatE ps).take (k * 5) := by
  induction ps with
  | nil => intro k; simp [flatE]
  | cons p r ih =>
    intro k
    cases k with
    | zero => simp [flatE]
    | succ k =>
      rw [List.take_succ_cons]
      show encE p.1 p.2 ++ flatE (r.take k) = (encE p.1 p.2 ++ flatE r).take ((k + 1) * 5)
      rw [ih k, List.take_append, show (encE p.1 p.2).length = 5 from rfl, show (k + 1) * 5 - 5 = k * 5 by omega, List.take_of_length_le (show (encE p.1 p.2).length ≤ (k + 1) * 5 by show 5 ≤ _; omega)]
theorem Gr.take {w : World} {base n c : Nat} {a : Option Addr} {l : List En} (h : Gr w base (.slice a n c) l) (q : Nat) (hq : q ≤ l.length) (hn : n = l.length) : Gr w base (.slice a q c) (l.take q) := by
  subst hn
  obtain ⟨ps, k1, k2, k3⟩ := h
  have hpl : ps.length = l.length := by rw [← k1, List.length_map]
  have hlq : (l.take q).length = q := by rw [List.length_take]; omega
  refine ⟨ps.take q, by rw [List.map_take, k1], ?_, fun p hp => by
    obtain ⟨i1, i2, A, B, i3, i4, i5, i6⟩ := k3 p (List.mem_of_mem_take hp)
    exact ⟨i1, i2, A, B, i3, i4, i5, fun g hg => i6 g (by cases a with
      | none => simp [Value.ownBlock] at hg
      | some x => exact hg)⟩⟩
  rw [hlq, flatE_take]
  refine ⟨by rw [List.length_take, k2.1]; omega, ?_⟩
  rcases k2.2 with ⟨h2, h3⟩ | ⟨g, cap, cur, h3, h4, h5, h6, h7, h8, h9⟩
  · simp only [Value.slice.injEq] at h2
    obtain ⟨rfl, -, rfl⟩ := h2
    obtain rfl : q = 0 := by omega
    exact .inl ⟨rfl, rfl⟩
  · cases h3
    refine .inr ⟨g, c, cur, rfl, h4, h5, by omega, h7, h8, ?_⟩
    rw [← h9, List.take_take, Nat.min_eq_left (by omega)]
set_option maxHeartbeats 2000000 in
theorem copy_gr (b t : Nat) (a : Option Addr) (c : Nat) (l : List En) (w : World) {A : Nat} (h : Sl w A w.heap.size a c l) :
    Calls Try.prog 24 #[.agg #[.int .u64 (b : Nat), .int .u64 (t : Nat), .slice a l.length c]] w fun e w' => (∃ a' c', e = .returned (.agg #[.int .u64 (b : Nat), .int .u64 (t : Nat), .slice a' l.length c']) ∧ Gr w' w.heap.size (.slice a' l.length c') l) ∧ Below w.heap.size w w' := by
  have hB : Below w.heap.size w ((w.alloc (.cells #[.int .u64 (b : Nat), .int .u64 (t : Nat), .slice a l.length c] 25)).alloc (.cells #[.int .u64 0, .int .u64 0, .slice none 0 0] 25)) := ((Below.refl _ _).alloc (Nat.le_refl _) _).alloc (by simp) _
  have HB0 := Lib.hid hB
  have C0 := Lib.hid ((Bx3.made w (.int .u64 (b : Nat)) (.int .u64 (t : Nat)) (.slice a l.length c) 25).al (.cells #[.int .u64 0, .int .u64 0, .slice none 0 0] 25))
  have R0 := Lib.hid (show Bx3 ((w.alloc (.cells #[.int .u64 (b : Nat), .int .u64 (t : Nat), .slice a l.length c] 25)).alloc (.cells #[.int .u64 0, .int .u64 0, .slice none 0 0] 25)) (w.heap.size + 1) (.int .u64 0) (.int .u64 0) (.slice none 0 0) by have h9 := Bx3.made (w.alloc (.cells #[.int .u64 (b : Nat), .int .u64 (t : Nat), .slice a l.length c] 25)) (.int .u64 0) (.int .u64 0) (.slice none 0 0) 25; rw [World.size_alloc] at h9; exact h9)
  have HC := Lib.hid (copy_ents a c l _ (h.on hB))
  have HLN := Lib.hid h.len
  clear hB h
  go_enter Try.func24, Try.ntmps24
  go_wp2_with (go_at_call 25; go_loud ((with_reducible refine HC.out.mono ?_); rintro e w1 ⟨⟨a1, c1, rfl, hG⟩, hb⟩; have HG := Lib.hid hG; have HB1 := Lib.hid (HB0.out.trans (hb.mono HB0.out.size)); have C1 := Lib.hid (C0.out.below hb); have R1 := Lib.hid (R0.out.below hb); obtain ⟨d10, d11, d12⟩ := C1.out.cells; obtain ⟨f10, f11, f12⟩ := C1.out.fz; obtain ⟨e10, e11, e12⟩ := R1.out.cells; obtain ⟨g10, g11, g12⟩ := R1.out.fz; clear hb hG HC))
  go_wp2
  refine bodyPost_log1 rfl (w.heap.size + 1) b t (.slice a1 l.length c1) rfl rfl ?_ ?_
  case refine_1 => exact (((R1.out.far (by omega) 2 _).set0 _).set1 _).set2 _
  case refine_2 =>
    have h1 := HG.out
    have hp := R1.out.lt
    simp only [World.size_alloc] at h1
    have h2 := ((((h1.put (p := w.heap.size) (by omega) (by omega) 2 (.slice a1 l.length c1)).put (p := w.heap.size + 1) (by omega) (by simp; omega) 0 (.int .u64 (b : Nat))).put (p := w.heap.size + 1) (by omega) (by simp; omega) 1 (.int .u64 (t : Nat))).put (p := w.heap.size + 1) (by omega) (by simp; omega) 2 (.slice a1 l.length c1))
    exact ⟨⟨a1, c1, rfl, h2.less (by omega)⟩, (((HB1.out.setCell (by exact Nat.le_refl _) _).setCell (by exact Nat.le_succ _) _).setCell (by exact Nat.le_succ _) _).setCell (by exact Nat.le_succ _) _⟩
/-- What the document's Trim answers. -/
def TrR (b t : Nat) (l : List En) (x : Nat) (e : Ending) (w' : World) : Prop :=
  ∃ a c, e = .returned (.tuple #[.agg #[.int .u64 (trB b t l x : Nat), .int .u64 (trT b t l x : Nat), .slice a (trL b t l x).length c], .int .i64 (trE b t l x : Nat)]) ∧ Sl w' 0 w'.heap.size a c (trL b t l x)
theorem TrR.bad {b t : Nat} {l : List En} {x : Nat} (h : trOk b t l x = false) {r : Nat} (hr : trE b t l x = r) (w' : World) : TrR b t l x (.returned (.tuple #[.agg #[.int .u64 0, .int .u64 0, .slice none 0 0], .int .i64 (r : Nat)])) w' := by
  obtain ⟨e1, e2, e3, -⟩ := trim_bad h
  unfold TrR
  rw [e1, e2, e3, hr]
  exact ⟨none, 0, rfl, Sl.empty _ _ _ _ _ (fun _ => rfl)⟩
theorem TrR.good {b t : Nat} {l : List En} {x B' T' : Nat} {L' : List En} (h : trOk b t l x = true) (e1 : trB b t l x = B') (e2 : trT b t l x = T') (e3 : trL b t l x = L') {w' : World} {n : Nat} {a : Option Addr} {c : Nat} (hn : n = L'.length) (hs : Sl w' 0 w'.heap.size a c L') :
    TrR b t l x (.returned (.tuple #[.agg #[.int .u64 (B' : Nat), .int .u64 (T' : Nat), .slice a n c], .int .i64 0])) w' := by
  unfold TrR
  rw [e1, e2, e3, trim_good h, hn]
  exact ⟨a, c, rfl, hs⟩
set_option maxHeartbeats 16000000 in
set_option maxRecDepth 100000 in
theorem trim_ref (b t x : Nat) (a : Option Addr) (c : Nat) (l : List En) (w : World) {A : Nat} (h : Sl w A w.heap.size a c l) (hb : Lt64 b) (hx : Lt64 x) :
    Calls Try.prog 29 #[.agg #[.int .u64 (b : Nat), .int .u64 (t : Nat), .slice a l.length c], .int .u64 (x : Nat)] w fun e w' => TrR b t l x e w' ∧ Below w.heap.size w w' := by
  have hB : Below w.heap.size w ((w.alloc (.cells #[.int .u64 (b : Nat), .int .u64 (t : Nat), .slice a l.length c] 25)).alloc (.cells #[.int .u64 0, .int .u64 0, .slice none 0 0] 25)) := ((Below.refl _ _).alloc (Nat.le_refl _) _).alloc (by simp) _
  have HB0 := Lib.hid hB
  have C0 := Lib.hid ((Bx3.made w (.int .u64 (b : Nat)) (.int .u64 (t : Nat)) (.slice a l.length c) 25).al (.cells #[.int .u64 0, .int .u64 0, .slice none 0 0] 25))
  have R0 := Lib.hid (show Bx3 ((w.alloc (.cells #[.int .u64 (b : Nat), .int .u64 (t : Nat), .slice a l.length c] 25)).alloc (.cells #[.int .u64 0, .int .u64 0, .slice none 0 0] 25)) (w.heap.size + 1) (.int .u64 0) (.int .u64 0) (.slice none 0 0) by have h9 := Bx3.made (w.alloc (.cells #[.int .u64 (b : Nat), .int .u64 (t : Nat), .slice a l.length c] 25)) (.int .u64 0) (.int .u64 0) (.slice none 0 0) 25; rw [World.size_alloc] at h9; exact h9)
  have HC := Lib.hid (check_log b t a c l _ (h.on hB) hb)
  have HS0 := Lib.hid ((h.on hB).more (Nat.le_refl _) (Nat.zero_le _))
  have HLN := Lib.hid h.len
  clear hB h
  cases hk : okB b t l
  · have HP := Lib.hid (fun w' => TrR.bad (b := b) (t := t) (l := l) (x := x) (by unfold trOk; rw [hk]; rfl) (r := 10) (by unfold trE; rw [hk]; rfl) w')
    rw [hk, lgE_f] at HC
    clear hk
    go_enter Try.func29, Try.ntmps29
    go_wp2_with (go_at_call 23; go_loud ((with_reducible refine (HC.out).mono ?_); rintro e w1 ⟨rfl, hb⟩; have HB1 := Lib.hid (HB0.out.trans (hb.mono HB0.out.size)); have HS1 := Lib.hid (HS0.out.on hb); have C1 := Lib.hid (C0.out.below hb); have R1 := Lib.hid (R0.out.below hb); obtain ⟨d10, d11, d12⟩ := C1.out.cells; obtain ⟨f10, f11, f12⟩ := C1.out.fz; obtain ⟨e10, e11, e12⟩ := R1.out.cells; obtain ⟨g10, g11, g12⟩ := R1.out.fz; clear hb))
    go_wp2
    refine bodyPost_log2 rfl (w.heap.size + 1) 0 0 (.slice none 0 0) rfl rfl ?_ ?_
    case refine_1 => exact ((R1.out.set0 _).set1 _).set2 _
    case refine_2 => exact ⟨HP.out _, ((HB1.out.setCell (by exact Nat.le_succ _) _).setCell (by exact Nat.le_succ _) _).setCell (by exact Nat.le_succ _) _⟩
  · rw [hk, lgE_t] at HC
    have he := eI_ok hk hb
    have HE := Lib.hid (fun z h => last_log b t a c l z (A := 0) h)
    by_cases h1 : x ≤ eI b l
    · have h1' : ¬ ((eI b l : Nat) : Int) < (x : Int) := by omega
      have h1x : decide (((eI b l : Nat) : Int) < (x : Int)) = false := by simpa using h1'
      have h1y : decide (eI b l < x) = false := by simpa using h1
      have hok : trOk b t l x = true := by unfold trOk; rw [hk]; simpa using h1
      have HCP := Lib.hid (fun z h => copy_gr b t a c l z (A := 0) h)
      by_cases h2 : x ≤ b
      · have h2' : (x : Int) ≤ (b : Int) := by omega
        have HP := Lib.hid (fun w' a c hs => TrR.good (w' := w') (a := a) (c := c) hok (show trB b t l x = b by unfold trB; rw [if_pos hok, if_pos h2]) (show trT b t l x = t by unfold trT; rw [if_pos hok, if_pos h2]) (show trL b t l x = l by unfold trL; rw [if_pos hok, if_pos h2]) rfl hs)
        generalize eI b l = y at *
        generalize eT t l = z at *
        clear hk hb hx h1 h2 hok he
        go_enter Try.func29, Try.ntmps29
        go_upto_region 7 with (first
          | (go_at_call 23; go_loud ((with_reducible refine (HC.out).mono ?_); rintro e w1 ⟨rfl, hb⟩; have HB1 := Lib.hid (HB0.out.trans (hb.mono HB0.out.size)); have HS1 := Lib.hid (HS0.out.on hb); have C1 := Lib.hid (C0.out.below hb); have R1 := Lib.hid (R0.out.below hb); obtain ⟨d10, d11, d12⟩ := C1.out.cells; obtain ⟨f10, f11, f12⟩ := C1.out.fz; obtain ⟨e10, e11, e12⟩ := R1.out.cells; obtain ⟨g10, g11, g12⟩ := R1.out.fz; clear hb))
          | (go_at_call 32; go_loud ((with_reducible refine (HE.out _ HS1.out).mono ?_); rintro e w2 ⟨rfl, hb⟩; have HB2 := Lib.hid (HB1.out.trans (hb.mono HB1.out.size)); have HS2 := Lib.hid (HS1.out.on hb); have C2 := Lib.hid (C1.out.below hb); have R2 := Lib.hid (R1.out.below hb); obtain ⟨d20, d21, d22⟩ := C2.out.cells; obtain ⟨f20, f21, f22⟩ := C2.out.fz; obtain ⟨e20, e21, e22⟩ := R2.out.cells; obtain ⟨g20, g21, g22⟩ := R2.out.fz; clear hb))
          | (go_at_call 24; go_loud ((with_reducible refine (HCP.out _ HS2.out).mono ?_); rintro e w3 ⟨⟨a3, c3, rfl, hg⟩, hb⟩; have HB3 := Lib.hid (HB2.out.trans (hb.mono HB2.out.size)); have HS3 := Lib.hid (HS2.out.on hb); have C3 := Lib.hid (C2.out.below hb); have R3 := Lib.hid (R2.out.below hb); obtain ⟨d30, d31, d32⟩ := C3.out.cells; obtain ⟨f30, f31, f32⟩ := C3.out.fz; obtain ⟨e30, e31, e32⟩ := R3.out.cells; obtain ⟨g30, g31, g32⟩ := R3.out.fz; have HG3 := Lib.hid hg; clear hg; clear hb)))
        have C4 := Lib.hid (((C3.out.set0 (.int .u64 (b : Nat))).set1 (.int .u64 (t : Nat))).set2 (.slice a3 l.length c3))
        have R4 := Lib.hid (((R3.out.far (p := w.heap.size) (by omega) 0 (.int .u64 (b : Nat))).far (p := w.heap.size) (by omega) 1 (.int .u64 (t : Nat))).far (p := w.heap.size) (by omega) 2 (.slice a3 l.length c3))
        have HB4 := Lib.hid (((HB3.out.setCell (p := ⟨w.heap.size, 0, none⟩) (by exact Nat.le_refl _) (.int .u64 (b : Nat))).setCell (p := ⟨w.heap.size, 1, none⟩) (by exact Nat.le_refl _) (.int .u64 (t : Nat))).setCell (p := ⟨w.heap.size, 2, none⟩) (by exact Nat.le_refl _) (.slice a3 l.length c3))
        have HG4 := Lib.hid (((HG3.out.put (p := w.heap.size) (by have := C2.out.lt; omega) (by have := C3.out.lt; omega) 0 (.int .u64 (b : Nat))).put (p := w.heap.size) (by have := C2.out.lt; omega) (by have := C3.out.lt; simp; omega) 1 (.int .u64 (t : Nat))).put (p := w.heap.size) (by have := C2.out.lt; omega) (by have := C3.out.lt; simp; omega) 2 (.slice a3 l.length c3))
        have HPB := Lib.hid (show w.heap.size + 1 < w2.heap.size from R2.out.lt)
        generalize ((w3.setCell ⟨w.heap.size, 0, none⟩ (.int .u64 (b : Nat))).setCell ⟨w.heap.size, 1, none⟩ (.int .u64 (t : Nat))).setCell ⟨w.heap.size, 2, none⟩ (.slice a3 l.length c3) = w4 at *
        obtain ⟨d40, d41, d42⟩ := C4.out.cells
        obtain ⟨f40, f41, f42⟩ := C4.out.fz
        obtain ⟨e40, e41, e42⟩ := R4.out.cells
        obtain ⟨g40, g41, g42⟩ := R4.out.fz
        go_wp2
        refine bodyPost_log2 rfl (w.heap.size + 1) b t (.slice a3 l.length c3) rfl rfl ?_ ?_
        case refine_1 => exact ((R4.out.set0 _).set1 _).set2 _
        case refine_2 =>
          have hl := R4.out.lt
          have h9 := ((HG4.out.put (p := w.heap.size + 1) HPB.out (by omega) 0 (.int .u64 (b : Nat))).put (p := w.heap.size + 1) HPB.out (by simp; omega) 1 (.int .u64 (t : Nat))).put (p := w.heap.size + 1) HPB.out (by simp; omega) 2 (.slice a3 l.length c3)
          exact ⟨HP.out _ _ _ (h9.sl HLN.out), ((HB4.out.setCell (by exact Nat.le_succ _) _).setCell (by exact Nat.le_succ _) _).setCell (by exact Nat.le_succ _) _⟩
      · have h2' : ¬ (x : Int) ≤ (b : Int) := by omega
        have h2x : decide ((x : Int) ≤ (b : Int)) = false := by simpa using h2'
        have h2y : decide (x ≤ b) = false := by simpa using h2
        rw [he] at h1
        obtain ⟨k, hk0⟩ : ∃ k, x = b + k := ⟨x - b, by omega⟩
        have hkn : k ≤ l.length := by omega
        have hm : mny b l.length x = k := by unfold mny; rw [if_neg h2]; omega
        have HP := Lib.hid (fun w' n a c hn hs => TrR.good (w' := w') (n := n) (a := a) (c := c) hok (show trB b t l x = x by unfold trB; rw [if_pos hok, if_neg h2]) (show trT b t l x = tmV b t l x by unfold trT; rw [if_pos hok, if_neg h2]) (show trL b t l x = l.drop k by unfold trL; rw [if_pos hok, if_neg h2, hm]) hn hs)
        have HAT := Lib.hid (fun a2 c2 z h => at_log b t x a2 c2 l z (A := 0) h (by omega) (by omega) hx)
        have x1 : IntKind.u64.wrap ((x : Int) - (b : Int)) = (k : Int) := by unfold Lt64 at hx; rw [IntKind.wrap_u64]; omega
        have HKN := Lib.hid hkn
        have n0 : (0 : Int) ≤ (k : Int) := by omega
        have n1 : (k : Int) ≤ (l.length : Int) := by omega
        have HLD := Lib.hid (show (l.drop k).length = l.length - k from List.length_drop)
        generalize eI b l = y at *
        generalize eT t l = z at *
        generalize tmV b t l x = tv at *
        clear hk hb hx h1 h2 hok he hk0 hkn hm
        go_enter Try.func29, Try.ntmps29
        go_upto_region 7 with (first
          | (go_at_call 23; go_loud ((with_reducible refine (HC.out).mono ?_); rintro e w1 ⟨rfl, hb⟩; have HB1 := Lib.hid (HB0.out.trans (hb.mono HB0.out.size)); have HS1 := Lib.hid (HS0.out.on hb); have C1 := Lib.hid (C0.out.below hb); have R1 := Lib.hid (R0.out.below hb); obtain ⟨d10, d11, d12⟩ := C1.out.cells; obtain ⟨f10, f11, f12⟩ := C1.out.fz; obtain ⟨e10, e11, e12⟩ := R1.out.cells; obtain ⟨g10, g11, g12⟩ := R1.out.fz; clear hb))
          | (go_at_call 32; go_loud ((with_reducible refine (HE.out _ HS1.out).mono ?_); rintro e w2 ⟨rfl, hb⟩; have HB2 := Lib.hid (HB1.out.trans (hb.mono HB1.out.size)); have HS2 := Lib.hid (HS1.out.on hb); have C2 := Lib.hid (C1.out.below hb); have R2 := Lib.hid (R1.out.below hb); obtain ⟨d20, d21, d22⟩ := C2.out.cells; obtain ⟨f20, f21, f22⟩ := C2.out.fz; obtain ⟨e20, e21, e22⟩ := R2.out.cells; obtain ⟨g20, g21, g22⟩ := R2.out.fz; clear hb))
          | (go_at_call 24; go_loud ((with_reducible refine (HCP.out _ HS2.out).mono ?_); rintro e w3 ⟨⟨a3, c3, rfl, hg⟩, hb⟩; have HB3 := Lib.hid (HB2.out.trans (hb.mono HB2.out.size)); have HS3 := Lib.hid (HS2.out.on hb); have C3 := Lib.hid (C2.out.below hb); have R3 := Lib.hid (R2.out.below hb); obtain ⟨d30, d31, d32⟩ := C3.out.cells; obtain ⟨f30, f31, f32⟩ := C3.out.fz; obtain ⟨e30, e31, e32⟩ := R3.out.cells; obtain ⟨g30, g31, g32⟩ := R3.out.fz; have HG3 := Lib.hid hg; clear hg; clear hb)))
        have C4 := Lib.hid (((C3.out.set0 (.int .u64 (b : Nat))).set1 (.int .u64 (t : Nat))).set2 (.slice a3 l.length c3))
        have R4 := Lib.hid (((R3.out.far (p := w.heap.size) (by omega) 0 (.int .u64 (b : Nat))).far (p := w.heap.size) (by omega) 1 (.int .u64 (t : Nat))).far (p := w.heap.size) (by omega) 2 (.slice a3 l.length c3))
        have HB4 := Lib.hid (((HB3.out.setCell (p := ⟨w.heap.size, 0, none⟩) (by exact Nat.le_refl _) (.int .u64 (b : Nat))).setCell (p := ⟨w.heap.size, 1, none⟩) (by exact Nat.le_refl _) (.int .u64 (t : Nat))).setCell (p := ⟨w.heap.size, 2, none⟩) (by exact Nat.le_refl _) (.slice a3 l.length c3))
        have HG4 := Lib.hid (((HG3.out.put (p := w.heap.size) (by have := C2.out.lt; omega) (by have := C3.out.lt; omega) 0 (.int .u64 (b : Nat))).put (p := w.heap.size) (by have := C2.out.lt; omega) (by have := C3.out.lt; simp; omega) 1 (.int .u64 (t : Nat))).put (p := w.heap.size) (by have := C2.out.lt; omega) (by have := C3.out.lt; simp; omega) 2 (.slice a3 l.length c3))
        have HPB := Lib.hid (show w.heap.size + 1 < w2.heap.size from R2.out.lt)
        generalize ((w3.setCell ⟨w.heap.size, 0, none⟩ (.int .u64 (b : Nat))).setCell ⟨w.heap.size, 1, none⟩ (.int .u64 (t : Nat))).setCell ⟨w.heap.size, 2, none⟩ (.slice a3 l.length c3) = w4 at *
        obtain ⟨d40, d41, d42⟩ := C4.out.cells
        obtain ⟨f40, f41, f42⟩ := C4.out.fz
        obtain ⟨e40, e41, e42⟩ := R4.out.cells
        obtain ⟨g40, g41, g42⟩ := R4.out.fz
        go_upto_region 10 with (go_at_call 34; go_loud ((with_reducible refine (HAT.out _ _ _ (HG4.out.sl HLN.out)).mono ?_); rintro e w5 ⟨rfl, hb⟩; have HB5 := Lib.hid (HB4.out.trans (hb.mono HB4.out.size)); have HG5 := Lib.hid (HG4.out.below hb); have C5 := Lib.hid (C4.out.below hb); have R5 := Lib.hid (R4.out.below hb); obtain ⟨d50, d51, d52⟩ := C5.out.cells; obtain ⟨f50, f51, f52⟩ := C5.out.fz; obtain ⟨e50, e51, e52⟩ := R5.out.cells; obtain ⟨g50, g51, g52⟩ := R5.out.fz; clear hb))
        have HS5 := Lib.hid (HG5.out.slb HLN.out)
        have hcap := HS5.out.cap
        have m1 : (l.length : Int) ≤ (c3 : Int) := by omega
        have m2 : (k : Int) ≤ (c3 : Int) := by omega
        by_cases hc : c3 = k
        · have hkl : k = l.length := by have := HKN.out; omega
          have hnil : l.drop k = [] := List.drop_eq_nil_of_le (by omega)
          have HZ := Lib.hid (show (0 : Nat) = (l.drop k).length by rw [hnil]; rfl)
          have HNIL := Lib.hid hnil
          have hkl2 := hkl.symm
          clear hkl hnil hcap
          rw [hkl2] at d52 m1 n1
          have hc2 := hc.symm
          clear hc
          subst hc2
          go_wp2
          refine bodyPost_log2 rfl (w.heap.size + 1) x tv (.slice a3 0 0) rfl rfl ?_ ?_
          case refine_1 => exact ((((((R5.out.far (p := w.heap.size) (by omega) 2 _).far (p := w.heap.size) (by omega) 0 _).far (p := w.heap.size) (by omega) 1 _).set0 _).set1 _).set2 _)
          case refine_2 =>
            have h0 : Sl w5 w2.heap.size w5.heap.size (a3) (0) (l.drop k) := by rw [HNIL.out]; exact Sl.empty _ _ _ _ _ (fun _ => rfl)
            have h9 := ((((((h0.box (p := w.heap.size) (.inl (by have := HPB.out; omega)) 2 (.slice a3 0 0)).box (p := w.heap.size) (.inl (by have := HPB.out; omega)) 0 (.int .u64 (x : Nat))).box (p := w.heap.size) (.inl (by have := HPB.out; omega)) 1 (.int .u64 (tv : Nat))).box (p := w.heap.size + 1) (.inl HPB.out) 0 (.int .u64 (x : Nat))).box (p := w.heap.size + 1) (.inl HPB.out) 1 (.int .u64 (tv : Nat))).box (p := w.heap.size + 1) (.inl HPB.out) 2 (.slice a3 0 0))
            exact ⟨HP.out _ _ _ _ (HZ.out) (h9.more (by simp) (Nat.zero_le _)), (((((HB5.out.setCell (by exact Nat.le_refl _) _).setCell (by exact Nat.le_refl _) _).setCell (by exact Nat.le_refl _) _).setCell (by exact Nat.le_succ _) _).setCell (by exact Nat.le_succ _) _).setCell (by exact Nat.le_succ _) _⟩
        · cases a3 with
          | none => exact absurd (HS5.out.nil rfl) (by have := HKN.out; omega)
          | some ad =>
            have n4 : ¬ c3 = k := hc
            have n6 : ¬ c3 - k = 0 := by have := HKN.out; omega
            have HPT := Lib.hid (HS5.out.path k HKN.out)
            clear hc hcap
            go_wp2
            refine bodyPost_log2 rfl (w.heap.size + 1) x tv (.slice (some (ad.add (k * 5))) (l.length - k) (c3 - k)) rfl rfl ?_ ?_
            case refine_1 => exact ((((((R5.out.far (p := w.heap.size) (by omega) 2 _).far (p := w.heap.size) (by omega) 0 _).far (p := w.heap.size) (by omega) 1 _).set0 _).set1 _).set2 _)
            case refine_2 =>
              have h0 : Sl w5 w2.heap.size w5.heap.size (some (ad.add (k * 5))) (c3 - k) (l.drop k) := HPT.out
              have h9 := ((((((h0.box (p := w.heap.size) (.inl (by have := HPB.out; omega)) 2 (.slice (some (ad.add (k * 5))) (l.length - k) (c3 - k))).box (p := w.heap.size) (.inl (by have := HPB.out; omega)) 0 (.int .u64 (x : Nat))).box (p := w.heap.size) (.inl (by have := HPB.out; omega)) 1 (.int .u64 (tv : Nat))).box (p := w.heap.size + 1) (.inl HPB.out) 0 (.int .u64 (x : Nat))).box (p := w.heap.size + 1) (.inl HPB.out) 1 (.int .u64 (tv : Nat))).box (p := w.heap.size + 1) (.inl HPB.out) 2 (.slice (some (ad.add (k * 5))) (l.length - k) (c3 - k)))
              exact ⟨HP.out _ _ _ _ (HLD.out.symm) (h9.more (by simp) (Nat.zero_le _)), (((((HB5.out.setCell (by exact Nat.le_refl _) _).setCell (by exact Nat.le_refl _) _).setCell (by exact Nat.le_refl _) _).setCell (by exact Nat.le_succ _) _).setCell (by exact Nat.le_succ _) _).setCell (by exact Nat.le_succ _) _⟩
    · have h1' : ((eI b l : Nat) : Int) < (x : Int) := by omega
      have HP := Lib.hid (fun w' => TrR.bad (b := b) (t := t) (l := l) (x := x) (by unfold trOk; rw [hk]; simpa using h1) (r := 6) (by unfold trE; rw [hk, if_pos rfl, if_neg h1]) w')
      generalize eI b l = y at *
      generalize eT t l = z at *
      clear hk hb hx h1 he
      go_enter Try.func29, Try.ntmps29
      go_wp2_with (go_at_call 23; go_loud ((with_reducible refine (HC.out).mono ?_); rintro e w1 ⟨rfl, hb⟩; have HB1 := Lib.hid (HB0.out.trans (hb.mono HB0.out.size)); have HS1 := Lib.hid (HS0.out.on hb); have C1 := Lib.hid (C0.out.below hb); have R1 := Lib.hid (R0.out.below hb); obtain ⟨d10, d11, d12⟩ := C1.out.cells; obtain ⟨f10, f11, f12⟩ := C1.out.fz; obtain ⟨e10, e11, e12⟩ := R1.out.cells; obtain ⟨g10, g11, g12⟩ := R1.out.fz; clear hb))
      go_wp2_with (go_at_call 32; go_loud ((with_reducible refine (HE.out _ HS1.out).mono ?_); rintro e w2 ⟨rfl, hb⟩; have HB2 := Lib.hid (HB1.out.trans (hb.mono HB1.out.size)); have HS2 := Lib.hid (HS1.out.on hb); have C2 := Lib.hid (C1.out.below hb); have R2 := Lib.hid (R1.out.below hb); obtain ⟨d20, d21, d22⟩ := C2.out.cells; obtain ⟨f20, f21, f22⟩ := C2.out.fz; obtain ⟨e20, e21, e22⟩ := R2.out.cells; obtain ⟨g20, g21, g22⟩ := R2.out.fz; clear hb))
      go_wp2
      refine bodyPost_log2 rfl (w.heap.size + 1) 0 0 (.slice none 0 0) rfl rfl ?_ ?_
      case refine_1 => exact ((R2.out.set0 _).set1 _).set2 _
      case refine_2 => exact ⟨HP.out _, ((HB2.out.setCell (by exact Nat.le_succ _) _).setCell (by exact Nat.le_succ _) _).setCell (by exact Nat.le_succ _) _⟩
end Lo
end Go.Proofs.Ytjalmciaaenmjaa
