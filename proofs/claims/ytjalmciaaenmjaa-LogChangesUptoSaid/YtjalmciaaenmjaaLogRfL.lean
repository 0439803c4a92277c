/-
  gafferref14.Join, where something is left.
-/
import Derived.Test.YtjalmciaaenmjaaLogRfK
import Derived.Deep.RegionLaw
import Derived.Deep.RegionHeld3
import Derived.Deep.DeepCutAuto
namespace Go.Proofs.Ytjalmciaaenmjaa
open Go.RowKit Go.Lib
namespace Lo
set_option linter.unusedVariables false
theorem Bx3.grown {w w' : World} {B : Nat} {a b c : Value} {row : Option Nat} (h : Bx3 w B a b c) (hg : w.grownBy w' row) (hne : ∀ g, row = some g → g ≠ B) : Bx3 w' B a b c := by
  have hl := h.lt
  obtain ⟨T, h⟩ := h
  exact ⟨T, (hg.block B hl (fun e => hne B e.symm rfl)).trans h⟩
theorem Eb.grown {w w' : World} {B : Nat} {e : En} {u : Value} {row : Option Nat} (h : Eb w B e u) (hg : w.grownBy w' row) (hne : ∀ g, row = some g → g ≠ B) : Eb w' B e u := by
  have hl := h.lt
  exact (hg.block B hl (fun e => hne B e.symm rfl)).trans h
theorem Eb.below {w w' : World} {B : Nat} {e : En} {u : Value} (h : Eb w B e u) (hb : Below w.heap.size w w') : Eb w' B e u := heap_oldR hb h
theorem Eb.far {w : World} {B : Nat} {e : En} {u : Value} (h : Eb w B e u) {p : Nat} (hp : p ≠ B) (j : Nat) (v : Value) : Eb (w.setCell ⟨p, j, none⟩ v) B e u := by
  unfold Eb at *
  simp [World.setCell, Array.getElem?_modify, hp, h]
/-- An append of a row of entries of one's own to another one, within a region. -/
theorem step_ents {ops : Array Oper} {o : Oper} {a : Act} {w : World} {K : Act → World → Prop} {Q : Exit → Act → World → Prop} {E : Prop} (hgd : o.guard = none) (s x : Operand)
    (ho : o.op = .call { callee := .builtin .append, args := #[s, x], argTypes := #[23, 23] })
    (base base2 : Nat) (hbb : base ≤ base2) (hb2 : base2 ≤ w.heap.size) (l r : List En) (v : Value) (hs : a.eval s = v) (h : Gr w base v l) (a2 : Option Addr) (c2 n2 : Nat) (hx : a.eval x = .slice a2 n2 c2) (hn2 : n2 = r.length) (h2 : Gr w base2 (.slice a2 n2 c2) r) (hr : 0 < r.length)
    (hA : ∀ g, v.ownBlock = some g → g < base2) (hl : l.length + r.length ≤ 2199023255551)
    (hk : ∀ a' c' w', Sl w' base w'.heap.size a' c' (l ++ r) → w.grownBy w' v.ownBlock → K (a.put o.dst (.slice a' (l ++ r).length c')) w') :
    if Region.wanted o (yielded ops a.tmps) = true then Oper.wp Try.prog o a w K Q else E := by
  have hw : Region.wanted o (yielded ops a.tmps) = true := by simp [Region.wanted, hgd]
  rw [if_pos hw]
  subst hn2
  obtain ⟨i0, hi, hq0, hq1, hq2⟩ := info_parts info_entry
  obtain ⟨ps, p1, p2, p3⟩ := h
  obtain ⟨qs, q1, q2, q3⟩ := h2
  have hql : qs.length = r.length := by rw [← q1, List.length_map]
  rcases q2.2 with ⟨-, h0⟩ | ⟨g, cap, cur, e, -, -⟩
  · omega
  · simp only [Value.slice.injEq] at e
    obtain ⟨rfl, -, -⟩ := e
    have hnews := World.ownsRow.cells q2 (g := g) rfl
    have hone : ∀ u ∈ flatE qs, u.oneCell' = true := flatE_one qs (fun p hp => by
      obtain ⟨-, -, A, B, hI, -⟩ := q3 p hp
      obtain ⟨a, c, e⟩ := hI.slice
      unfold OneC
      rw [e]
      rfl)
    refine wp_append_own w s x _ ho base 53 i0 _ 5 64 Try.underlying23 hi hq0 hq1 hq2 rfl (by omega) v l.length (flatE ps) hs p2 ⟨g, 0, none⟩ r.length c2 (flatE qs) hx (by rw [flatE_len, hql]) hnews hone (by unfold maxLen; omega) (by omega) (by omega) ?_
    intro v' w' hown hg _
    rw [← flatE_app, ← List.length_append] at hown
    obtain ⟨a', c', e', r1, r2, r3⟩ := own_rowp (A := base) (B := w'.heap.size) (l := l ++ r) (ps := ps ++ qs) (by rw [List.map_append, p1, q1]) (fun p hp => by
      rcases List.mem_append.1 hp with hp | hp
      · obtain ⟨k1, k2, A, B, k3, k0, k4, k5⟩ := p3 p hp
        exact ⟨(k3.grown hg k5).more (Nat.le_trans k4 hg.size) k0, k1, k2⟩
      · obtain ⟨k1, k2, A, B, k3, k0, k4, k5⟩ := q3 p hp
        exact ⟨(k3.grown hg (fun g hgg => .inl (by have := hA g hgg; omega))).more (Nat.le_trans k4 hg.size) (Nat.le_trans hbb k0), k1, k2⟩) hown
    subst e'
    refine hk a' c' w' ⟨fun hp => ?_, r1, r2, by rw [List.length_append]; exact hl⟩ hg
    obtain ⟨g, rfl, hbg, hlt, hf, hc⟩ := r3 hp
    refine ⟨g, 0, rfl, hbg, hlt, fun i hi => ?_⟩
    rw [Nat.zero_add]
    exact hc i hi
theorem jr_pt_nil {b t : Nat} {l s : List En} (h : pt b t l s = []) : jr b t l s = (b, t, l, 0, 0) := by
  unfold jr joinB joinL joinF
  rw [h]
  rfl
theorem jr_pt {b t : Nat} {l s r : List En} {e : En} (h : pt b t l s = e :: r) : jr b t l s = if okB b t (l.take (mny b l.length (e.i - 1)) ++ e :: r) = true then (b, t, l.take (mny b l.length (e.i - 1)) ++ e :: r, e.i, 0) else (0, 0, [], 0, 17) := by
  unfold jr joinB joinL joinF
  rw [h]
theorem jv_left {b t x u X U : Nat} {l s : List En} (hx : Lt64 x) (hk : okB b t l = true) (hr : rowB x s = true) {J : Nat} (hJ : J < s.length) (h1 : ∀ j, j < J → ∀ (h : j < s.length), s[j].i ≤ b) (h2 : b < s[J].i) (hX : X = x + J) (hU : U = if J = 0 then u else t) :
    ¬ X < b ∧ jv b t l x u s = if rfE b t l X U = 0 then jr b t l (s.drop J) else (0, 0, [], 0, rfE b t l X U) := by
  have hi := (row_is s x hr hx).2
  have e2 := (hi J hJ).1
  by_cases hlt : x < b
  · have hJ0 : 0 < J := by
      rcases Nat.eq_zero_or_pos J with rfl | h
      · omega
      · exact h
    have e1 := h1 (J - 1) (by omega) (by omega)
    have e3 := (hi (J - 1) (by omega)).1
    have hXb : X = b := by omega
    have hJb : J = b - x := by omega
    obtain rfl : U = t := by rw [hU, if_neg (by omega)]
    refine ⟨by omega, ?_⟩
    unfold jv
    rw [if_neg (by rw [hk]; simp), if_neg (by rw [hr]; simp), show jnX b x = b from if_pos hlt, show jnU b U x u = U from if_pos hlt, show jnS b x s = s.drop J by unfold jnS; rw [if_pos hlt, hJb, Nat.min_eq_left (by omega)], hXb]
  · have hJ0 : J = 0 := by
      apply Nat.eq_zero_of_not_pos
      intro hp
      have e1 := h1 0 hp (by omega)
      have e3 := (hi 0 (by omega)).1
      omega
    subst hJ0
    obtain rfl : X = x := hX
    obtain rfl : U = u := hU
    refine ⟨hlt, ?_⟩
    unfold jv
    rw [if_neg (by rw [hk]; simp), if_neg (by rw [hr]; simp), show jnX b X = X from if_neg hlt, show jnU b t X U = U from if_neg hlt, show jnS b X s = s from if_neg hlt, List.drop_zero]
set_option maxHeartbeats 16000000 in
set_option maxRecDepth 100000 in
theorem ref_join_left (b t x u : Nat) (a : Option Addr) (c : Nat) (l : List En) (a2 : Option Addr) (c2 : Nat) (s : List En) (w : World) {A A2 : Nat} (h : Sl w A w.heap.size a c l) (h2 : Sl w A2 w.heap.size a2 c2 s) (hb : Lt64 b) (hx : Lt64 x) (hs : l.length + s.length ≤ 2199023255551) (hk : okB b t l = true) (hr : rowB x s = true) (J : Nat) (hJ : J < s.length) (hJ1 : ∀ j, j < J → ∀ (h : j < s.length), s[j].i ≤ b) (hJ2 : b < s[J].i) :
    Calls Try.prog 27 #[.agg #[.int .u64 (b : Nat), .int .u64 (t : Nat), .slice a l.length c], .int .u64 (x : Nat), .int .u64 (u : Nat), .slice a2 s.length c2] w fun e w' => JO (jv b t l x u s) e w' ∧ Below w.heap.size w w' := by
  have hB : Below w.heap.size w ((w.alloc (.cells #[.int .u64 (b : Nat), .int .u64 (t : Nat), .slice a l.length c] 25)).alloc (.cells #[.int .u64 0, .int .u64 0, .slice none 0 0] 25)) := ((Below.refl _ _).alloc (Nat.le_refl _) _).alloc (by simp) _
  have HB0 := Lib.hid hB
  have C0 := Lib.hid ((Bx3.made w (.int .u64 (b : Nat)) (.int .u64 (t : Nat)) (.slice a l.length c) 25).al (.cells #[.int .u64 0, .int .u64 0, .slice none 0 0] 25))
  have R0 := Lib.hid (show Bx3 ((w.alloc (.cells #[.int .u64 (b : Nat), .int .u64 (t : Nat), .slice a l.length c] 25)).alloc (.cells #[.int .u64 0, .int .u64 0, .slice none 0 0] 25)) (w.heap.size + 1) (.int .u64 0) (.int .u64 0) (.slice none 0 0) by have h9 := Bx3.made (w.alloc (.cells #[.int .u64 (b : Nat), .int .u64 (t : Nat), .slice a l.length c] 25)) (.int .u64 0) (.int .u64 0) (.slice none 0 0) 25; rw [World.size_alloc] at h9; exact h9)
  have HC := Lib.hid (check_log b t a c l _ (h.on hB) hb)
  have HSL := Lib.hid (fun z (hz : Below w.heap.size w z) => (h.keep hz).more hz.size (Nat.zero_le A))
  have HS2 := Lib.hid (fun z (hz : Below w.heap.size w z) => h2.keep hz)
  have HSS := Lib.hid (fun z (hz : Below w.heap.size w z) => (h2.keep hz).more (Nat.le_refl _) (Nat.zero_le A2))
  have HLN := Lib.hid h2.len
  have HLL := Lib.hid h.len
  have HROW := Lib.hid (row_is s x hr hx)
  have HXL := Lib.hid (row_is s x hr hx).1
  unfold Lt64 at HXL
  have HE := Lib.hid (eI_ok hk hb)
  have HBX := Lib.hid hb
  have HJ : Hid (J ≤ s.length ∧ ∀ j, j < J → ∀ (h : j < s.length), s[j].i ≤ b) := ⟨by omega, hJ1⟩
  have HJS : Hid (J < s.length ∧ ∀ (h : J < s.length), b < s[J].i) := ⟨hJ, fun _ => hJ2⟩
  have HJB : Hid (∀ X U, X = x + J → U = (if J = 0 then u else t) → ¬ X < b ∧ jv b t l x u s = if rfE b t l X U = 0 then jr b t l (s.drop J) else (0, 0, [], 0, rfE b t l X U)) := fun X U hX hU => jv_left hx hk hr hJ hJ1 hJ2 hX hU
  have HSLN := Lib.hid hs
  rw [hk, lgE_t] at HC
  clear hB h h2 hs
  go_enter Try.func27, Try.ntmps27
  go_wp2_with (go_at_call 23; go_loud ((with_reducible refine HC.out.mono ?_); rintro e w1 ⟨rfl, hb⟩; have HB1 := Lib.hid (HB0.out.trans (hb.mono HB0.out.size)); have HL1 := Lib.hid hb; have C1 := Lib.hid (C0.out.below hb); have R1 := Lib.hid (R0.out.below hb); obtain ⟨d10, d11, d12⟩ := C1.out.cells; obtain ⟨f10, f11, f12⟩ := C1.out.fz; obtain ⟨e10, e11, e12⟩ := R1.out.cells; obtain ⟨g10, g11, g12⟩ := R1.out.fz; clear hb))
  go_wp2
  go_loopg [23] s.length (fun gg i wx => ∃ k : Nat, k + gg = s.length ∧ i = .int .i64 k ∧ Aside (Below w1.heap.size w1 wx))
  case atStart => exact ⟨0, by omega, rfl, Below.refl _ _⟩
  case round =>
    obtain ⟨k, hkg, rfl, HBW⟩ := hrel
    cases gk with
    | zero =>
      obtain rfl : k = s.length := by omega
      clear hkg
      have HB2 := Lib.hid (HB1.out.trans (HBW.out.mono HB1.out.size))
      have C2 := Lib.hid (C1.out.below HBW.out)
      have R2 := Lib.hid (R1.out.below HBW.out)
      obtain ⟨d20, d21, d22⟩ := C2.out.cells
      obtain ⟨f20, f21, f22⟩ := C2.out.fz
      have HPB := Lib.hid (show w.heap.size + 1 < wr.heap.size from R2.out.lt)
      have HG0 := Lib.hid (copy_gr b t a c l wr (A := 0) (HSL.out _ HB2.out))
      go_wp2_with (go_at_call 24; go_loud ((with_reducible refine HG0.out.mono ?_); rintro e w3 ⟨⟨a3, c3, rfl, hg⟩, hb⟩; have HB3 := Lib.hid (HB2.out.trans (hb.mono HB2.out.size)); have C3 := Lib.hid (C2.out.below hb); have R3 := Lib.hid (R2.out.below hb); obtain ⟨d30, d31, d32⟩ := C3.out.cells; obtain ⟨f30, f31, f32⟩ := C3.out.fz; have HG3 := Lib.hid hg; have HZ3 := Lib.hid hb.size; clear hg hb))
      have C4 := Lib.hid (((C3.out.set0 (.int .u64 (b : Nat))).set1 (.int .u64 (t : Nat))).set2 (.slice a3 l.length c3))
      have R4 := Lib.hid (((R3.out.far (p := w.heap.size) (by omega) 0 (.int .u64 (b : Nat))).far (p := w.heap.size) (by omega) 1 (.int .u64 (t : Nat))).far (p := w.heap.size) (by omega) 2 (.slice a3 l.length c3))
      have HB4 := Lib.hid (((HB3.out.setCell (p := ⟨w.heap.size, 0, none⟩) (by exact Nat.le_refl _) (.int .u64 (b : Nat))).setCell (p := ⟨w.heap.size, 1, none⟩) (by exact Nat.le_refl _) (.int .u64 (t : Nat))).setCell (p := ⟨w.heap.size, 2, none⟩) (by exact Nat.le_refl _) (.slice a3 l.length c3))
      have HG4 := Lib.hid (((HG3.out.put (p := w.heap.size) (by have := HPB.out; omega) (by have := C3.out.lt; omega) 0 (.int .u64 (b : Nat))).put (p := w.heap.size) (by have := HPB.out; omega) (by have := C3.out.lt; simp; omega) 1 (.int .u64 (t : Nat))).put (p := w.heap.size) (by have := HPB.out; omega) (by have := C3.out.lt; simp; omega) 2 (.slice a3 l.length c3))
      have HZ4 : Hid (wr.heap.size ≤ (((w3.setCell ⟨w.heap.size, 0, none⟩ (.int .u64 (b : Nat))).setCell ⟨w.heap.size, 1, none⟩ (.int .u64 (t : Nat))).setCell ⟨w.heap.size, 2, none⟩ (.slice a3 l.length c3)).heap.size) := by show _ ≤ _; simp; exact HZ3.out
      generalize ((w3.setCell ⟨w.heap.size, 0, none⟩ (.int .u64 (b : Nat))).setCell ⟨w.heap.size, 1, none⟩ (.int .u64 (t : Nat))).setCell ⟨w.heap.size, 2, none⟩ (.slice a3 l.length c3) = w4 at *
      generalize wr.heap.size = base at *
      clear d20 d21 d22 f20 f21 f22 d30 d31 d32 f30 f31 f32 C3 R3 HB3 HG3 HG0 C2 R2
      go_loopg [1, 2, 3] J (fun gg iv tv sv wx => ∃ (j : Nat) (av : Option Addr) (cv n X U : Nat), j + gg = J ∧ iv = .int .u64 (X : Nat) ∧ tv = .int .u64 (U : Nat) ∧ sv = .slice av n cv ∧ Aside (X = x + j ∧ U = (if j = 0 then u else t) ∧ n = s.length - j) ∧ Aside (Below w4.heap.size w4 wx) ∧ Aside (Sl wx 0 w.heap.size av cv (s.drop j)))
      case atStart => exact ⟨0, _, _, _, x, u, by omega, rfl, rfl, rfl, ⟨rfl, rfl, rfl⟩, Below.refl _ _, HSS.out _ HB4.out⟩
      case round =>
        obtain ⟨j, av, cv, n, X, U, hjg, rfl, rfl, rfl, HV, HBW2, HSJ⟩ := hrel
        have C5 := Lib.hid (C4.out.below HBW2.out)
        have R5 := Lib.hid (R4.out.below HBW2.out)
        obtain ⟨d50, d51, d52⟩ := C5.out.cells
        cases gk with
        | zero =>
          obtain rfl : j = J := by omega
          clear hjg
          obtain ⟨e50, e51, e52⟩ := R5.out.cells
          obtain ⟨g50, g51, g52⟩ := R5.out.fz
          have HG5 := Lib.hid (HG4.out.below HBW2.out)
          have HB5 := Lib.hid (HB4.out.trans (HBW2.out.mono HB4.out.size))
          have HZ5 := Lib.hid (Nat.le_trans HZ4.out HBW2.out.size)
          clear C4 R4 HG4 HB4
          have hX := HV.out.1
          have hU := HV.out.2.1
          obtain ⟨hXb, hJV0⟩ := HJB.out X U hX hU
          have HJV := Lib.hid hJV0
          have hJl := HJS.out.1
          have hnv := HV.out.2.2
          obtain ⟨blk, off, rfl, -, hbk, ue, hcz⟩ := HSJ.out.at 0 (by rw [List.length_drop]; omega)
          have z0 := hcz.c0
          have ez0 : (s.drop j)[0]'(by rw [List.length_drop]; omega) = s[j] := by rw [List.getElem_drop]; rfl
          rw [ez0, Nat.zero_mul, Nat.add_zero] at z0
          have hez : b < s[j].i := HJS.out.2 hJl
          generalize s[j].i = ez at *
          have hcp := HSJ.out.cap
          rw [List.length_drop] at hcp
          have n0 : (0 : Int) < (n : Int) := by omega
          have n0' : 0 < n := by omega
          have n0'' : decide (0 < n) = true := by simp; omega
          have nz1 : decide (ez ≤ b) = false := by simp; omega
          have nz2 : ¬ (ez : Int) ≤ (b : Int) := by omega
          have HLA : Hid (∀ z, Below wr.heap.size wr z → Calls Try.prog 32 #[.agg #[.int .u64 (b : Nat), .int .u64 (t : Nat), .slice a3 l.length c3]] z fun e w' => e = .returned (.tuple #[.int .u64 (eI b l : Nat), .int .u64 (eT t l : Nat)]) ∧ Below z.heap.size z w') := fun z hz => last_log b t a3 c3 l z (A := 0) ((HG5.out.below hz).sl HLL.out)
          rw [HE.out] at HLA
          have t1 : decide (X < b) = false := by simpa using hXb
          have t2 : ¬ (X : Int) < (b : Int) := by omega
          have hx64 : Lt64 X := by have := HXL.out; unfold Lt64; omega
          have HXF : Hid (X = x + j ∧ b ≤ X) := ⟨hX, by omega⟩
          have HNV := Lib.hid hnv
          have HCP := Lib.hid hcp
          clear hcz ez0 hez hcp hnv hJV0 hJl
          generalize eT t l = yt at *
          by_cases h6 : b + l.length < X
          · have u1 : decide (b + l.length < X) = true := by simpa using h6
            have u2 : ((b + l.length : Nat) : Int) < (X : Int) := by omega
            have hr6 : rfE b t l X U = 6 := by unfold rfE tmE; rw [if_neg (by rw [if_neg hXb, if_pos h6]; decide), if_neg hXb, if_pos h6]
            have HP := Lib.hid (fun w' => JO.no (q := jv b t l x u s) (R := 6) (by rw [HJV.out, hr6]; rfl) w')
            obtain ⟨y, hy⟩ : ∃ y, b + l.length = y := ⟨_, rfl⟩
            rw [hy] at u1 u2 HLA
            clear hX hU hr6 h6 hy hx64
            go_wp2
            go_quiet (fail)
            go_wp2_with (go_at_call 32; go_loud ((with_reducible refine (HLA.out _ (bdN (Below.refl wr.heap.size wr) nq)).mono ?_); rintro e w6 ⟨rfl, hb⟩; have HW6 := Lib.hid ((bdN (Below.refl wr.heap.size wr) nq).trans (hb.mono (bdN (Below.refl wr.heap.size wr) nq).size)); have C6 := Lib.hid ((C5.out.dn nq).below hb); have R6 := Lib.hid ((R5.out.dn nq).below hb); obtain ⟨d60, d61, d62⟩ := C6.out.cells; obtain ⟨e60, e61, e62⟩ := R6.out.cells; obtain ⟨g60, g61, g62⟩ := R6.out.fz; clear hb))
            go_wp2
            refine bodyPost_log3 rfl (w.heap.size + 1) 0 0 (.slice none 0 0) rfl rfl ?_ ?_
            case refine_1 => exact (((R6.out).set0 _).set1 _).set2 _
            case refine_2 => exact ⟨HP.out _, (((HB5.out.trans ((HW6.out).mono HB5.out.size)).setCell (by exact Nat.le_succ _) _).setCell (by exact Nat.le_succ _) _).setCell (by exact Nat.le_succ _) _⟩
          · have u1 : decide (b + l.length < X) = false := by simpa using h6
            have u2 : ¬ ((b + l.length : Nat) : Int) < (X : Int) := by omega
            have HAT : Hid (∀ z, Below wr.heap.size wr z → Calls Try.prog 34 #[.agg #[.int .u64 (b : Nat), .int .u64 (t : Nat), .slice a3 l.length c3], .int .u64 (X : Nat)] z fun e w' => e = .returned (.int .u64 (tmV b t l X : Nat)) ∧ Below z.heap.size z w') := fun z hz => at_log b t X a3 c3 l z (A := 0) ((HG5.out.below hz).sl HLL.out) (by omega) (by omega) hx64
            have hrf : rfE b t l X U = if tmV b t l X = U then 0 else 18 := by unfold rfE; rw [if_pos (tmE_in (by omega) (by omega))]
            rw [hrf] at HJV
            generalize tmV b t l X = tv at *
            obtain ⟨y, hy⟩ : ∃ y, b + l.length = y := ⟨_, rfl⟩
            rw [hy] at u1 u2 HLA
            by_cases h7 : tv = U
            · subst h7
              have v1 : ((tv : Int) != (tv : Int)) = false := by simp
              have HJR : Hid (jv b t l x u s = jr b t l (s.drop j)) := HJV.out.trans (if_pos (if_pos rfl))
              clear hX hU hrf hx64 HJV
              go_wp2
              go_quiet (fail)
              go_wp2_with (go_at_call 32; go_loud ((with_reducible refine (HLA.out _ (bdN (Below.refl wr.heap.size wr) nq)).mono ?_); rintro e w6 ⟨rfl, hb⟩; have HW6 := Lib.hid ((bdN (Below.refl wr.heap.size wr) nq).trans (hb.mono (bdN (Below.refl wr.heap.size wr) nq).size)); have C6 := Lib.hid ((C5.out.dn nq).below hb); have R6 := Lib.hid ((R5.out.dn nq).below hb); obtain ⟨d60, d61, d62⟩ := C6.out.cells; obtain ⟨e60, e61, e62⟩ := R6.out.cells; obtain ⟨g60, g61, g62⟩ := R6.out.fz; clear hb))
              go_wp2_with (go_at_call 34; go_loud ((with_reducible refine (HAT.out _ HW6.out).mono ?_); rintro e w7 ⟨rfl, hb⟩; have HW7 := Lib.hid (HW6.out.trans (hb.mono HW6.out.size)); have C7 := Lib.hid (C6.out.below hb); have R7 := Lib.hid (R6.out.below hb); obtain ⟨d70, d71, d72⟩ := C7.out.cells; obtain ⟨e70, e71, e72⟩ := R7.out.cells; obtain ⟨g70, g71, g72⟩ := R7.out.fz; clear hb))
              go_wp2
              have HG7 := Lib.hid (HG5.out.below HW7.out)
              have HB7 := Lib.hid (HB5.out.trans (HW7.out.mono HB5.out.size))
              have HS7 := Lib.hid (HSJ.out.keep (HW7.out.mono HB5.out.size))
              have HZ7 := Lib.hid (Nat.le_trans HZ5.out HW7.out.size)
              have HY := Lib.hid hy
              have HXY : Hid (X + 0 ≤ y) := by have := HY.out; show _ ≤ _; omega
              have HLA7 : Hid (∀ z, Below w7.heap.size w7 z → Calls Try.prog 32 #[.agg #[.int .u64 (b : Nat), .int .u64 (t : Nat), .slice a3 l.length c3]] z fun e w' => e = .returned (.tuple #[.int .u64 (y : Nat), .int .u64 (eT t l : Nat)]) ∧ Below z.heap.size z w') := fun z hz => by
                have h9 := last_log b t a3 c3 l z (A := 0) ((HG7.out.below hz).sl HLL.out)
                rw [HE.out, HY.out] at h9
                exact h9
              clear HW6 HW7 HG5 HB5 HZ5 HSJ HBW2 C5 R5 C6 R6 HLA HAT z0 d50 d51 d52 e50 e51 e52 g50 g51 g52 d60 d61 d62 e60 e61 e62 g60 g61 g62 d70 d71 d72 e70 e71 e72 g70 g71 g72 hy h6 u1 u2 HBW
              go_loopg [93] n (fun gg i wx => ∃ k : Nat, k + gg = n ∧ i = .int .i64 k ∧ Aside (Below w7.heap.size w7 wx) ∧ Aside (pt b t l (s.drop j) = pt b t l ((s.drop j).drop k)) ∧ Aside (X + k ≤ y))
              case atStart => exact ⟨0, by omega, rfl, Below.refl _ _, rfl, HXY.out⟩
              case round =>
                obtain ⟨k, hkg, rfl, HBW, HA, HXK⟩ := hrel
                have C8 := Lib.hid (C7.out.below HBW.out)
                have R8 := Lib.hid (R7.out.below HBW.out)
                obtain ⟨d80, d81, d82⟩ := C8.out.cells
                obtain ⟨f80, f81, f82⟩ := C8.out.fz
                obtain ⟨e80, e81, e82⟩ := R8.out.cells
                obtain ⟨g80, g81, g82⟩ := R8.out.fz
                cases gk with
                | zero =>
                  obtain rfl : k = n := by omega
                  have HPN : Hid (pt b t l (s.drop j) = []) := HA.out.trans (by rw [List.drop_eq_nil_of_le (by have := HNV.out; rw [List.length_drop]; omega)]; rfl)
                  have HPY := Lib.hid (fun w' a c hs => JO.of (q := jv b t l x u s) (w' := w') (a := a) (c := c) (B := b) (T := t) (L := l) (F := 0) (R := 0) (HJR.out.trans (jr_pt_nil HPN.out)) rfl hs)
                  clear hkg HA
                  go_wp2
                  refine bodyPost_log3 rfl (w.heap.size + 1) b t (.slice a3 l.length c3) rfl rfl ?_ ?_
                  case refine_1 => exact ((R8.out.set0 _).set1 _).set2 _
                  case refine_2 =>
                    have hz := R8.out.lt
                    have h9 := ((((HG7.out.below HBW.out).put (p := w.heap.size + 1) HPB.out hz 0 (.int .u64 (b : Nat))).put (p := w.heap.size + 1) HPB.out (by simpa using hz) 1 (.int .u64 (t : Nat))).put (p := w.heap.size + 1) HPB.out (by simpa using hz) 2 (.slice a3 l.length c3))
                    exact ⟨HPY.out _ _ _ (h9.sl HLL.out), (((HB7.out.trans (HBW.out.mono HB7.out.size)).setCell (by exact Nat.le_succ _) _).setCell (by exact Nat.le_succ _) _).setCell (by exact Nat.le_succ _) _⟩
                | succ gg =>
                  have hkS : k < (s.drop j).length := by rw [List.length_drop]; have := HNV.out; omega
                  have hkn : k < n := by omega
                  have hlt2 : (k : Int) < (n : Int) := by omega
                  have hSW := HS7.out.keep (HBW.out.mono HB7.out.size)
                  have hpath := hSW.path k (by omega)
                  rw [Addr.add_lit] at hpath
                  have HPATH := Lib.hid hpath
                  obtain ⟨blk2, off2, hav, -, hbk2, ub, hc⟩ := hSW.at k hkS
                  cases hav
                  obtain ⟨c0, c1, c2', c3', c4, iv, i64, t64⟩ := hc
                  obtain ⟨ua, uc, rfl⟩ := iv.slice
                  have HEI : Hid ((s.drop j)[k].i = X + k + 1) := by
                    have h1 := (HROW.out.2 (j + k) (by rw [List.length_drop] at hkS; omega)).1
                    have h2 := HXF.out.1
                    show _ = _
                    rw [List.getElem_drop]
                    omega
                  have HPT := Lib.hid (pt_at b t l (s.drop j) k hkS)
                  have HDR := Lib.hid (List.drop_eq_getElem_cons hkS)
                  have HLK : Hid (((s.drop j).drop k).length = n - k) := by show _ = _; rw [List.length_drop, List.length_drop]; have := HNV.out; omega
                  have HK := Lib.hid hkg
                  have tk : IntKind.i64.wrap ((k : Int) + 1) = (k : Int) + 1 := by have := HNV.out; have := HLN.out; rw [IntKind.wrap_i64]; omega
                  have HE8 := Lib.hid (heap_alloc_new wr (.cells #[.int .u64 ((s.drop j)[k].i : Nat), .int .u64 ((s.drop j)[k].t : Nat), .int .u8 ((s.drop j)[k].k : Nat), .string (s.drop j)[k].d, .slice ua (s.drop j)[k].ks.length uc] 53))
                  have HAL := Lib.hid (HBW.out.alloc HBW.out.size (.cells #[.int .u64 ((s.drop j)[k].i : Nat), .int .u64 ((s.drop j)[k].t : Nat), .int .u8 ((s.drop j)[k].k : Nat), .string (s.drop j)[k].d, .slice ua (s.drop j)[k].ks.length uc] 53))
                  have HA8 := Lib.hid ((Below.refl wr.heap.size wr).alloc (Nat.le_refl _) (.cells #[.int .u64 ((s.drop j)[k].i : Nat), .int .u64 ((s.drop j)[k].t : Nat), .int .u8 ((s.drop j)[k].k : Nat), .string (s.drop j)[k].d, .slice ua (s.drop j)[k].ks.length uc] 53))
                  clear hkg iv i64 t64 hpath hSW
                  generalize (s.drop j)[k] = e at *
                  rcases e with ⟨ei, et, ek, ed, eks⟩
                  simp only at c0 c1 c2' c3' c4 HEI HPT HDR HE8 HAL HA8
                  have HGE := Lib.hid HBW.out.size
                  have CA := Lib.hid (C8.out.below HA8.out)
                  obtain ⟨da0, da1, da2⟩ := CA.out.cells
                  go_upto_region 25 with (go_at_call 32; go_loud ((with_reducible refine (HLA7.out _ HAL.out).mono ?_); rintro e w9 ⟨rfl, hb⟩; have HW9 := Lib.hid (HAL.out.trans (hb.mono HAL.out.size)); have C9 := Lib.hid ((C8.out.below HA8.out).below hb); have R9 := Lib.hid ((R8.out.below HA8.out).below hb); have E9 : Hid (Eb w9 wr.heap.size ⟨ei, et, ek, ed, eks⟩ (.slice ua eks.length uc)) := Lib.hid (heap_oldR hb HE8.out); have HP9 := Lib.hid ((HPATH.out.keep (HA8.out.mono (Nat.le_trans HB7.out.size HGE.out))).keep (hb.mono (Nat.le_trans (Nat.le_trans HB7.out.size HGE.out) HA8.out.size))); obtain ⟨d90, d91, d92⟩ := C9.out.cells; obtain ⟨f90, f91, f92⟩ := C9.out.fz; obtain ⟨k90, k91, -⟩ := E9.out.cells; clear hb))
                  clear da0 da1 da2 CA
                  clear HPATH HE8 HAL HA8 C8 R8 d80 d81 d82 f80 f81 f82 e80 e81 e82 g80 g81 g82 c0 c1 c2' c3' c4 HBW
                  generalize wr.heap.size = ge at *
                  go_cut [115] (fun sv wx => sv = .bool (ptB b t l ⟨ei, et, ek, ed, eks⟩) ∧ Aside (Below w9.heap.size w9 wx))
                  case first =>
                    have HPBV : Hid (ptB b t l ⟨ei, et, ek, ed, eks⟩ = (decide (tmE b l.length ei = 0) && decide (tmV b t l ei = et))) := rfl
                    generalize ptB b t l ⟨ei, et, ek, ed, eks⟩ = pb at *
                    by_cases hle : ei ≤ y
                    · have le1 : decide (ei ≤ y) = true := by simpa using hle
                      have le2 : (ei : Int) ≤ (y : Int) := by omega
                      have KAT0 : Hid (∀ z, Below w9.heap.size w9 z → Calls Try.prog 34 #[.agg #[.int .u64 (b : Nat), .int .u64 (t : Nat), .slice a3 l.length c3], .int .u64 (ei : Nat)] z fun e w' => e = .returned (.int .u64 (tmV b t l ei : Nat)) ∧ Below z.heap.size z w') := fun z hz => at_log b t ei a3 c3 l z (A := 0) ((HG7.out.below (HW9.out.trans (hz.mono HW9.out.size))).sl HLL.out) (by have := HEI.out; have := HXF.out.2; omega) (by have := HY.out; omega) (by have := HEI.out; have := HXF.out.1; have := HXL.out; have := HNV.out; unfold Lt64; omega)
                      have HPB2 : Hid (pb = decide (tmV b t l ei = et)) := HPBV.out.trans (by rw [tmE_in (by have := HEI.out; have := HXF.out.2; omega) (by have := HY.out; omega)]; simp)
                      generalize tmV b t l ei = tv2 at *
                      have KAT : Hid (∀ z, (z.cell? ⟨w.heap.size, 0, none⟩ = some (.int .u64 (b : Nat)) ∧ z.cell? ⟨w.heap.size, 1, none⟩ = some (.int .u64 (t : Nat)) ∧ z.cell? ⟨w.heap.size, 2, none⟩ = some (.slice a3 l.length c3) ∧ z.cell? ⟨ge, 0, none⟩ = some (.int .u64 (ei : Nat)) ∧ z.cell? ⟨ge, 1, none⟩ = some (.int .u64 (et : Nat)) ∧ Hid (Below w9.heap.size w9 z)) →
                          Calls Try.prog 34 #[.agg #[.int .u64 (b : Nat), .int .u64 (t : Nat), .slice a3 l.length c3], .int .u64 (ei : Nat)] z fun e z' => e = .returned (.int .u64 (tv2 : Nat)) ∧ (z'.cell? ⟨w.heap.size, 0, none⟩ = some (.int .u64 (b : Nat)) ∧ z'.cell? ⟨w.heap.size, 1, none⟩ = some (.int .u64 (t : Nat)) ∧ z'.cell? ⟨w.heap.size, 2, none⟩ = some (.slice a3 l.length c3) ∧ z'.cell? ⟨ge, 0, none⟩ = some (.int .u64 (ei : Nat)) ∧ z'.cell? ⟨ge, 1, none⟩ = some (.int .u64 (et : Nat)) ∧ Hid (Below w9.heap.size w9 z'))) := by
                        rintro z ⟨-, -, -, -, -, hz⟩
                        refine (KAT0.out z hz.out).mono ?_
                        rintro e z' ⟨he, hb⟩
                        have hz2 := hz.out.trans (hb.mono hz.out.size)
                        obtain ⟨m0, m1, m2⟩ := (C9.out.below hz2).cells
                        obtain ⟨m3, m4, -⟩ := (E9.out.below hz2).cells
                        exact ⟨he, m0, m1, m2, m3, m4, hz2⟩
                      have KD : Hid (w9.drew.cell? ⟨w.heap.size, 0, none⟩ = some (.int .u64 (b : Nat)) ∧ w9.drew.cell? ⟨w.heap.size, 1, none⟩ = some (.int .u64 (t : Nat)) ∧ w9.drew.cell? ⟨w.heap.size, 2, none⟩ = some (.slice a3 l.length c3) ∧ w9.drew.cell? ⟨ge, 0, none⟩ = some (.int .u64 (ei : Nat)) ∧ w9.drew.cell? ⟨ge, 1, none⟩ = some (.int .u64 (et : Nat)) ∧ Hid (Below w9.heap.size w9 w9.drew)) := ⟨d90, d91, d92, k90, k91, (Below.refl _ _).drew⟩
                      clear HPBV KAT0
                      by_cases htv : tv2 = et
                      · have HPB3 : Hid (pb = true) := HPB2.out.trans (decide_eq_true htv)
                        have w1e : (tv2 == et) = true := by simpa using htv
                        have w2e : ((tv2 : Int) == (et : Int)) = true := by simp; omega
                        clear htv HPB2 hle
                        go_region_held3 (fun z => z.cell? ⟨w.heap.size, 0, none⟩ = some (.int .u64 (b : Nat)) ∧ z.cell? ⟨w.heap.size, 1, none⟩ = some (.int .u64 (t : Nat)) ∧ z.cell? ⟨w.heap.size, 2, none⟩ = some (.slice a3 l.length c3) ∧ z.cell? ⟨ge, 0, none⟩ = some (.int .u64 (ei : Nat)) ∧ z.cell? ⟨ge, 1, none⟩ = some (.int .u64 (et : Nat)) ∧ Hid (Below w9.heap.size w9 z)) (first | assumption | exact KD.out)
                          ((go_at_call 34; (with_reducible refine (KAT.out _ ?_).mono ?_); assumption; rintro e w10 ⟨rfl, hS⟩))
                        all_goals (go_wp2_with fail; go_meet; exact ⟨by rw [HPB3.out], hS.2.2.2.2.2.out⟩)
                      · have HPB3 : Hid (pb = false) := HPB2.out.trans (decide_eq_false htv)
                        have w1e : (tv2 == et) = false := by simpa using htv
                        have w2e : ((tv2 : Int) == (et : Int)) = false := by simp; omega
                        clear htv HPB2 hle
                        go_region_held3 (fun z => z.cell? ⟨w.heap.size, 0, none⟩ = some (.int .u64 (b : Nat)) ∧ z.cell? ⟨w.heap.size, 1, none⟩ = some (.int .u64 (t : Nat)) ∧ z.cell? ⟨w.heap.size, 2, none⟩ = some (.slice a3 l.length c3) ∧ z.cell? ⟨ge, 0, none⟩ = some (.int .u64 (ei : Nat)) ∧ z.cell? ⟨ge, 1, none⟩ = some (.int .u64 (et : Nat)) ∧ Hid (Below w9.heap.size w9 z)) (first | assumption | exact KD.out)
                          ((go_at_call 34; (with_reducible refine (KAT.out _ ?_).mono ?_); assumption; rintro e w10 ⟨rfl, hS⟩))
                        all_goals (go_wp2_with fail; go_meet; exact ⟨by rw [HPB3.out], hS.2.2.2.2.2.out⟩)
                    · have le1 : decide (ei ≤ y) = false := by simpa using hle
                      have le2 : ¬ (ei : Int) ≤ (y : Int) := by omega
                      have HPB3 : Hid (pb = false) := HPBV.out.trans (by
                        have : ¬ tmE b l.length ei = 0 := fun h => by have := (tmE_0 h).2; have := HY.out; omega
                        rw [decide_eq_false this]; rfl)
                      clear HPBV hle
                      go_quiet (fail)
                      all_goals (go_wp2_with fail; go_meet; exact ⟨by rw [HPB3.out], bdN (Below.refl _ _) _⟩)
                  case rest =>
                    obtain ⟨rfl, HBC⟩ := hcut
                    have CC := Lib.hid (C9.out.below HBC.out)
                    have RC := Lib.hid (R9.out.below HBC.out)
                    have EC := Lib.hid (E9.out.below HBC.out)
                    have HWC := Lib.hid (HW9.out.trans (HBC.out.mono HW9.out.size))
                    have HPC := Lib.hid (HP9.out.keep (HBC.out.mono (Nat.le_trans HB7.out.size HW9.out.size)))
                    clear HP9 C9 R9 E9 d90 d91 d92 f90 f91 f92 k90 k91
                    obtain ⟨q0, q1, q2⟩ := CC.out.cells
                    obtain ⟨r0, r1, r2⟩ := CC.out.fz
                    obtain ⟨k0, k1, -⟩ := EC.out.cells
                    cases hpb : ptB b t l ⟨ei, et, ek, ed, eks⟩
                    · have HP1 : Hid (pt b t l (s.drop j) = ⟨ei, et, ek, ed, eks⟩ :: (s.drop j).drop (k + 1)) := HA.out.trans (HPT.out.trans ((if_neg (by rw [hpb]; simp)).trans HDR.out))
                      have HJ2 := Lib.hid (HJR.out.trans (jr_pt HP1.out))
                      have hq1 : X + k - b ≤ l.length := by have := HXK.out; have := HY.out; omega
                      obtain ⟨q, hq⟩ : ∃ q, X + k - b = q := ⟨_, rfl⟩
                      have hmq : mny b l.length (ei - 1) = q := by
                        have h1 := HEI.out
                        have h2 := HXF.out.2
                        have h3 := HXK.out
                        have h4 := HY.out
                        unfold mny
                        split
                        · omega
                        · rw [Nat.min_eq_left (by omega)]; omega
                      rw [show (⟨ei, et, ek, ed, eks⟩ : En).i = ei from rfl, hmq, ← HDR.out] at HJ2
                      rw [hq] at hq1
                      have x1 : IntKind.u64.wrap ((ei : Int) - (b : Int)) = ((q + 1 : Nat) : Int) := by have h1 := HEI.out; have h2 := HXF.out.2; have := HLL.out; rw [IntKind.wrap_u64]; omega
                      have x2 : IntKind.u64.wrap (((q + 1 : Nat) : Int) - 1) = (q : Int) := by have := HLL.out; rw [IntKind.wrap_u64]; omega
                      obtain ⟨qq, hqq⟩ : ∃ y, q + 1 = y := ⟨_, rfl⟩
                      rw [hqq] at x1 x2
                      have hs3 := (HG7.out.below HWC.out).slb HLL.out
                      have hc3 := hs3.cap
                      have y1 : (q : Int) ≤ (c3 : Int) := by omega
                      have y0 : (0 : Int) ≤ (q : Int) := by omega
                      have hcv := HCP.out
                      have v1 : (k : Int) ≤ (n : Int) := by omega
                      have v2 : (n : Int) ≤ (cv : Int) := by have := HNV.out; omega
                      have v0 : (0 : Int) ≤ (k : Int) := by omega
                      have v3 : ¬ cv = k := by have := HNV.out; omega
                      have v4 : ¬ cv - k = 0 := by have := HNV.out; omega
                      have v5 : ¬ n = k := by omega
                      have HGD : Hid (Gr wc.drew base (.slice a3 l.length c3) l) := HG7.out.below (HWC.out.trans (Below.refl _ _).drew)
                      have HQ1 := Lib.hid hq1
                      have HPOS : Hid (0 < ((s.drop j).drop k).length) := by have := HLK.out; show _ < _; omega
                      have HLN2 : Hid ((l.take q).length + ((s.drop j).drop k).length ≤ 2199023255551) := by have h1 := HLK.out; have h2 := HSLN.out; have := HNV.out; show _ ≤ _; rw [List.length_take]; omega
                      have KCP : Hid (Calls Try.prog 25 #[.slice (some ⟨blk, off + k * 5, none⟩) (n - k) (cv - k)] wc.drew fun e w' => (∃ a' c', e = .returned (.slice a' (n - k) c') ∧ Gr w' wc.heap.size (.slice a' (n - k) c') ((s.drop j).drop k)) ∧ Below wc.heap.size wc.drew w') := by
                        have h9 := copy_ents (some ⟨blk, off + k * 5, none⟩) (cv - k) ((s.drop j).drop k) wc.drew (A := 0) ((HPC.out.keep (Below.refl _ _).drew).more (Nat.le_trans (Nat.le_trans HB7.out.size HWC.out.size) (Nat.le_refl _)) (Nat.le_refl _))
                        rw [HLK.out] at h9
                        exact h9
                      have HOWN : Hid (∀ g, (Value.slice a3 q c3).ownBlock = some g → base ≤ g ∧ g < w7.heap.size ∧ g ≠ ge ∧ g < wc.heap.size) := by
                        intro g hg
                        have h1 := HG7.out.lt g (by cases a3 with
                          | none => simp [Value.ownBlock] at hg
                          | some x => exact hg)
                        have h2 := HGE.out
                        have h3 := HWC.out.size
                        exact ⟨h1.1, h1.2, by omega, by omega⟩
                      have HPBL := HPB.out
                      have HZC : Hid (base ≤ wc.heap.size) := Nat.le_trans HZ7.out HWC.out.size
                      have CD : Hid (Bx3 wc.drew w.heap.size (.int .u64 (b : Nat)) (.int .u64 (t : Nat)) (.slice a3 l.length c3)) := CC.out
                      have RD : Hid (Bx3 wc.drew (w.heap.size + 1) (.int .u64 0) (.int .u64 0) (.slice none 0 0)) := RC.out
                      have ED : Hid (Eb wc.drew ge ⟨ei, et, ek, ed, eks⟩ (.slice ua eks.length uc)) := EC.out
                      have HBD : Hid (Below w.heap.size w wc.drew) := (HB7.out.trans (HWC.out.mono HB7.out.size)).trans (Below.refl _ _).drew
                      obtain ⟨L, hL⟩ : ∃ L, l.take q ++ (s.drop j).drop k = L := ⟨_, rfl⟩
                      rw [hL] at HJ2
                      have HLE := Lib.hid hL
                      clear hq hmq hqq hs3 hc3 hcv HPT HA HDR hpb HP1 hL
                      go_upto_region 26 with fail
                      have p0 : wc.drew.cell? ⟨w.heap.size, 0, none⟩ = some (.int .u64 (b : Nat)) := q0
                      have p2 : wc.drew.cell? ⟨w.heap.size, 2, none⟩ = some (.slice a3 l.length c3) := q2
                      have p3 : wc.drew.cell? ⟨ge, 0, none⟩ = some (.int .u64 (ei : Nat)) := k0
                      go_cut [] (fun wx => ∃ (a4 : Option Addr) (c4 : Nat), Aside (Bx3 wx w.heap.size (.int .u64 (b : Nat)) (.int .u64 (t : Nat)) (.slice a4 L.length c4)) ∧ Aside (Bx3 wx (w.heap.size + 1) (.int .u64 0) (.int .u64 0) (.slice none 0 0)) ∧ Aside (Eb wx ge ⟨ei, et, ek, ed, eks⟩ (.slice ua eks.length uc)) ∧ Aside (Sl wx base wx.heap.size a4 c4 L) ∧ Aside (Below w.heap.size w wx))
                      case first =>
                        refine wp_region_held_drew (S := fun z => z.cell? ⟨w.heap.size, 0, none⟩ = some (.int .u64 (b : Nat)) ∧ z.cell? ⟨ge, 0, none⟩ = some (.int .u64 (ei : Nat)) ∧ Hid (Below w.heap.size w z)) (by kernel_rfl) ⟨p0, p3, HBD.out⟩ (fun hHeld => ?_)
                        refine wpAnyH_take (i := 0) (v := ?_) rfl (by kernel_rfl) (by kernel_rfl) (by kernel_rfl) (fun _ _ _ h => h) (Or.inl ⟨by rfl, ?_⟩) (by assumption) ?_
                        rotate_left
                        · intro z hSz
                          obtain ⟨hz0, hz3, -⟩ := hSz
                          go_simp
                          try with_reducible rfl
                        try simp only [Act.put, List.setIfInBounds_toArray, List.set_cons_zero, List.set_cons_succ, List.getElem_toArray, List.getElem_cons_succ, List.getElem_cons_zero]
                        refine wpAnyH_take (i := 2) (v := ?_) rfl (by kernel_rfl) (by kernel_rfl) (by kernel_rfl) (fun _ _ _ h => h) (Or.inl ⟨by rfl, ?_⟩) (by assumption) ?_
                        rotate_left
                        · intro z hSz
                          obtain ⟨hz0, hz3, -⟩ := hSz
                          go_simp
                          try with_reducible rfl
                        try simp only [Act.put, List.setIfInBounds_toArray, List.set_cons_zero, List.set_cons_succ, List.getElem_toArray, List.getElem_cons_succ, List.getElem_cons_zero]
                        refine wpAnyH_take (i := 3) (v := ?_) rfl (by kernel_rfl) (by kernel_rfl) (by kernel_rfl) (fun _ _ _ h => h) (Or.inl ⟨by rfl, ?_⟩) (by assumption) ?_
                        rotate_left
                        · intro z hSz
                          obtain ⟨hz0, hz3, -⟩ := hSz
                          go_simp
                          try with_reducible rfl
                        try simp only [Act.put, List.setIfInBounds_toArray, List.set_cons_zero, List.set_cons_succ, List.getElem_toArray, List.getElem_cons_succ, List.getElem_cons_zero]
                        refine wpAnyH_take (i := 4) (v := ?_) rfl (by kernel_rfl) (by kernel_rfl) (by kernel_rfl) (fun _ _ _ h => h) (Or.inl ⟨by rfl, ?_⟩) (by assumption) ?_
                        rotate_left
                        · intro z hSz
                          obtain ⟨hz0, hz3, -⟩ := hSz
                          go_simp
                          try with_reducible rfl
                        try simp only [Act.put, List.setIfInBounds_toArray, List.set_cons_zero, List.set_cons_succ, List.getElem_toArray, List.getElem_cons_succ, List.getElem_cons_zero]
                        refine wpAnyH_take (i := 5) (v := ?_) rfl (by kernel_rfl) (by kernel_rfl) (by kernel_rfl) (fun _ _ _ h => h) (Or.inl ⟨by rfl, ?_⟩) (by assumption) ?_
                        rotate_left
                        · intro z hSz
                          obtain ⟨hz0, hz3, -⟩ := hSz
                          go_simp
                          try with_reducible rfl
                        try simp only [Act.put, List.setIfInBounds_toArray, List.set_cons_zero, List.set_cons_succ, List.getElem_toArray, List.getElem_cons_succ, List.getElem_cons_zero]
                        refine wpAnyH_take (i := 6) (v := ?_) rfl (by kernel_rfl) (by kernel_rfl) (by kernel_rfl) (fun _ _ _ h => h) (Or.inl ⟨by rfl, ?_⟩) (by assumption) ?_
                        rotate_left
                        · intro z hSz
                          obtain ⟨hz0, hz3, -⟩ := hSz
                          go_simp
                          try with_reducible rfl
                        try simp only [Act.put, List.setIfInBounds_toArray, List.set_cons_zero, List.set_cons_succ, List.getElem_toArray, List.getElem_cons_succ, List.getElem_cons_zero]
                        refine wpAnyH_take (i := 7) (v := ?_) rfl (by kernel_rfl) (by kernel_rfl) (by kernel_rfl) (fun _ _ _ h => h) (Or.inl ⟨by rfl, ?_⟩) (by assumption) ?_
                        rotate_left
                        · intro z hSz
                          obtain ⟨hz0, hz3, -⟩ := hSz
                          go_simp
                          try with_reducible rfl
                        try simp only [Act.put, List.setIfInBounds_toArray, List.set_cons_zero, List.set_cons_succ, List.getElem_toArray, List.getElem_cons_succ, List.getElem_cons_zero]
                        refine wpAnyH_take (i := 9) (v := ?_) rfl (by kernel_rfl) (by kernel_rfl) (by kernel_rfl) (fun _ _ _ h => h) (Or.inl ⟨by rfl, ?_⟩) (by assumption) ?_
                        rotate_left
                        · intro z hSz
                          obtain ⟨hz0, hz3, -⟩ := hSz
                          go_simp
                          try with_reducible rfl
                        try simp only [Act.put, List.setIfInBounds_toArray, List.set_cons_zero, List.set_cons_succ, List.getElem_toArray, List.getElem_cons_succ, List.getElem_cons_zero]
                        refine wpAnyH_take (i := 10) (v := ?_) rfl (by kernel_rfl) (by kernel_rfl) (by kernel_rfl) (fun _ _ _ h => h) (Or.inl ⟨by rfl, ?_⟩) (by assumption) ?_
                        rotate_left
                        · intro z hSz
                          obtain ⟨hz0, hz3, -⟩ := hSz
                          go_simp
                          try with_reducible rfl
                        try simp only [Act.put, List.setIfInBounds_toArray, List.set_cons_zero, List.set_cons_succ, List.getElem_toArray, List.getElem_cons_succ, List.getElem_cons_zero]
                        refine wpAnyH_take (i := 11) (v := ?_) rfl (by kernel_rfl) (by kernel_rfl) (by kernel_rfl) (fun _ _ _ h => h) (Or.inl ⟨by rfl, ?_⟩) (by assumption) ?_
                        rotate_left
                        · intro z hSz
                          obtain ⟨hz0, hz3, -⟩ := hSz
                          go_simp
                          try with_reducible rfl
                        try simp only [Act.put, List.setIfInBounds_toArray, List.set_cons_zero, List.set_cons_succ, List.getElem_toArray, List.getElem_cons_succ, List.getElem_cons_zero]
                        refine wpAnyH_ready (rs := [1, 12]) (by kernel_rfl) (by simp) ?_
                        refine AllReadyH.cons rfl (fun K hK => ?_) ?_
                        · go_simp
                          refine hK.out _ _ (⟨p0, p3, HBD.out⟩) (fun hHeld2 => ?_)
                          clear hK K hHeld
                          have hHeld := hHeld2
                          clear hHeld2
                          try simp only [Act.put, List.setIfInBounds_toArray, List.set_cons_zero, List.set_cons_succ, List.getElem_toArray, List.getElem_cons_succ, List.getElem_cons_zero]
                          refine wpAnyH_take (i := 8) (v := ?_) rfl (by kernel_rfl) (by kernel_rfl) (by kernel_rfl) (fun _ _ _ h => h) (Or.inl ⟨by rfl, ?_⟩) (by assumption) ?_
                          rotate_left
                          · intro z hSz
                            obtain ⟨hz0, hz3, -⟩ := hSz
                            go_simp
                            try with_reducible rfl
                          try simp only [Act.put, List.setIfInBounds_toArray, List.set_cons_zero, List.set_cons_succ, List.getElem_toArray, List.getElem_cons_succ, List.getElem_cons_zero]
                          refine wpAnyH_ready (rs := [12]) (by kernel_rfl) (by simp) ?_
                          refine AllReadyH.cons rfl (fun K hK => ?_) AllReadyH.nil
                          go_simp
                          refine KCP.out.mono ?_
                          rintro e w10 ⟨⟨a6, c6, rfl, hG⟩, hb⟩
                          try dsimp only
                          have C10 := Lib.hid (CD.out.below hb)
                          have R10 := Lib.hid (RD.out.below hb)
                          have E10 := Lib.hid (ED.out.below hb)
                          obtain ⟨m0, m1, m2⟩ := C10.out.cells
                          obtain ⟨m3, m4, -⟩ := E10.out.cells
                          have HG10 := Lib.hid ((HGD.out.below hb).take q HQ1.out rfl)
                          have HG6 := Lib.hid hG
                          have HZ10 := Lib.hid hb.size
                          have HB10 := Lib.hid (HBD.out.trans (hb.mono HBD.out.size))
                          clear hb hG
                          refine hK.out _ _ (⟨m0, m3, HB10.out⟩) (fun hHeld2 => ?_)
                          clear hK K hHeld
                          have hHeld := hHeld2
                          clear hHeld2
                          try simp only [Act.put, List.setIfInBounds_toArray, List.set_cons_zero, List.set_cons_succ, List.getElem_toArray, List.getElem_cons_succ, List.getElem_cons_zero]
                          refine wpAnyH_ready (rs := [13]) (by kernel_rfl) (by simp) ?_
                          refine AllReadyH.cons rfl (fun K hK => ?_) AllReadyH.nil
                          refine step_ents rfl (.tmp 124) (.tmp 128) rfl base wc.heap.size HZC.out HZ10.out (l.take q) ((s.drop j).drop k) _ rfl HG10.out a6 c6 (n - k) rfl HLK.out.symm HG6.out HPOS.out (fun g hg => (HOWN.out g hg).2.2.2) HLN2.out ?_
                          rw [HLE.out]
                          intro a11 c11 w11 hs11 hg11
                          have C11 := Lib.hid (C10.out.grown hg11 (fun g hg => by have := (HOWN.out g hg).1; omega))
                          have R11 := Lib.hid (R10.out.grown hg11 (fun g hg => by have := (HOWN.out g hg).1; omega))
                          have E11 := Lib.hid (E10.out.grown hg11 (fun g hg => (HOWN.out g hg).2.2.1))
                          obtain ⟨s0, s1, s2⟩ := C11.out.cells
                          obtain ⟨u0, u1, u2⟩ := C11.out.fz
                          obtain ⟨s3, s4, -⟩ := E11.out.cells
                          have HS11 := Lib.hid hs11
                          have HB11 := Lib.hid (HB10.out.grown hg11 HB10.out.size (fun g hg => by have := (HOWN.out g hg).1; omega))
                          clear hs11 hg11
                          refine hK.out _ _ (⟨s0, s3, HB11.out⟩) (fun hHeld2 => ?_)
                          clear hK K hHeld
                          have hHeld := hHeld2
                          clear hHeld2
                          try simp only [Act.put, List.setIfInBounds_toArray, List.set_cons_zero, List.set_cons_succ, List.getElem_toArray, List.getElem_cons_succ, List.getElem_cons_zero]
                          refine wpAnyH_take (i := 14) (v := ?_) rfl (by kernel_rfl) (by kernel_rfl) (by kernel_rfl) (fun _ _ _ h => h) (Or.inl ⟨by rfl, ?_⟩) (by assumption) ?_
                          rotate_left
                          · intro z hSz
                            obtain ⟨hz0, hz3, -⟩ := hSz
                            go_simp
                            try with_reducible rfl
                          try simp only [Act.put, List.setIfInBounds_toArray, List.set_cons_zero, List.set_cons_succ, List.getElem_toArray, List.getElem_cons_succ, List.getElem_cons_zero]
                          refine wpAnyH_ready (rs := [15]) (by kernel_rfl) (by simp) ?_
                          refine AllReadyH.cons rfl (fun K hK => ?_) AllReadyH.nil
                          go_simp
                          refine hK.out _ _ (⟨(C11.out.set2 _).cells.1, (E11.out.far (by have := HGE.out; have := HZ7.out; omega) 2 _).cells.1, HB11.out.setCell (by exact Nat.le_refl _) _⟩) (fun hHeld2 => ?_)
                          clear hK K hHeld
                          have hHeld := hHeld2
                          clear hHeld2
                          try simp only [Act.put, List.setIfInBounds_toArray, List.set_cons_zero, List.set_cons_succ, List.getElem_toArray, List.getElem_cons_succ, List.getElem_cons_zero]
                          refine wpAnyH_done (by kernel_rfl) ?_ _
                          try go_wp2_with fail
                          go_meet
                          exact ⟨a11, c11, C11.out.set2 _, R11.out.far (by omega) 2 _, E11.out.far (by have := HGE.out; have := HZ7.out; omega) 2 _, (HS11.out.box (p := w.heap.size) (.inl (by omega)) 2 _).more (by simp) (Nat.le_refl _), HB11.out.setCell (by exact Nat.le_refl _) _⟩
                        refine AllReadyH.cons rfl (fun K hK => ?_) AllReadyH.nil
                        go_simp
                        refine KCP.out.mono ?_
                        rintro e w10 ⟨⟨a6, c6, rfl, hG⟩, hb⟩
                        try dsimp only
                        have C10 := Lib.hid (CD.out.below hb)
                        have R10 := Lib.hid (RD.out.below hb)
                        have E10 := Lib.hid (ED.out.below hb)
                        obtain ⟨m0, m1, m2⟩ := C10.out.cells
                        obtain ⟨m3, m4, -⟩ := E10.out.cells
                        have HG10 := Lib.hid ((HGD.out.below hb).take q HQ1.out rfl)
                        have HG6 := Lib.hid hG
                        have HZ10 := Lib.hid hb.size
                        have HB10 := Lib.hid (HBD.out.trans (hb.mono HBD.out.size))
                        clear hb hG
                        refine hK.out _ _ (⟨m0, m3, HB10.out⟩) (fun hHeld2 => ?_)
                        clear hK K hHeld
                        have hHeld := hHeld2
                        clear hHeld2
                        try simp only [Act.put, List.setIfInBounds_toArray, List.set_cons_zero, List.set_cons_succ, List.getElem_toArray, List.getElem_cons_succ, List.getElem_cons_zero]
                        refine wpAnyH_ready (rs := [1]) (by kernel_rfl) (by simp) ?_
                        refine AllReadyH.cons rfl (fun K hK => ?_) AllReadyH.nil
                        go_simp
                        refine hK.out _ _ (⟨m0, m3, HB10.out⟩) (fun hHeld2 => ?_)
                        clear hK K hHeld
                        have hHeld := hHeld2
                        clear hHeld2
                        try simp only [Act.put, List.setIfInBounds_toArray, List.set_cons_zero, List.set_cons_succ, List.getElem_toArray, List.getElem_cons_succ, List.getElem_cons_zero]
                        refine wpAnyH_take (i := 8) (v := ?_) rfl (by kernel_rfl) (by kernel_rfl) (by kernel_rfl) (fun _ _ _ h => h) (Or.inl ⟨by rfl, ?_⟩) (by assumption) ?_
                        rotate_left
                        · intro z hSz
                          obtain ⟨hz0, hz3, -⟩ := hSz
                          go_simp
                          try with_reducible rfl
                        try simp only [Act.put, List.setIfInBounds_toArray, List.set_cons_zero, List.set_cons_succ, List.getElem_toArray, List.getElem_cons_succ, List.getElem_cons_zero]
                        refine wpAnyH_ready (rs := [13]) (by kernel_rfl) (by simp) ?_
                        refine AllReadyH.cons rfl (fun K hK => ?_) AllReadyH.nil
                        refine step_ents rfl (.tmp 124) (.tmp 128) rfl base wc.heap.size HZC.out HZ10.out (l.take q) ((s.drop j).drop k) _ rfl HG10.out a6 c6 (n - k) rfl HLK.out.symm HG6.out HPOS.out (fun g hg => (HOWN.out g hg).2.2.2) HLN2.out ?_
                        rw [HLE.out]
                        intro a11 c11 w11 hs11 hg11
                        have C11 := Lib.hid (C10.out.grown hg11 (fun g hg => by have := (HOWN.out g hg).1; omega))
                        have R11 := Lib.hid (R10.out.grown hg11 (fun g hg => by have := (HOWN.out g hg).1; omega))
                        have E11 := Lib.hid (E10.out.grown hg11 (fun g hg => (HOWN.out g hg).2.2.1))
                        obtain ⟨s0, s1, s2⟩ := C11.out.cells
                        obtain ⟨u0, u1, u2⟩ := C11.out.fz
                        obtain ⟨s3, s4, -⟩ := E11.out.cells
                        have HS11 := Lib.hid hs11
                        have HB11 := Lib.hid (HB10.out.grown hg11 HB10.out.size (fun g hg => by have := (HOWN.out g hg).1; omega))
                        clear hs11 hg11
                        refine hK.out _ _ (⟨s0, s3, HB11.out⟩) (fun hHeld2 => ?_)
                        clear hK K hHeld
                        have hHeld := hHeld2
                        clear hHeld2
                        try simp only [Act.put, List.setIfInBounds_toArray, List.set_cons_zero, List.set_cons_succ, List.getElem_toArray, List.getElem_cons_succ, List.getElem_cons_zero]
                        refine wpAnyH_take (i := 14) (v := ?_) rfl (by kernel_rfl) (by kernel_rfl) (by kernel_rfl) (fun _ _ _ h => h) (Or.inl ⟨by rfl, ?_⟩) (by assumption) ?_
                        rotate_left
                        · intro z hSz
                          obtain ⟨hz0, hz3, -⟩ := hSz
                          go_simp
                          try with_reducible rfl
                        try simp only [Act.put, List.setIfInBounds_toArray, List.set_cons_zero, List.set_cons_succ, List.getElem_toArray, List.getElem_cons_succ, List.getElem_cons_zero]
                        refine wpAnyH_ready (rs := [15]) (by kernel_rfl) (by simp) ?_
                        refine AllReadyH.cons rfl (fun K hK => ?_) AllReadyH.nil
                        go_simp
                        refine hK.out _ _ (⟨(C11.out.set2 _).cells.1, (E11.out.far (by have := HGE.out; have := HZ7.out; omega) 2 _).cells.1, HB11.out.setCell (by exact Nat.le_refl _) _⟩) (fun hHeld2 => ?_)
                        clear hK K hHeld
                        have hHeld := hHeld2
                        clear hHeld2
                        try simp only [Act.put, List.setIfInBounds_toArray, List.set_cons_zero, List.set_cons_succ, List.getElem_toArray, List.getElem_cons_succ, List.getElem_cons_zero]
                        refine wpAnyH_done (by kernel_rfl) ?_ _
                        try go_wp2_with fail
                        go_meet
                        exact ⟨a11, c11, C11.out.set2 _, R11.out.far (by omega) 2 _, E11.out.far (by have := HGE.out; have := HZ7.out; omega) 2 _, (HS11.out.box (p := w.heap.size) (.inl (by omega)) 2 _).more (by simp) (Nat.le_refl _), HB11.out.setCell (by exact Nat.le_refl _) _⟩
                      case rest =>
                        obtain ⟨a4, c4, HC12, HR12, HE12, HS12, HB12⟩ := hcut
                        have HCK := Lib.hid (check_log b t a4 c4 L wc (HS12.out.more (Nat.le_refl _) (Nat.zero_le base)) HBX.out)
                        obtain ⟨z0, z1, z2⟩ := HC12.out.cells
                        obtain ⟨zr0, zr1, zr2⟩ := HR12.out.cells
                        obtain ⟨zf0, zf1, zf2⟩ := HR12.out.fz
                        cases hok : okB b t L
                        · have HP := Lib.hid (fun w' => JO.no (q := jv b t l x u s) (R := 17) (by rw [HJ2.out, if_neg (by rw [hok]; simp)]) w')
                          rw [hok, lgE_f] at HCK
                          clear hok
                          go_wp2_with (go_at_call 23; go_loud ((with_reducible refine HCK.out.mono ?_); rintro e w13 ⟨rfl, hb⟩; have HB13 := Lib.hid (HB12.out.trans (hb.mono HB12.out.size)); have R13 := Lib.hid (HR12.out.below hb); obtain ⟨y0, y1, y2⟩ := R13.out.cells; obtain ⟨yf0, yf1, yf2⟩ := R13.out.fz; clear hb))
                          go_wp2
                          refine bodyPost_log3 rfl (w.heap.size + 1) 0 0 (.slice none 0 0) rfl rfl ?_ ?_
                          case refine_1 => exact ((R13.out.set0 _).set1 _).set2 _
                          case refine_2 => exact ⟨HP.out _, ((HB13.out.setCell (by exact Nat.le_succ _) _).setCell (by exact Nat.le_succ _) _).setCell (by exact Nat.le_succ _) _⟩
                        · have HPY := Lib.hid (fun w' a c hs => JO.of (q := jv b t l x u s) (w' := w') (a := a) (c := c) (B := b) (T := t) (L := L) (F := ei) (R := 0) (by rw [HJ2.out, if_pos hok]) rfl hs)
                          rw [hok, lgE_t] at HCK
                          clear hok
                          go_upto_region 29 with (go_at_call 23; go_loud ((with_reducible refine HCK.out.mono ?_); rintro e w13 ⟨rfl, hb⟩; have HB13 := Lib.hid (HB12.out.trans (hb.mono HB12.out.size)); have C13 := Lib.hid (HC12.out.below hb); have R13 := Lib.hid (HR12.out.below hb); have E13 := Lib.hid (HE12.out.below hb); have HS13 := Lib.hid (HS12.out.on hb); clear hb))
                          have CD13 : Hid (Bx3 w13.drew w.heap.size (.int .u64 (b : Nat)) (.int .u64 (t : Nat)) (.slice a4 L.length c4)) := C13.out
                          have RD13 : Hid (Bx3 w13.drew (w.heap.size + 1) (.int .u64 0) (.int .u64 0) (.slice none 0 0)) := R13.out
                          have ED13 : Hid (Eb w13.drew ge ⟨ei, et, ek, ed, eks⟩ (.slice ua eks.length uc)) := E13.out
                          obtain ⟨x0, x1', x2'⟩ := CD13.out.cells
                          obtain ⟨y0, y1, y2⟩ := RD13.out.cells
                          obtain ⟨yf0, yf1, yf2⟩ := RD13.out.fz
                          obtain ⟨x3, x4, -⟩ := ED13.out.cells
                          obtain ⟨ya0, ya1, ya2⟩ := R13.out.cells
                          obtain ⟨yg0, yg1, yg2⟩ := R13.out.fz
                          have RS := Lib.hid (((RD13.out.set0 (.int .u64 (b : Nat))).set1 (.int .u64 (t : Nat))).set2 (.slice a4 L.length c4))
                          have ES := Lib.hid (((ED13.out.far (p := w.heap.size + 1) (by have := HGE.out; have := HZ7.out; omega) 0 (.int .u64 (b : Nat))).far (p := w.heap.size + 1) (by have := HGE.out; have := HZ7.out; omega) 1 (.int .u64 (t : Nat))).far (p := w.heap.size + 1) (by have := HGE.out; have := HZ7.out; omega) 2 (.slice a4 L.length c4))
                          obtain ⟨x5, x6, -⟩ := ES.out.cells
                          have HBD13 : Hid (Below w.heap.size w w13.drew) := HB13.out.trans ((Below.refl _ _).drew.mono HB13.out.size)
                          have HSD13 : Hid (Sl w13.drew base w13.drew.heap.size a4 c4 L) := HS13.out.keep (Below.refl _ _).drew
                          have CS := Lib.hid (((CD13.out.far (p := w.heap.size + 1) (by omega) 0 (.int .u64 (b : Nat))).far (p := w.heap.size + 1) (by omega) 1 (.int .u64 (t : Nat))).far (p := w.heap.size + 1) (by omega) 2 (.slice a4 L.length c4))
                          have KD13 : Hid (w13.drew.cell? ⟨w.heap.size, 0, none⟩ = some (.int .u64 (b : Nat)) ∧ w13.drew.cell? ⟨w.heap.size, 1, none⟩ = some (.int .u64 (t : Nat)) ∧ w13.drew.cell? ⟨w.heap.size, 2, none⟩ = some (.slice a4 L.length c4) ∧ w13.drew.cell? ⟨ge, 0, none⟩ = some (.int .u64 (ei : Nat))) := ⟨x0, x1', x2', x3⟩
                          clear x5 x6
                          go_region_held3 (fun z => z.cell? ⟨w.heap.size, 0, none⟩ = some (.int .u64 (b : Nat)) ∧ z.cell? ⟨w.heap.size, 1, none⟩ = some (.int .u64 (t : Nat)) ∧ z.cell? ⟨w.heap.size, 2, none⟩ = some (.slice a4 L.length c4) ∧ z.cell? ⟨ge, 0, none⟩ = some (.int .u64 (ei : Nat))) (first | assumption | exact KD13.out | exact ⟨CS.out.cells.1, CS.out.cells.2.1, CS.out.cells.2.2, ES.out.cells.1⟩) (fail)
                          all_goals
                            go_wp2
                            refine bodyPost_log3 rfl (w.heap.size + 1) b t (.slice a4 L.length c4) rfl rfl ?_ ?_
                            case refine_1 => exact RS.out
                            case refine_2 => exact ⟨HPY.out _ _ _ ((((HSD13.out.box (p := w.heap.size + 1) (.inl (by omega)) 0 _).box (p := w.heap.size + 1) (.inl (by omega)) 1 _).box (p := w.heap.size + 1) (.inl (by omega)) 2 _).more (by simp) (Nat.zero_le _)), ((HBD13.out.setCell (by exact Nat.le_succ _) _).setCell (by exact Nat.le_succ _) _).setCell (by exact Nat.le_succ _) _⟩
                    · have HX2 : Hid (X + (k + 1) ≤ y) := by
                        have h1 := of_decide_eq_true (Bool.and_eq_true_iff.1 hpb).1
                        have h2 := (tmE_0 h1).2
                        have := HEI.out
                        have := HY.out
                        show _ ≤ _
                        simp only at h2
                        omega
                      have HN3 : Hid (pt b t l (s.drop j) = pt b t l ((s.drop j).drop (k + 1))) := HA.out.trans (HPT.out.trans (if_pos hpb))
                      clear hpb HPT HA
                      go_wp2
                      go_roundg gg
                      case measure => have := HK.out; omega
                      case rel => exact ⟨k + 1, by have := HK.out; omega, by simp, HWC.out, HN3.out, HX2.out⟩
            · have v1 : ((tv : Int) != (U : Int)) = true := by simp; omega
              have v2 : ¬ (tv : Int) = (U : Int) := by omega
              have v3 : (tv == U) = false := by simp; omega
              have v4 : (tv != U) = true := by simp; omega
              have HP := Lib.hid (fun w' => JO.no (q := jv b t l x u s) (R := 18) (by rw [HJV.out, if_neg h7]; rfl) w')
              clear hX hU hXb hrf h6 h7 hy hx64 HJV
              go_wp2
              go_quiet (fail)
              go_wp2_with (go_at_call 32; go_loud ((with_reducible refine (HLA.out _ (bdN (Below.refl wr.heap.size wr) nq)).mono ?_); rintro e w6 ⟨rfl, hb⟩; have HW6 := Lib.hid ((bdN (Below.refl wr.heap.size wr) nq).trans (hb.mono (bdN (Below.refl wr.heap.size wr) nq).size)); have C6 := Lib.hid ((C5.out.dn nq).below hb); have R6 := Lib.hid ((R5.out.dn nq).below hb); obtain ⟨d60, d61, d62⟩ := C6.out.cells; obtain ⟨e60, e61, e62⟩ := R6.out.cells; obtain ⟨g60, g61, g62⟩ := R6.out.fz; clear hb))
              go_wp2_with (go_at_call 34; go_loud ((with_reducible refine (HAT.out _ HW6.out).mono ?_); rintro e w7 ⟨rfl, hb⟩; have HW7 := Lib.hid (HW6.out.trans (hb.mono HW6.out.size)); have C7 := Lib.hid (C6.out.below hb); have R7 := Lib.hid (R6.out.below hb); obtain ⟨d70, d71, d72⟩ := C7.out.cells; obtain ⟨e70, e71, e72⟩ := R7.out.cells; obtain ⟨g70, g71, g72⟩ := R7.out.fz; clear hb))
              go_wp2
              refine bodyPost_log3 rfl (w.heap.size + 1) 0 0 (.slice none 0 0) rfl rfl ?_ ?_
              case refine_1 => exact (((R7.out).set0 _).set1 _).set2 _
              case refine_2 => exact ⟨HP.out _, (((HB5.out.trans ((HW7.out).mono HB5.out.size)).setCell (by exact Nat.le_succ _) _).setCell (by exact Nat.le_succ _) _).setCell (by exact Nat.le_succ _) _⟩
        | succ gg =>
          have hjs : j < s.length := by have := HJ.out.1; omega
          have hei := (HROW.out.2 j hjs).1
          have hib : s[j].i ≤ b := HJ.out.2 j (by omega) hjs
          obtain ⟨blk, off, rfl, -, hbk, ue, hc⟩ := HSJ.out.at 0 (by rw [List.length_drop]; omega)
          have c0 := hc.c0
          have e0 : (s.drop j)[0]'(by rw [List.length_drop]; omega) = s[j] := by rw [List.getElem_drop]; rfl
          rw [e0, Nat.zero_mul, Nat.add_zero] at c0
          clear hc e0
          generalize s[j].i = ei at *
          have hn := HV.out.2.2
          have hcp := HSJ.out.cap
          rw [List.length_drop] at hcp
          have n0 : (0 : Int) < (n : Int) := by omega
          have n0' : 0 < n := by omega
          have n0'' : decide (0 < n) = true := by simp; omega
          have n1 : (1 : Int) ≤ (n : Int) := by omega
          have n2 : (n : Int) ≤ (cv : Int) := by omega
          have n3 : (1 : Int) ≤ (cv : Int) := by omega
          have t1 : decide (ei ≤ b) = true := by simp; omega
          have t2 : (ei : Int) ≤ (b : Int) := by omega
          have HVN : Hid (ei = x + (j + 1) ∧ t = (if j + 1 = 0 then u else t) ∧ n - 1 = s.length - (j + 1)) := ⟨by omega, by rw [if_neg (by omega)], by omega⟩
          have HP1 := Lib.hid (HSJ.out.path 1 (by rw [List.length_drop]; omega))
          rw [List.drop_drop, Addr.add_lit] at HP1
          have HJG := Lib.hid hjg
          by_cases hcv : cv = 1
          · have hn1 : n = 1 := by omega
            subst hcv hn1
            have HSN : Hid (∀ z, Sl z 0 w.heap.size (some ⟨blk, off, none⟩) 0 (s.drop (j + 1))) := fun z => by
              rw [List.drop_eq_nil_of_le (by omega)]
              exact Sl.empty _ _ _ _ _ (fun e => by cases e)
            clear hjg hn hcp hib hjs hei
            go_wp2
            go_quiet (fail)
            go_wp2
            go_roundg gg
            case measure => have := HJG.out; omega
            case rel => exact ⟨j + 1, _, _, _, ei, t, by have := HJG.out; omega, rfl, rfl, rfl, HVN.out, bdN HBW2.out _, HSN.out _⟩
          · have n4 : ¬ cv = 1 := hcv
            have n5 : ¬ cv - 1 = 0 := by omega
            clear hjg hn hcp hib hjs hei hcv
            go_wp2
            go_quiet (fail)
            go_wp2
            go_roundg gg
            case measure => have := HJG.out; omega
            case rel => exact ⟨j + 1, _, _, _, ei, t, by have := HJG.out; omega, rfl, rfl, rfl, HVN.out, bdN HBW2.out _, HP1.out.keep (bdN (Below.refl _ _) _)⟩
    | succ gg =>
      have hlt : k < s.length := by omega
      have hlt2 : (k : Int) < (s.length : Int) := by omega
      have hbx := HBW.out
      obtain ⟨blk, off, rfl, -, hbk, ue, hc⟩ := (HS2.out _ (HB1.out.trans (hbx.mono HB1.out.size))).at k hlt
      obtain ⟨c0, c1, c2', c3', c4, iv, i64, t64⟩ := hc
      obtain ⟨ua, uc, rfl⟩ := iv.slice
      have HK := Lib.hid hkg
      have IV := Lib.hid iv
      have I64 := Lib.hid i64
      have tk : IntKind.i64.wrap ((k : Int) + 1) = (k : Int) + 1 := by have := HLN.out; rw [IntKind.wrap_i64]; omega
      have tku : IntKind.u64.wrap (k : Int) = (k : Int) := by have := HLN.out; rw [IntKind.wrap_u64]; omega
      have HI := Lib.hid (HROW.out.2 k hlt)
      clear hkg hbx iv i64 t64
      generalize s[k] = e at *
      rcases e with ⟨ei, et, ek, ed, eks⟩
      simp only at c0 c1 c2' c3' c4 HI IV I64
      have ha : Below wr.heap.size wr (wr.alloc (.cells #[.int .u64 (ei : Nat), .int .u64 (et : Nat), .int .u8 (ek : Nat), .string ed, .slice ua eks.length uc] 53)) := ((Below.refl _ _).alloc (Nat.le_refl _) _)
      have HZ := HBW.out.size
      have HWZ : w.heap.size ≤ wr.heap.size := Nat.le_trans HB1.out.size HZ
      have HCE := Lib.hid (check_ref ei et ek ed eks (.slice ua eks.length uc) (wr.alloc (.cells #[.int .u64 (ei : Nat), .int .u64 (et : Nat), .int .u8 (ek : Nat), .string ed, .slice ua eks.length uc] 53)) (A := 0) ((IV.out.keep (ha.mono HWZ)).more (Nat.le_trans HWZ ha.size) (Nat.zero_le _)))
      have HNE : Hid (Eb (wr.alloc (.cells #[.int .u64 (ei : Nat), .int .u64 (et : Nat), .int .u8 (ek : Nat), .string ed, .slice ua eks.length uc] 53)) wr.heap.size ⟨ei, et, ek, ed, eks⟩ (.slice ua eks.length uc)) := heap_alloc_new wr _
      have HA1 := Lib.hid (HBW.out.trans (ha.mono HZ))
      have HAS := Lib.hid ha.size
      clear ha
      have h1 := HI.out.2
      have hei := HI.out.1
      have hxl := HXL.out
      rw [h1] at HCE
      have hk41 := HLN.out
      obtain ⟨y, hy⟩ : ∃ y, x + 1 = y := ⟨_, rfl⟩
      have x1 : IntKind.u64.wrap ((ei : Int) - (k : Int)) = (y : Int) := by rw [IntKind.wrap_u64]; omega
      have x2 : IntKind.u64.wrap ((y : Int) - 1) = (x : Int) := by rw [IntKind.wrap_u64]; omega
      have y1 : ((x : Int) != (x : Int)) = false := by simp
      have y2 : ¬ (ei : Int) ≤ (x : Int) := by omega
      have y3 : decide ((ei : Int) ≤ (x : Int)) = false := by simp; omega
      have y4 : decide (ei ≤ x) = false := by simp; omega
      clear h1 hei hxl hk41 hy HI
      go_wp2_with (go_at_call 43; go_loud ((with_reducible refine HCE.out.mono ?_); rintro e w2 ⟨rfl, hb⟩; have HB2 := Lib.hid (HA1.out.trans (hb.mono (Nat.le_trans HZ HAS.out))); have E1 : Eb w2 wr.heap.size ⟨ei, et, ek, ed, eks⟩ (.slice ua eks.length uc) := heap_oldR hb HNE.out; obtain ⟨g0, g1, -⟩ := E1.cells; have HBA := Lib.hid (HB1.out.trans (HB2.out.mono HB1.out.size)); have R9 := Lib.hid (R1.out.below HB2.out); obtain ⟨e90, e91, e92⟩ := R9.out.cells; obtain ⟨g90, g91, g92⟩ := R9.out.fz; clear hb E1))
      go_wp2
      go_roundg gg
      case measure => have := HK.out; omega
      case rel => exact ⟨k + 1, by have := HK.out; omega, by simp, HB2.out⟩
end Lo
end Go.Proofs.Ytjalmciaaenmjaa
