/-
  QuorumMost, QuorumBack, QuorumShared.
-/
import Derived.Test.YtndihliagcgdeaaQuLive
import Derived.Test.YtndihliagcgdeaaQuRef
namespace Go.Proofs.Ytndihliagcgdeaa
open Go.RowKit Go.Lib
namespace Qu
open Lo
set_option linter.unusedVariables false
set_option maxHeartbeats 4000000 in
theorem quorumMost (v u : Value) (ks so : List Int) (w : World) (h : IntsR w 0 w.heap.size v ks) (hu : IntsR w 0 w.heap.size u so) :
    Calls Try.prog 3 #[v, u] w fun e w' => e = .returned (.bool true) ∧ Below w.heap.size w w' := by
  have KM : Hid (∀ z, Below w.heap.size w z → Calls Try.prog 10 #[] z fun e z' => e = .returned (.bool true) ∧ Below z.heap.size z z') := fun z _ => most_true z
  have KS : Hid (∀ z, Below w.heap.size w z → Calls Try.prog 11 #[] z fun e z' => e = .returned (.bool true) ∧ Below z.heap.size z z') := fun z _ => settled_true z
  have HB0 : Hid (Below w.heap.size w w) := Below.refl _ _
  have K1 : Hid (∀ z, Below w.heap.size w z → Calls Try.prog 12 #[v, u] z fun e z' => e = .returned (.bool (mostB ks so)) ∧ Below z.heap.size z z') := fun z hz => the_majority v u ks so z (h.on hz) (hu.on hz)
  have K2 : Hid (∀ z, Below w.heap.size w z → Calls Try.prog 13 #[v, u] z fun e z' => e = .returned (.bool (mostB ks so)) ∧ Below z.heap.size z z') := fun z hz => ref_most v u ks so z (h.on hz) (hu.on hz)
  have K3 : Hid (∀ z, Below w.heap.size w z → Calls Try.prog 14 #[v, u] z fun e z' => e = .returned (.int .i64 (nextE ks so : Nat)) ∧ Below z.heap.size z z') := fun z hz => the_next v u ks so z (h.on hz) (hu.on hz)
  have K4 : Hid (∀ z, Below w.heap.size w z → Calls Try.prog 15 #[v, u] z fun e z' => e = .returned (.int .i64 (nextE ks so : Nat)) ∧ Below z.heap.size z z') := fun z hz => ref_next v u ks so z (h.on hz) (hu.on hz)
  obtain ⟨a, c, rfl⟩ := h.slice
  obtain ⟨a2, c2, rfl⟩ := hu.slice
  clear h hu
  generalize mostB ks so = b at *
  generalize nextE ks so = n at *
  go_enter Try.func3, Try.ntmps3
  go_wp2_with (go_at_call 10; (with_reducible refine (KM.out _ HB0.out).mono ?_); rintro e w1 ⟨rfl, hb⟩; have HB1 := Lib.hid (HB0.out.trans (hb.mono HB0.out.size)); clear hb)
  go_wp2_with (go_at_call 11; (with_reducible refine (KS.out _ HB1.out).mono ?_); rintro e w2 ⟨rfl, hb⟩; have HB2 := Lib.hid (HB1.out.trans (hb.mono HB1.out.size)); clear hb)
  go_wp2_with (go_at_call 12; (with_reducible refine (K1.out _ HB2.out).mono ?_); rintro e w3 ⟨rfl, hb⟩; have HB3 := Lib.hid (HB2.out.trans (hb.mono HB2.out.size)); clear hb)
  go_wp2_with (go_at_call 13; (with_reducible refine (K2.out _ HB3.out).mono ?_); rintro e w4 ⟨rfl, hb⟩; have HB4 := Lib.hid (HB3.out.trans (hb.mono HB3.out.size)); clear hb)
  go_wp2_with (go_at_call 14; (with_reducible refine (K3.out _ HB4.out).mono ?_); rintro e w5 ⟨rfl, hb⟩; have HB5 := Lib.hid (HB4.out.trans (hb.mono HB4.out.size)); clear hb)
  go_wp2_with (go_at_call 15; (with_reducible refine (K4.out _ HB5.out).mono ?_); rintro e w6 ⟨rfl, hb⟩; have HB6 := Lib.hid (HB5.out.trans (hb.mono HB5.out.size)); clear hb)
  go_wp2
  go_ret
  exact ⟨rfl, HB6.out⟩
set_option maxHeartbeats 4000000 in
theorem quorumBack (v u : Value) (ks so : List Int) (w : World) (h : IntsR w 0 w.heap.size v ks) (hu : IntsR w 0 w.heap.size u so) :
    Calls Try.prog 8 #[v, u] w fun e w' => e = .returned (.bool true) ∧ Below w.heap.size w w' := by
  have KM : Hid (∀ z, Below w.heap.size w z → Calls Try.prog 10 #[] z fun e z' => e = .returned (.bool true) ∧ Below z.heap.size z z') := fun z _ => most_true z
  have KS : Hid (∀ z, Below w.heap.size w z → Calls Try.prog 11 #[] z fun e z' => e = .returned (.bool true) ∧ Below z.heap.size z z') := fun z _ => settled_true z
  have HB0 : Hid (Below w.heap.size w w) := Below.refl _ _
  have K3 : Hid (∀ z, Below w.heap.size w z → Calls Try.prog 14 #[v, u] z fun e z' => e = .returned (.int .i64 (nextE ks so : Nat)) ∧ Below z.heap.size z z') := fun z hz => the_next v u ks so z (h.on hz) (hu.on hz)
  have K4 : Hid (∀ z, Below w.heap.size w z → Calls Try.prog 14 #[u, v] z fun e z' => e = .returned (.int .i64 (nextE ks so : Nat)) ∧ Below z.heap.size z z') := fun z hz => by
    rw [next_back]
    exact the_next u v so ks z (hu.on hz) (h.on hz)
  obtain ⟨a, c, rfl⟩ := h.slice
  obtain ⟨a2, c2, rfl⟩ := hu.slice
  clear h hu
  generalize nextE ks so = n at *
  go_enter Try.func8, Try.ntmps8
  go_wp2_with (go_at_call 10; (with_reducible refine (KM.out _ HB0.out).mono ?_); rintro e w1 ⟨rfl, hb⟩; have HB1 := Lib.hid (HB0.out.trans (hb.mono HB0.out.size)); clear hb)
  go_wp2_with (go_at_call 11; (with_reducible refine (KS.out _ HB1.out).mono ?_); rintro e w2 ⟨rfl, hb⟩; have HB2 := Lib.hid (HB1.out.trans (hb.mono HB1.out.size)); clear hb)
  go_wp2_with (go_at_call 14; (with_reducible refine (K3.out _ HB2.out).mono ?_); rintro e w3 ⟨rfl, hb⟩; have HB3 := Lib.hid (HB2.out.trans (hb.mono HB2.out.size)); clear hb)
  go_wp2_with (go_at_call 14; (with_reducible refine (K4.out _ HB3.out).mono ?_); rintro e w4 ⟨rfl, hb⟩; have HB4 := Lib.hid (HB3.out.trans (hb.mono HB3.out.size)); clear hb)
  go_wp2
  go_ret
  exact ⟨rfl, HB4.out⟩
theorem same_at (l m : List Int) (k : Nat) (h : k < l.length) (h2 : k < m.length) : (l.drop k == m.drop k) = (l[k] == m[k] && l.drop (k + 1) == m.drop (k + 1)) := by
  rw [List.drop_eq_getElem_cons h, List.drop_eq_getElem_cons h2]
  rfl
set_option maxHeartbeats 4000000 in
theorem law_same (v u : Value) (l m : List Int) (w : World) {A A2 : Nat} (h : IntsR w A w.heap.size v l) (hu : IntsR w A2 w.heap.size u m) :
    Calls Try.prog 18 #[v, u] w fun e w' => e = .returned (.bool (l == m)) ∧ Below w.heap.size w w' := by
  obtain ⟨a, c, rfl, hl, -, hc⟩ := h
  obtain ⟨a2, c2, rfl, hl2, -, hc2⟩ := hu
  have HC := Lib.hid hc
  have HC2 := Lib.hid hc2
  clear hc hc2
  obtain ⟨r, hr⟩ : ∃ r, r = (l == m) := ⟨_, rfl⟩
  rw [← hr]
  have HR := Lib.hid hr
  clear hr
  by_cases hlen : l.length = m.length
  · have HL := Lib.hid hlen
    have t0 : ((l.length : Int) == (m.length : Int)) = true := by rw [hlen]; simp
    rw [hlen]
    clear t0 hlen
    go_enter Try.func18, Try.ntmps18
    go_wp2
    go_loopg [13] m.length (fun gg i wx => ∃ k : Nat, k + gg = m.length ∧ i = .int .i64 k ∧ Aside (Below w.heap.size w wx) ∧ Aside ((l == m) = (l.drop k == m.drop k)))
    case atStart => exact ⟨0, by omega, rfl, Below.refl _ _, rfl⟩
    case round =>
      obtain ⟨k, hkg, rfl, HB, HA⟩ := hrel
      cases gk with
      | zero =>
        obtain rfl : k = m.length := by omega
        have HE : Hid (r = true) := by
          show _ = _
          rw [HR.out, HA.out, List.drop_length, ← HL.out, List.drop_length]
          rfl
        clear hkg HA
        go_wp2
        go_ret
        exact ⟨by rw [HE.out]; rfl, HB.out⟩
      | succ gg =>
        have hlt : k < m.length := by omega
        have hlt3 : k < l.length := by rw [HL.out]; exact hlt
        have hlt2 : (k : Int) < (m.length : Int) := by omega
        have HM := Lib.hid (same_at l m k hlt3 hlt)
        obtain ⟨b, off, rfl, -, hb, hcell⟩ := HC.out (by omega)
        obtain ⟨b2, off2, rfl, -, hb2, hcell2⟩ := HC2.out (by omega)
        have hx := (HB.out.cell (by exact hb)).trans (hcell k hlt3)
        have hy := (HB.out.cell (by exact hb2)).trans (hcell2 k hlt)
        have tk : IntKind.i64.wrap ((k : Int) + 1) = (k : Int) + 1 := by rw [IntKind.wrap_i64]; omega
        have k0 : (0 : Int) ≤ (k : Int) := by omega
        have k1 : ((k : Int)).toNat = k := by omega
        clear hcell hcell2
        generalize l[k] = x at *
        generalize m[k] = y at *
        by_cases h1 : x = y
        · subst h1
          have HE : Hid ((l == m) = (l.drop (k + 1) == m.drop (k + 1))) := by show _ = _; rw [HA.out, HM.out]; simp
          clear HM HA
          go_wp2
          go_quiet (fail)
          go_wp2
          go_roundg gg
          case measure => omega
          case rel => exact ⟨k + 1, by omega, by simp, bdN HB.out _, HE.out⟩
        · have h1' : (x == y) = false := by simpa using h1
          have HE : Hid (r = false) := by show _ = _; rw [HR.out, HA.out, HM.out, h1']; rfl
          clear HM HA
          go_wp2
          go_quiet (fail)
          go_wp2
          go_ret
          exact ⟨by rw [HE.out]; rfl, bdN HB.out _⟩
  · have HE : Hid (r = false) := by
      show _ = _
      rw [HR.out]
      cases hq : (l == m)
      · rfl
      · exact absurd (by rw [eq_of_beq hq]) hlen
    have t0 : ((l.length : Int) == (m.length : Int)) = false := by simp; omega
    have t1 : ¬ (l.length : Int) = (m.length : Int) := by omega
    have t2 : (l.length == m.length) = false := by simp; omega
    clear HR
    go_enter Try.func18, Try.ntmps18
    go_wp2
    go_ret
    exact ⟨by rw [HE.out]; rfl, Below.refl _ _⟩
set_option maxHeartbeats 8000000 in
theorem quorumShared (v u va vb : Value) (nw th a b : List Int) (w : World) (h : IntsR w 0 w.heap.size v nw) (hu : IntsR w 0 w.heap.size u th) (ha : IntsR w 0 w.heap.size va a) (hb : IntsR w 0 w.heap.size vb b) :
    Calls Try.prog 5 #[v, u, va, vb] w fun e w' => e = .returned (.bool true) ∧ Below w.heap.size w w' := by
  have KM : Hid (∀ z, Below w.heap.size w z → Calls Try.prog 10 #[] z fun e z' => e = .returned (.bool true) ∧ Below z.heap.size z z') := fun z _ => most_true z
  have KS : Hid (∀ z, Below w.heap.size w z → Calls Try.prog 11 #[] z fun e z' => e = .returned (.bool true) ∧ Below z.heap.size z z') := fun z _ => settled_true z
  have HB0 : Hid (Below w.heap.size w w) := Below.refl _ _
  have K0 : Hid (∀ z, Below w.heap.size w z → Calls Try.prog 18 #[v, u] z fun e z' => e = .returned (.bool (nw == th)) ∧ Below z.heap.size z z') := fun z hz => law_same v u nw th z (h.on hz) (hu.on hz)
  have K1 : Hid (∀ z, Below w.heap.size w z → Calls Try.prog 12 #[v, va] z fun e z' => e = .returned (.bool (mostB nw a)) ∧ Below z.heap.size z z') := fun z hz => the_majority v va nw a z (h.on hz) (ha.on hz)
  have K2 : Hid (∀ z, Below w.heap.size w z → Calls Try.prog 12 #[u, vb] z fun e z' => e = .returned (.bool (mostB th b)) ∧ Below z.heap.size z z') := fun z hz => the_majority u vb th b z (hu.on hz) (hb.on hz)
  have K3 : Hid (∀ z, Below w.heap.size w z → Calls Try.prog 14 #[v, u] z fun e z' => e = .returned (.int .i64 (nextE nw th : Nat)) ∧ Below z.heap.size z z') := fun z hz => the_next v u nw th z (h.on hz) (hu.on hz)
  have Ha : Hid (∀ z n, Below w.heap.size w z → Calls Try.prog 19 #[va, .int .i64 n] z fun e z' => e = .returned (.bool (hasI a n)) ∧ Below z.heap.size z z') := fun z n hz => law_has va a n z (ha.on hz)
  have Hb : Hid (∀ z n, Below w.heap.size w z → Calls Try.prog 19 #[vb, .int .i64 n] z fun e z' => e = .returned (.bool (hasI b n)) ∧ Below z.heap.size z z') := fun z n hz => law_has vb b n z (hb.on hz)
  have Ht : Hid (∀ z n, Below w.heap.size w z → Calls Try.prog 19 #[u, .int .i64 n] z fun e z' => e = .returned (.bool (hasI th n)) ∧ Below z.heap.size z z') := fun z n hz => law_has u th n z (hu.on hz)
  obtain ⟨a1, c1, rfl, hl, -, hc⟩ := h
  obtain ⟨a2, c2, rfl⟩ := hu.slice
  obtain ⟨a3, c3, rfl⟩ := ha.slice
  obtain ⟨a4, c4, rfl⟩ := hb.slice
  have HC := Lib.hid hc
  clear hc hu ha hb
  -- what becomes of it when all is asked
  have HW : Hid (mostB nw a = true → mostB th b = true → ((nw == th) = true ∨ nextE nw th = 0) → ∃ m ∈ nw, (hasI a m && hasI b m && hasI th m) = true) := fun h1 h2 h3 => shared h1 h2 (h3.imp (fun h => eq_of_beq h) id)
  generalize hm1 : mostB nw a = m1 at *
  generalize hm2 : mostB th b = m2 at *
  generalize hsm : (nw == th) = sm at *
  generalize hnx : nextE nw th = nx at *
  clear hm1 hm2 hsm hnx
  cases m1
  · clear HW
    go_enter Try.func5, Try.ntmps5
    go_wp2_with (go_at_call 10; (with_reducible refine (KM.out _ HB0.out).mono ?_); rintro e w1 ⟨rfl, hb⟩; have HB1 := Lib.hid (HB0.out.trans (hb.mono HB0.out.size)); clear hb)
    go_wp2_with (go_at_call 11; (with_reducible refine (KS.out _ HB1.out).mono ?_); rintro e w2 ⟨rfl, hb⟩; have HB2 := Lib.hid (HB1.out.trans (hb.mono HB1.out.size)); clear hb)
    go_wp2_with (go_at_call 18; (with_reducible refine (K0.out _ HB2.out).mono ?_); rintro e w3 ⟨rfl, hb⟩; have HB3 := Lib.hid (HB2.out.trans (hb.mono HB2.out.size)); clear hb)
    go_wp2_with (go_at_call 12; (with_reducible refine (K1.out _ HB3.out).mono ?_); rintro e w4 ⟨rfl, hb⟩; have HB4 := Lib.hid (HB3.out.trans (hb.mono HB3.out.size)); clear hb)
    go_wp2
    go_ret
    exact ⟨rfl, HB4.out⟩
  · cases m2
    · clear HW
      go_enter Try.func5, Try.ntmps5
      go_wp2_with (go_at_call 10; (with_reducible refine (KM.out _ HB0.out).mono ?_); rintro e w1 ⟨rfl, hb⟩; have HB1 := Lib.hid (HB0.out.trans (hb.mono HB0.out.size)); clear hb)
      go_wp2_with (go_at_call 11; (with_reducible refine (KS.out _ HB1.out).mono ?_); rintro e w2 ⟨rfl, hb⟩; have HB2 := Lib.hid (HB1.out.trans (hb.mono HB1.out.size)); clear hb)
      go_wp2_with (go_at_call 18; (with_reducible refine (K0.out _ HB2.out).mono ?_); rintro e w3 ⟨rfl, hb⟩; have HB3 := Lib.hid (HB2.out.trans (hb.mono HB2.out.size)); clear hb)
      go_wp2_with (go_at_call 12; (with_reducible refine (K1.out _ HB3.out).mono ?_); rintro e w4 ⟨rfl, hb⟩; have HB4 := Lib.hid (HB3.out.trans (hb.mono HB3.out.size)); clear hb)
      go_wp2_with (go_at_call 12; (with_reducible refine (K2.out _ HB4.out).mono ?_); rintro e w5 ⟨rfl, hb⟩; have HB5 := Lib.hid (HB4.out.trans (hb.mono HB4.out.size)); clear hb)
      go_wp2
      go_ret
      exact ⟨rfl, HB5.out⟩
    · have HW2 := Lib.hid (HW.out rfl rfl)
      clear HW
      have LOOP : sm = true ∨ nx = 0 → ∃ m ∈ nw, (hasI a m && hasI b m && hasI th m) = true := HW2.out
      have HLP := Lib.hid LOOP
      clear LOOP HW2
      by_cases hs : sm = true ∨ nx = 0
      · have HX := Lib.hid (HLP.out hs)
        clear HLP
        rcases hs with rfl | rfl
        · -- the same members
          go_enter Try.func5, Try.ntmps5
          go_wp2_with (go_at_call 10; (with_reducible refine (KM.out _ HB0.out).mono ?_); rintro e w1 ⟨rfl, hb⟩; have HB1 := Lib.hid (HB0.out.trans (hb.mono HB0.out.size)); clear hb)
          go_wp2_with (go_at_call 11; (with_reducible refine (KS.out _ HB1.out).mono ?_); rintro e w2 ⟨rfl, hb⟩; have HB2 := Lib.hid (HB1.out.trans (hb.mono HB1.out.size)); clear hb)
          go_wp2_with (go_at_call 18; (with_reducible refine (K0.out _ HB2.out).mono ?_); rintro e w3 ⟨rfl, hb⟩; have HB3 := Lib.hid (HB2.out.trans (hb.mono HB2.out.size)); clear hb)
          go_wp2_with (go_at_call 12; (with_reducible refine (K1.out _ HB3.out).mono ?_); rintro e w4 ⟨rfl, hb⟩; have HB4 := Lib.hid (HB3.out.trans (hb.mono HB3.out.size)); clear hb)
          go_wp2_with (go_at_call 12; (with_reducible refine (K2.out _ HB4.out).mono ?_); rintro e w5 ⟨rfl, hb⟩; have HB5 := Lib.hid (HB4.out.trans (hb.mono HB4.out.size)); clear hb)
          go_wp2
          go_loopg [43] nw.length (fun gg i wx => ∃ k : Nat, k + gg = nw.length ∧ i = .int .i64 k ∧ Aside (Below w.heap.size w wx) ∧ Aside (∃ m ∈ nw.drop k, (hasI a m && hasI b m && hasI th m) = true))
          case atStart => exact ⟨0, by omega, rfl, HB5.out, HX.out⟩
          case round =>
            obtain ⟨k, hkg, rfl, HB, HA⟩ := hrel
            cases gk with
            | zero =>
              obtain rfl : k = nw.length := by omega
              exfalso
              obtain ⟨m, hm, -⟩ := HA.out
              rw [List.drop_length] at hm
              cases hm
            | succ gg =>
              have hlt : k < nw.length := by omega
              have hlt2 : (k : Int) < (nw.length : Int) := by omega
              obtain ⟨bk, off, rfl, -, hb, hcell⟩ := HC.out (by omega)
              have hx := (HB.out.cell (by exact hb)).trans (hcell k hlt)
              have tk : IntKind.i64.wrap ((k : Int) + 1) = (k : Int) + 1 := by rw [IntKind.wrap_i64]; omega
              have HM : Hid ((hasI a nw[k] && hasI b nw[k] && hasI th nw[k]) = false → ∃ m ∈ nw.drop (k + 1), (hasI a m && hasI b m && hasI th m) = true) := by
                intro hf
                obtain ⟨m, hm, e⟩ := HA.out
                rw [List.drop_eq_getElem_cons hlt] at hm
                rcases List.mem_cons.1 hm with rfl | hm
                · rw [hf] at e; cases e
                · exact ⟨m, hm, e⟩
              clear hcell HX HA
              generalize nw[k] = x at *
              have K7 := Lib.hid (fun z (hz : Below w.heap.size w z) => Ha.out z x hz)
              have K8 := Lib.hid (fun z (hz : Below w.heap.size w z) => Hb.out z x hz)
              have K9 := Lib.hid (fun z (hz : Below w.heap.size w z) => Ht.out z x hz)
              generalize hasI a x = ba at *
              generalize hasI b x = bb at *
              generalize hasI th x = bt at *
              cases ba
              · have HN := Lib.hid (HM.out rfl)
                clear HM
                go_wp2_with (go_at_call 19; (with_reducible refine (K7.out _ HB.out).mono ?_); rintro e y1 ⟨rfl, hb⟩; have HC1 := Lib.hid (HB.out.trans (hb.mono HB.out.size)); clear hb)
                go_wp2
                go_roundg gg
                case measure => omega
                case rel => exact ⟨k + 1, by omega, by simp, HC1.out, HN.out⟩
              · cases bb
                · have HN := Lib.hid (HM.out rfl)
                  clear HM
                  go_wp2_with (go_at_call 19; (with_reducible refine (K7.out _ HB.out).mono ?_); rintro e y1 ⟨rfl, hb⟩; have HC1 := Lib.hid (HB.out.trans (hb.mono HB.out.size)); clear hb)
                  go_wp2_with (go_at_call 19; (with_reducible refine (K8.out _ HC1.out).mono ?_); rintro e y2 ⟨rfl, hb⟩; have HC2 := Lib.hid (HC1.out.trans (hb.mono HC1.out.size)); clear hb)
                  go_wp2
                  go_roundg gg
                  case measure => omega
                  case rel => exact ⟨k + 1, by omega, by simp, HC2.out, HN.out⟩
                · cases bt
                  · have HN := Lib.hid (HM.out rfl)
                    clear HM
                    go_wp2_with (go_at_call 19; (with_reducible refine (K7.out _ HB.out).mono ?_); rintro e y1 ⟨rfl, hb⟩; have HC1 := Lib.hid (HB.out.trans (hb.mono HB.out.size)); clear hb)
                    go_wp2_with (go_at_call 19; (with_reducible refine (K8.out _ HC1.out).mono ?_); rintro e y2 ⟨rfl, hb⟩; have HC2 := Lib.hid (HC1.out.trans (hb.mono HC1.out.size)); clear hb)
                    go_wp2_with (go_at_call 19; (with_reducible refine (K9.out _ HC2.out).mono ?_); rintro e y3 ⟨rfl, hb⟩; have HC3 := Lib.hid (HC2.out.trans (hb.mono HC2.out.size)); clear hb)
                    go_wp2
                    go_roundg gg
                    case measure => omega
                    case rel => exact ⟨k + 1, by omega, by simp, HC3.out, HN.out⟩
                  · clear HM
                    go_wp2_with (go_at_call 19; (with_reducible refine (K7.out _ HB.out).mono ?_); rintro e y1 ⟨rfl, hb⟩; have HC1 := Lib.hid (HB.out.trans (hb.mono HB.out.size)); clear hb)
                    go_wp2_with (go_at_call 19; (with_reducible refine (K8.out _ HC1.out).mono ?_); rintro e y2 ⟨rfl, hb⟩; have HC2 := Lib.hid (HC1.out.trans (hb.mono HC1.out.size)); clear hb)
                    go_wp2_with (go_at_call 19; (with_reducible refine (K9.out _ HC2.out).mono ?_); rintro e y3 ⟨rfl, hb⟩; have HC3 := Lib.hid (HC2.out.trans (hb.mono HC2.out.size)); clear hb)
                    go_wp2
                    go_ret
                    exact ⟨rfl, HC3.out⟩
        · cases sm
          · -- members next to each other
            go_enter Try.func5, Try.ntmps5
            go_wp2_with (go_at_call 10; (with_reducible refine (KM.out _ HB0.out).mono ?_); rintro e w1 ⟨rfl, hb⟩; have HB1 := Lib.hid (HB0.out.trans (hb.mono HB0.out.size)); clear hb)
            go_wp2_with (go_at_call 11; (with_reducible refine (KS.out _ HB1.out).mono ?_); rintro e w2 ⟨rfl, hb⟩; have HB2 := Lib.hid (HB1.out.trans (hb.mono HB1.out.size)); clear hb)
            go_wp2_with (go_at_call 18; (with_reducible refine (K0.out _ HB2.out).mono ?_); rintro e w3 ⟨rfl, hb⟩; have HB3 := Lib.hid (HB2.out.trans (hb.mono HB2.out.size)); clear hb)
            go_wp2_with (go_at_call 12; (with_reducible refine (K1.out _ HB3.out).mono ?_); rintro e w4 ⟨rfl, hb⟩; have HB4 := Lib.hid (HB3.out.trans (hb.mono HB3.out.size)); clear hb)
            go_wp2_with (go_at_call 12; (with_reducible refine (K2.out _ HB4.out).mono ?_); rintro e w5 ⟨rfl, hb⟩; have HB5 := Lib.hid (HB4.out.trans (hb.mono HB4.out.size)); clear hb)
            go_wp2_with (go_at_call 14; (with_reducible refine (K3.out _ HB5.out).mono ?_); rintro e w6 ⟨rfl, hb⟩; have HB6 := Lib.hid (HB5.out.trans (hb.mono HB5.out.size)); clear hb)
            go_wp2
            go_loopg [43] nw.length (fun gg i wx => ∃ k : Nat, k + gg = nw.length ∧ i = .int .i64 k ∧ Aside (Below w.heap.size w wx) ∧ Aside (∃ m ∈ nw.drop k, (hasI a m && hasI b m && hasI th m) = true))
            case atStart => exact ⟨0, by omega, rfl, HB6.out, HX.out⟩
            case round =>
              obtain ⟨k, hkg, rfl, HB, HA⟩ := hrel
              cases gk with
              | zero =>
                obtain rfl : k = nw.length := by omega
                exfalso
                obtain ⟨m, hm, -⟩ := HA.out
                rw [List.drop_length] at hm
                cases hm
              | succ gg =>
                have hlt : k < nw.length := by omega
                have hlt2 : (k : Int) < (nw.length : Int) := by omega
                obtain ⟨bk, off, rfl, -, hb, hcell⟩ := HC.out (by omega)
                have hx := (HB.out.cell (by exact hb)).trans (hcell k hlt)
                have tk : IntKind.i64.wrap ((k : Int) + 1) = (k : Int) + 1 := by rw [IntKind.wrap_i64]; omega
                have HM : Hid ((hasI a nw[k] && hasI b nw[k] && hasI th nw[k]) = false → ∃ m ∈ nw.drop (k + 1), (hasI a m && hasI b m && hasI th m) = true) := by
                  intro hf
                  obtain ⟨m, hm, e⟩ := HA.out
                  rw [List.drop_eq_getElem_cons hlt] at hm
                  rcases List.mem_cons.1 hm with rfl | hm
                  · rw [hf] at e; cases e
                  · exact ⟨m, hm, e⟩
                clear hcell HX HA
                generalize nw[k] = x at *
                have K7 := Lib.hid (fun z (hz : Below w.heap.size w z) => Ha.out z x hz)
                have K8 := Lib.hid (fun z (hz : Below w.heap.size w z) => Hb.out z x hz)
                have K9 := Lib.hid (fun z (hz : Below w.heap.size w z) => Ht.out z x hz)
                generalize hasI a x = ba at *
                generalize hasI b x = bb at *
                generalize hasI th x = bt at *
                cases ba
                · have HN := Lib.hid (HM.out rfl)
                  clear HM
                  go_wp2_with (go_at_call 19; (with_reducible refine (K7.out _ HB.out).mono ?_); rintro e y1 ⟨rfl, hb⟩; have HC1 := Lib.hid (HB.out.trans (hb.mono HB.out.size)); clear hb)
                  go_wp2
                  go_roundg gg
                  case measure => omega
                  case rel => exact ⟨k + 1, by omega, by simp, HC1.out, HN.out⟩
                · cases bb
                  · have HN := Lib.hid (HM.out rfl)
                    clear HM
                    go_wp2_with (go_at_call 19; (with_reducible refine (K7.out _ HB.out).mono ?_); rintro e y1 ⟨rfl, hb⟩; have HC1 := Lib.hid (HB.out.trans (hb.mono HB.out.size)); clear hb)
                    go_wp2_with (go_at_call 19; (with_reducible refine (K8.out _ HC1.out).mono ?_); rintro e y2 ⟨rfl, hb⟩; have HC2 := Lib.hid (HC1.out.trans (hb.mono HC1.out.size)); clear hb)
                    go_wp2
                    go_roundg gg
                    case measure => omega
                    case rel => exact ⟨k + 1, by omega, by simp, HC2.out, HN.out⟩
                  · cases bt
                    · have HN := Lib.hid (HM.out rfl)
                      clear HM
                      go_wp2_with (go_at_call 19; (with_reducible refine (K7.out _ HB.out).mono ?_); rintro e y1 ⟨rfl, hb⟩; have HC1 := Lib.hid (HB.out.trans (hb.mono HB.out.size)); clear hb)
                      go_wp2_with (go_at_call 19; (with_reducible refine (K8.out _ HC1.out).mono ?_); rintro e y2 ⟨rfl, hb⟩; have HC2 := Lib.hid (HC1.out.trans (hb.mono HC1.out.size)); clear hb)
                      go_wp2_with (go_at_call 19; (with_reducible refine (K9.out _ HC2.out).mono ?_); rintro e y3 ⟨rfl, hb⟩; have HC3 := Lib.hid (HC2.out.trans (hb.mono HC2.out.size)); clear hb)
                      go_wp2
                      go_roundg gg
                      case measure => omega
                      case rel => exact ⟨k + 1, by omega, by simp, HC3.out, HN.out⟩
                    · clear HM
                      go_wp2_with (go_at_call 19; (with_reducible refine (K7.out _ HB.out).mono ?_); rintro e y1 ⟨rfl, hb⟩; have HC1 := Lib.hid (HB.out.trans (hb.mono HB.out.size)); clear hb)
                      go_wp2_with (go_at_call 19; (with_reducible refine (K8.out _ HC1.out).mono ?_); rintro e y2 ⟨rfl, hb⟩; have HC2 := Lib.hid (HC1.out.trans (hb.mono HC1.out.size)); clear hb)
                      go_wp2_with (go_at_call 19; (with_reducible refine (K9.out _ HC2.out).mono ?_); rintro e y3 ⟨rfl, hb⟩; have HC3 := Lib.hid (HC2.out.trans (hb.mono HC2.out.size)); clear hb)
                      go_wp2
                      go_ret
                      exact ⟨rfl, HC3.out⟩
          · -- the same members, too
            go_enter Try.func5, Try.ntmps5
            go_wp2_with (go_at_call 10; (with_reducible refine (KM.out _ HB0.out).mono ?_); rintro e w1 ⟨rfl, hb⟩; have HB1 := Lib.hid (HB0.out.trans (hb.mono HB0.out.size)); clear hb)
            go_wp2_with (go_at_call 11; (with_reducible refine (KS.out _ HB1.out).mono ?_); rintro e w2 ⟨rfl, hb⟩; have HB2 := Lib.hid (HB1.out.trans (hb.mono HB1.out.size)); clear hb)
            go_wp2_with (go_at_call 18; (with_reducible refine (K0.out _ HB2.out).mono ?_); rintro e w3 ⟨rfl, hb⟩; have HB3 := Lib.hid (HB2.out.trans (hb.mono HB2.out.size)); clear hb)
            go_wp2_with (go_at_call 12; (with_reducible refine (K1.out _ HB3.out).mono ?_); rintro e w4 ⟨rfl, hb⟩; have HB4 := Lib.hid (HB3.out.trans (hb.mono HB3.out.size)); clear hb)
            go_wp2_with (go_at_call 12; (with_reducible refine (K2.out _ HB4.out).mono ?_); rintro e w5 ⟨rfl, hb⟩; have HB5 := Lib.hid (HB4.out.trans (hb.mono HB4.out.size)); clear hb)
            go_wp2
            go_loopg [43] nw.length (fun gg i wx => ∃ k : Nat, k + gg = nw.length ∧ i = .int .i64 k ∧ Aside (Below w.heap.size w wx) ∧ Aside (∃ m ∈ nw.drop k, (hasI a m && hasI b m && hasI th m) = true))
            case atStart => exact ⟨0, by omega, rfl, HB5.out, HX.out⟩
            case round =>
              obtain ⟨k, hkg, rfl, HB, HA⟩ := hrel
              cases gk with
              | zero =>
                obtain rfl : k = nw.length := by omega
                exfalso
                obtain ⟨m, hm, -⟩ := HA.out
                rw [List.drop_length] at hm
                cases hm
              | succ gg =>
                have hlt : k < nw.length := by omega
                have hlt2 : (k : Int) < (nw.length : Int) := by omega
                obtain ⟨bk, off, rfl, -, hb, hcell⟩ := HC.out (by omega)
                have hx := (HB.out.cell (by exact hb)).trans (hcell k hlt)
                have tk : IntKind.i64.wrap ((k : Int) + 1) = (k : Int) + 1 := by rw [IntKind.wrap_i64]; omega
                have HM : Hid ((hasI a nw[k] && hasI b nw[k] && hasI th nw[k]) = false → ∃ m ∈ nw.drop (k + 1), (hasI a m && hasI b m && hasI th m) = true) := by
                  intro hf
                  obtain ⟨m, hm, e⟩ := HA.out
                  rw [List.drop_eq_getElem_cons hlt] at hm
                  rcases List.mem_cons.1 hm with rfl | hm
                  · rw [hf] at e; cases e
                  · exact ⟨m, hm, e⟩
                clear hcell HX HA
                generalize nw[k] = x at *
                have K7 := Lib.hid (fun z (hz : Below w.heap.size w z) => Ha.out z x hz)
                have K8 := Lib.hid (fun z (hz : Below w.heap.size w z) => Hb.out z x hz)
                have K9 := Lib.hid (fun z (hz : Below w.heap.size w z) => Ht.out z x hz)
                generalize hasI a x = ba at *
                generalize hasI b x = bb at *
                generalize hasI th x = bt at *
                cases ba
                · have HN := Lib.hid (HM.out rfl)
                  clear HM
                  go_wp2_with (go_at_call 19; (with_reducible refine (K7.out _ HB.out).mono ?_); rintro e y1 ⟨rfl, hb⟩; have HC1 := Lib.hid (HB.out.trans (hb.mono HB.out.size)); clear hb)
                  go_wp2
                  go_roundg gg
                  case measure => omega
                  case rel => exact ⟨k + 1, by omega, by simp, HC1.out, HN.out⟩
                · cases bb
                  · have HN := Lib.hid (HM.out rfl)
                    clear HM
                    go_wp2_with (go_at_call 19; (with_reducible refine (K7.out _ HB.out).mono ?_); rintro e y1 ⟨rfl, hb⟩; have HC1 := Lib.hid (HB.out.trans (hb.mono HB.out.size)); clear hb)
                    go_wp2_with (go_at_call 19; (with_reducible refine (K8.out _ HC1.out).mono ?_); rintro e y2 ⟨rfl, hb⟩; have HC2 := Lib.hid (HC1.out.trans (hb.mono HC1.out.size)); clear hb)
                    go_wp2
                    go_roundg gg
                    case measure => omega
                    case rel => exact ⟨k + 1, by omega, by simp, HC2.out, HN.out⟩
                  · cases bt
                    · have HN := Lib.hid (HM.out rfl)
                      clear HM
                      go_wp2_with (go_at_call 19; (with_reducible refine (K7.out _ HB.out).mono ?_); rintro e y1 ⟨rfl, hb⟩; have HC1 := Lib.hid (HB.out.trans (hb.mono HB.out.size)); clear hb)
                      go_wp2_with (go_at_call 19; (with_reducible refine (K8.out _ HC1.out).mono ?_); rintro e y2 ⟨rfl, hb⟩; have HC2 := Lib.hid (HC1.out.trans (hb.mono HC1.out.size)); clear hb)
                      go_wp2_with (go_at_call 19; (with_reducible refine (K9.out _ HC2.out).mono ?_); rintro e y3 ⟨rfl, hb⟩; have HC3 := Lib.hid (HC2.out.trans (hb.mono HC2.out.size)); clear hb)
                      go_wp2
                      go_roundg gg
                      case measure => omega
                      case rel => exact ⟨k + 1, by omega, by simp, HC3.out, HN.out⟩
                    · clear HM
                      go_wp2_with (go_at_call 19; (with_reducible refine (K7.out _ HB.out).mono ?_); rintro e y1 ⟨rfl, hb⟩; have HC1 := Lib.hid (HB.out.trans (hb.mono HB.out.size)); clear hb)
                      go_wp2_with (go_at_call 19; (with_reducible refine (K8.out _ HC1.out).mono ?_); rintro e y2 ⟨rfl, hb⟩; have HC2 := Lib.hid (HC1.out.trans (hb.mono HC1.out.size)); clear hb)
                      go_wp2_with (go_at_call 19; (with_reducible refine (K9.out _ HC2.out).mono ?_); rintro e y3 ⟨rfl, hb⟩; have HC3 := Lib.hid (HC2.out.trans (hb.mono HC2.out.size)); clear hb)
                      go_wp2
                      go_ret
                      exact ⟨rfl, HC3.out⟩
      · clear HLP
        have h1 : sm = false := by cases sm; rfl; exact absurd (Or.inl rfl) hs
        have h2 : ¬ nx = 0 := fun e => hs (Or.inr e)
        subst h1
        have h2' : ((nx : Int) == 0) = false := by simp; omega
        have h2'' : ¬ (nx : Int) = 0 := by omega
        clear hs h2
        go_enter Try.func5, Try.ntmps5
        go_wp2_with (go_at_call 10; (with_reducible refine (KM.out _ HB0.out).mono ?_); rintro e w1 ⟨rfl, hb⟩; have HB1 := Lib.hid (HB0.out.trans (hb.mono HB0.out.size)); clear hb)
        go_wp2_with (go_at_call 11; (with_reducible refine (KS.out _ HB1.out).mono ?_); rintro e w2 ⟨rfl, hb⟩; have HB2 := Lib.hid (HB1.out.trans (hb.mono HB1.out.size)); clear hb)
        go_wp2_with (go_at_call 18; (with_reducible refine (K0.out _ HB2.out).mono ?_); rintro e w3 ⟨rfl, hb⟩; have HB3 := Lib.hid (HB2.out.trans (hb.mono HB2.out.size)); clear hb)
        go_wp2_with (go_at_call 12; (with_reducible refine (K1.out _ HB3.out).mono ?_); rintro e w4 ⟨rfl, hb⟩; have HB4 := Lib.hid (HB3.out.trans (hb.mono HB3.out.size)); clear hb)
        go_wp2_with (go_at_call 12; (with_reducible refine (K2.out _ HB4.out).mono ?_); rintro e w5 ⟨rfl, hb⟩; have HB5 := Lib.hid (HB4.out.trans (hb.mono HB4.out.size)); clear hb)
        go_wp2_with (go_at_call 14; (with_reducible refine (K3.out _ HB5.out).mono ?_); rintro e w6 ⟨rfl, hb⟩; have HB6 := Lib.hid (HB5.out.trans (hb.mono HB5.out.size)); clear hb)
        go_wp2
        go_ret
        exact ⟨rfl, HB6.out⟩
end Qu
end Go.Proofs.Ytndihliagcgdeaa
