/-
  THE DOCUMENT's ANSWERS: gafferref03.Members, Check; gafferref14.Check, Last, At.
-/
import Derived.Test.YtjalmciaaenmjaaLogCopy
import Derived.Test.YtjalmciaaenmjaaLogJmath
import Derived.Test.YtjalmciaaenmjaaLogClone
namespace Go.Proofs.Ytjalmciaaenmjaa
open Go.RowKit Go.Lib
namespace Lo
set_option linter.unusedVariables false
set_option maxHeartbeats 2000000 in
theorem members_ref (v : Value) (ks : List Int) (w : World) {A : Nat} (h : IntsR w A w.heap.size v ks) :
    Calls Try.prog 50 #[v] w fun e w' => e = .returned (.bool (rmB ks)) ∧ Below w.heap.size w w' := by
  obtain ⟨a, c, rfl, hl, hr, hc⟩ := h
  have HR : Hid (rmB ks = (rmF 0 ks && decide (0 < ks.length))) := rfl
  generalize rmB ks = res at *
  have HC := Lib.hid hc
  have HX := Lib.hid hr
  clear hc hr
  go_enter Try.func50, Try.ntmps50
  go_wp2
  go_loopg [7] ks.length (fun gg i wx => ∃ (k : Nat) (la : Int), k + gg = ks.length ∧ i = .int .i64 k ∧ wx = w ∧ Aside (rmF 0 ks = rmF la (ks.drop k) ∧ (k = 0 → la = 0) ∧ (∀ j (hj : j < ks.length), k = j + 1 → la = ks[j] ∧ 1 ≤ la)))
  case atStart => exact ⟨0, 0, by omega, rfl, rfl, ⟨rfl, fun _ => rfl, fun j hj e => by omega⟩⟩
  case round =>
    obtain ⟨k, la, hkg, rfl, rfl, HA⟩ := hrel
    cases gk with
    | zero =>
      obtain rfl : k = ks.length := by omega
      clear hkg
      have e0 : rmF 0 ks = true := by rw [HA.out.1, List.drop_length]; rfl
      have HE := Lib.hid e0
      clear e0
      by_cases h0 : 0 < ks.length
      · have h0' : (0 : Int) < (ks.length : Int) := by omega
        have HD := Lib.hid h0
        clear h0
        go_wp2
        go_ret
        exact ⟨by rw [HR.out, HE.out, decide_eq_true HD.out]; rfl, Below.refl _ _⟩
      · have h0' : ¬ (0 : Int) < (ks.length : Int) := by omega
        have h0'' : decide ((0 : Int) < (ks.length : Int)) = false := by simpa using h0'
        have HD := Lib.hid h0
        clear h0
        go_wp2
        go_ret
        exact ⟨by rw [HR.out, HE.out, decide_eq_false HD.out]; rfl, Below.refl _ _⟩
    | succ gg =>
      have hlt : k < ks.length := by omega
      have hlt2 : (k : Int) < (ks.length : Int) := by omega
      obtain ⟨b, off, rfl, -, hb, hcell⟩ := HC.out (by omega)
      have hx := hcell k hlt
      have HM := Lib.hid (rmF_at ks k hlt la)
      have HNX : Hid (∀ x, x = ks[k] → 1 ≤ x → ∀ j (hj : j < ks.length), k + 1 = j + 1 → x = ks[j] ∧ 1 ≤ x) := by
        intro x ex h1 j hj e
        obtain rfl : k = j := by omega
        exact ⟨ex, h1⟩
      have tk : IntKind.i64.wrap ((k : Int) + 1) = (k : Int) + 1 := by rw [IntKind.wrap_i64]; omega
      cases k with
      | zero =>
        have hla : la = 0 := HA.out.2.1 rfl
        rw [Nat.add_zero] at hx
        clear hcell
        generalize hq : ks[0] = x at *
        by_cases h1 : x < 1
        · have HE : Hid (rmF 0 ks = false) := by show _ = _; rw [HA.out.1, HM.out, if_pos (by omega)]
          clear hq HNX
          go_wp2
          go_ret
          exact ⟨by rw [HR.out, HE.out]; rfl, Below.refl _ _⟩
        · have h1' : decide (x < 1) = false := by simpa using h1
          by_cases h2 : 7 < x
          · have HE : Hid (rmF 0 ks = false) := by show _ = _; rw [HA.out.1, HM.out, if_neg (by omega), if_pos h2]
            clear hq HNX
            go_wp2
            go_ret
            exact ⟨by rw [HR.out, HE.out]; rfl, Below.refl _ _⟩
          · have h2' : decide (7 < x) = false := by simpa using h2
            have HE : Hid (rmF 0 ks = rmF x (ks.drop (0 + 1))) := by show _ = _; rw [HA.out.1, HM.out, if_neg (by omega), if_neg h2]
            have HN2 := Lib.hid (HNX.out x rfl (by omega))
            clear hq HNX
            go_wp2
            go_roundg gg
            case measure => omega
            case rel => exact ⟨0 + 1, x, by omega, by simp, rfl, ⟨HE.out, fun e => by omega, HN2.out⟩⟩
      | succ j =>
        obtain ⟨hla, hla1⟩ := HA.out.2.2 j (by omega) rfl
        have hy := hcell j (by omega)
        rw [← hla] at hy
        have tj : IntKind.i64.wrap (((j + 1 : Nat) : Int) - 1) = (j : Int) := by rw [IntKind.wrap_i64]; omega
        have tj2 : ((j + 1 : Nat) : Int) - 1 = (j : Int) := by omega
        have tj3 : (j : Int) < (ks.length : Int) := by omega
        have tj4 : (0 : Int) < ((j + 1 : Nat) : Int) := by omega
        clear hcell hla
        generalize hq : ks[j + 1] = x at *
        by_cases h1 : x < 1
        · have HE : Hid (rmF 0 ks = false) := by show _ = _; rw [HA.out.1, HM.out, if_pos (by omega)]
          clear hq HNX
          go_wp2
          go_ret
          exact ⟨by rw [HR.out, HE.out]; rfl, Below.refl _ _⟩
        · have h1' : decide (x < 1) = false := by simpa using h1
          by_cases h2 : 7 < x
          · have HE : Hid (rmF 0 ks = false) := by
              show _ = _
              rw [HA.out.1, HM.out]
              split
              · rfl
              · rfl
            clear hq HNX
            go_wp2
            go_ret
            exact ⟨by rw [HR.out, HE.out]; rfl, Below.refl _ _⟩
          · have h2' : decide (7 < x) = false := by simpa using h2
            by_cases h3 : x ≤ la
            · have HE : Hid (rmF 0 ks = false) := by show _ = _; rw [HA.out.1, HM.out, if_pos h3]
              clear hq HNX
              go_wp2
              go_ret
              exact ⟨by rw [HR.out, HE.out]; rfl, Below.refl _ _⟩
            · have h3' : decide (x ≤ la) = false := by simpa using h3
              have HE : Hid (rmF 0 ks = rmF x (ks.drop (j + 1 + 1))) := by show _ = _; rw [HA.out.1, HM.out, if_neg h3, if_neg h2]
              have HN2 := Lib.hid (HNX.out x rfl (by omega))
              clear hq HNX
              go_wp2
              go_roundg gg
              case measure => omega
              case rel => exact ⟨j + 1 + 1, x, by omega, by simp, rfl, ⟨HE.out, fun e => by omega, HN2.out⟩⟩
theorem ba_size {d : ByteArray} (h : d.toList = []) : d.size = 0 := by
  rw [ByteArray.toList_eq] at h
  have : d.data.size = 0 := by rw [← Array.length_toList, h]; rfl
  exact this
set_option maxHeartbeats 4000000 in
theorem check_ref (i t k : Nat) (d : ByteArray) (ks : List Int) (u : Value) (w : World) {A : Nat} (hu : IntsR w A w.heap.size u ks) :
    Calls Try.prog 43 #[.agg #[.int .u64 (i : Nat), .int .u64 (t : Nat), .int .u8 (k : Nat), .string d, u]] w fun e w' => e = .returned (.int .i64 (if enB ⟨i, t, k, d, ks⟩ = true then 0 else 4)) ∧ Below w.heap.size w w' := by
  have hB : Below w.heap.size w (w.alloc (.cells #[.int .u64 (i : Nat), .int .u64 (t : Nat), .int .u8 (k : Nat), .string d, u] 53)) := (Below.refl _ _).alloc (Nat.le_refl _) _
  have HC := Lib.hid (members_ref u ks _ ((hu.keep hB).more hB.size (Nat.le_refl _)))
  have HB := Lib.hid hB
  clear hB
  have hu2 := hu.slice
  clear hu
  obtain ⟨a, c, rfl⟩ := hu2
  obtain ⟨r, hr⟩ : ∃ r, r = enB ⟨i, t, k, d, ks⟩ := ⟨_, rfl⟩
  rw [← hr]
  have HR := Lib.hid hr
  clear hr
  obtain ⟨n, hn⟩ : ∃ n, n = ks.length := ⟨_, rfl⟩
  rw [← hn] at HB HC ⊢
  have HN := Lib.hid hn.symm
  clear hn
  by_cases h00 : k = 0
  · subst h00
    rw [show ((0 : Nat) : Int) = 0 from rfl] at HC HB ⊢
    by_cases h0 : i = 0
    · subst h0
      have HE : Hid (r = false) := HR.out.trans (by exact enB_0 rfl)
      clear HR HN
      rw [HE.out]
      go_enter Try.func43, Try.ntmps43
      go_wp2
      go_ret
      exact ⟨rfl, HB.out⟩
    · have i1 : (0 : Int) < (i : Int) := by omega
      have i2 : 0 < i := by omega
      have HE : Hid (r = false) := HR.out.trans (by exact enB_4 h0 (by decide) (by decide) (by decide))
      clear HR HN
      rw [HE.out]
      go_enter Try.func43, Try.ntmps43
      go_wp2
      go_ret
      exact ⟨rfl, HB.out⟩
  · by_cases h1 : k = 1
    · subst h1
      rw [show ((1 : Nat) : Int) = 1 from rfl] at HC HB ⊢
      by_cases h0 : i = 0
      · subst h0
        have HE : Hid (r = false) := HR.out.trans (by exact enB_0 rfl)
        clear HR HN
        rw [HE.out]
        go_enter Try.func43, Try.ntmps43
        go_wp2
        go_ret
        exact ⟨rfl, HB.out⟩
      · have i1 : (0 : Int) < (i : Int) := by omega
        have i2 : 0 < i := by omega
        by_cases h4 : d.toList = []
        · have h4' : d.toList.isEmpty = true := by rw [h4]; rfl
          have h4s : d.size = 0 := ba_size h4
          have h4t : (d.size : Int) ≤ 4096 := by omega
          by_cases h6 : n = 0
          · subst h6
            have HE : Hid (r = true) := HR.out.trans (by rw [enB_1 h0 rfl, h4']; rw [HN.out]; rfl)
            clear HR HN
            rw [HE.out]
            go_enter Try.func43, Try.ntmps43
            go_wp2
            go_ret
            exact ⟨rfl, HB.out⟩
          · have h6' : ¬ (n : Int) = 0 := by omega
            have h6'' : ((n : Int) == 0) = false := by simp; omega
            have HE : Hid (r = false) := HR.out.trans (by rw [enB_1 h0 rfl, h4']; rw [HN.out]; simp [h6])
            clear HR HN
            rw [HE.out]
            go_enter Try.func43, Try.ntmps43
            go_wp2
            go_ret
            exact ⟨rfl, HB.out⟩
        · have h4' : d.toList.isEmpty = false := by rw [← Bool.not_eq_true, List.isEmpty_iff]; exact h4
          have HE : Hid (r = false) := HR.out.trans (by rw [enB_1 h0 rfl, h4']; rfl)
          clear HR HN
          rw [HE.out]
          go_enter Try.func43, Try.ntmps43
          go_wp2
          go_ret
          exact ⟨rfl, HB.out⟩
    · by_cases h2 : k = 2
      · subst h2
        rw [show ((2 : Nat) : Int) = 2 from rfl] at HC HB ⊢
        by_cases h0 : i = 0
        · subst h0
          have HE : Hid (r = false) := HR.out.trans (by exact enB_0 rfl)
          clear HR HN
          rw [HE.out]
          go_enter Try.func43, Try.ntmps43
          go_wp2
          go_ret
          exact ⟨rfl, HB.out⟩
        · have i1 : (0 : Int) < (i : Int) := by omega
          have i2 : 0 < i := by omega
          by_cases h5 : d.size ≤ 4096
          · have h5' : (d.size : Int) ≤ 4096 := by omega
            by_cases h6 : n = 0
            · subst h6
              have HE : Hid (r = true) := HR.out.trans (by rw [enB_2 h0 rfl, decide_eq_true h5]; rw [HN.out]; rfl)
              clear HR HN
              rw [HE.out]
              go_enter Try.func43, Try.ntmps43
              go_wp2
              go_ret
              exact ⟨rfl, HB.out⟩
            · have h6' : ¬ (n : Int) = 0 := by omega
              have h6'' : ((n : Int) == 0) = false := by simp; omega
              have HE : Hid (r = false) := HR.out.trans (by rw [enB_2 h0 rfl, decide_eq_true h5]; rw [HN.out]; simp [h6])
              clear HR HN
              rw [HE.out]
              go_enter Try.func43, Try.ntmps43
              go_wp2
              go_ret
              exact ⟨rfl, HB.out⟩
          · have h5' : ¬ (d.size : Int) ≤ 4096 := by omega
            have h5'' : decide ((d.size : Int) ≤ 4096) = false := by simp; omega
            have HE : Hid (r = false) := HR.out.trans (by rw [enB_2 h0 rfl, decide_eq_false h5]; rfl)
            clear HR HN
            rw [HE.out]
            go_enter Try.func43, Try.ntmps43
            go_wp2
            go_ret
            exact ⟨rfl, HB.out⟩
      · by_cases h3 : k = 3
        · subst h3
          rw [show ((3 : Nat) : Int) = 3 from rfl] at HC HB ⊢
          by_cases h0 : i = 0
          · subst h0
            have HE : Hid (r = false) := HR.out.trans (by exact enB_0 rfl)
            clear HR HN
            rw [HE.out]
            go_enter Try.func43, Try.ntmps43
            go_wp2
            go_ret
            exact ⟨rfl, HB.out⟩
          · have i1 : (0 : Int) < (i : Int) := by omega
            have i2 : 0 < i := by omega
            by_cases h4 : d.toList = []
            · have h4' : d.toList.isEmpty = true := by rw [h4]; rfl
              have h4s : d.size = 0 := ba_size h4
              have h4t : (d.size : Int) ≤ 4096 := by omega
              cases h7 : rmB ks
              · rw [h7] at HC
                have HE : Hid (r = false) := HR.out.trans (by rw [enB_3 h0 rfl, h4', h7]; rfl)
                clear HR HN
                rw [HE.out]
                go_enter Try.func43, Try.ntmps43
                go_wp2_with (go_at_call 50; go_loud ((with_reducible refine HC.out.mono ?_); rintro e w1 ⟨rfl, hb⟩; have HB1 := Lib.hid (HB.out.trans (hb.mono HB.out.size)); clear hb))
                go_wp2
                go_ret
                exact ⟨rfl, HB1.out⟩
              · rw [h7] at HC
                have HE : Hid (r = true) := HR.out.trans (by rw [enB_3 h0 rfl, h4', h7]; rfl)
                clear HR HN
                rw [HE.out]
                go_enter Try.func43, Try.ntmps43
                go_wp2_with (go_at_call 50; go_loud ((with_reducible refine HC.out.mono ?_); rintro e w1 ⟨rfl, hb⟩; have HB1 := Lib.hid (HB.out.trans (hb.mono HB.out.size)); clear hb))
                go_wp2
                go_ret
                exact ⟨rfl, HB1.out⟩
            · have h4' : d.toList.isEmpty = false := by rw [← Bool.not_eq_true, List.isEmpty_iff]; exact h4
              have HE : Hid (r = false) := HR.out.trans (by rw [enB_3 h0 rfl, h4']; rfl)
              clear HR HN
              rw [HE.out]
              go_enter Try.func43, Try.ntmps43
              go_wp2
              go_ret
              exact ⟨rfl, HB.out⟩
        · have k1 : (0 : Int) < (k : Int) := by omega
          have k2 : ¬ (k : Int) < 4 := by omega
          have k3 : decide ((k : Int) < 4) = false := by simp; omega
          have k4 : ¬ (k : Int) = 3 := by omega
          have k5 : ((k : Int) == 3) = false := by simp; omega
          have k6 : 0 < k := by omega
          have k7 : decide (k < 4) = false := by simp; omega
          by_cases h0 : i = 0
          · subst h0
            have HE : Hid (r = false) := HR.out.trans (by exact enB_0 rfl)
            clear HR HN h00 h1 h2 h3
            rw [HE.out]
            go_enter Try.func43, Try.ntmps43
            go_wp2
            go_ret
            exact ⟨rfl, HB.out⟩
          · have i1 : (0 : Int) < (i : Int) := by omega
            have i2 : 0 < i := by omega
            have HE : Hid (r = false) := HR.out.trans (by exact enB_4 h0 h1 h2 h3)
            clear HR HN h00 h1 h2 h3
            rw [HE.out]
            go_enter Try.func43, Try.ntmps43
            go_wp2
            go_ret
            exact ⟨rfl, HB.out⟩
end Lo
end Go.Proofs.Ytjalmciaaenmjaa
