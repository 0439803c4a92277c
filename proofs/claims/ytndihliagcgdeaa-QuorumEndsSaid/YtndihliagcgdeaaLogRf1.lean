/-
  THE DOCUMENT's ANSWERS: gafferref03.Members, Check; gafferref14.Check, Last, At.
-/
import Derived.Test.YtndihliagcgdeaaLogChk
namespace Go.Proofs.Ytndihliagcgdeaa
open Go.RowKit Go.Lib
namespace Lo
set_option linter.unusedVariables false
set_option maxHeartbeats 2000000 in
theorem members_ref (v : Value) (ks : List Int) (w : World) {A : Nat} (h : IntsR w A w.heap.size v ks) :
    Calls Try.prog 24 #[v] w fun e w' => e = .returned (.bool (rmB ks)) ∧ Below w.heap.size w w' := by
  obtain ⟨a, c, rfl, hl, hr, hc⟩ := h
  have HR : Hid (rmB ks = (rmF 0 ks && decide (0 < ks.length))) := rfl
  generalize rmB ks = res at *
  have HC := Lib.hid hc
  have HX := Lib.hid hr
  clear hc hr
  go_enter Try.func24, Try.ntmps24
  go_wp2
  go_loopg [7] ks.length (fun gg i wx => ∃ (k : Nat) (la : Int), k + gg = ks.length ∧ i = .int .i64 k ∧ wx = w ∧ Aside (rmF 0 ks = rmF la (ks.drop k) ∧ (k = 0 → la = 0) ∧ (∀ j (hj : j < ks.length), k = j + 1 → la = ks[j] ∧ 1 ≤ la)))
  case atStart => exact ⟨0, 0, by omega, rfl, rfl, ⟨rfl, fun _ => rfl, fun j hj e => by omega⟩⟩
  case round =>
    obtain ⟨k, la, hkg, rfl, rfl, HA⟩ := hrel
    cases gk with
    | zero =>
      obtain rfl : k = ks.length := by omega
      clear hkg
      have e0 : rmF 0 ks = true := by rw [HA.out.1, List.drop_length]; rfl
      have HE := Lib.hid e0
      clear e0
      by_cases h0 : 0 < ks.length
      · have h0' : (0 : Int) < (ks.length : Int) := by omega
        have HD := Lib.hid h0
        clear h0
        go_wp2
        go_ret
        exact ⟨by rw [HR.out, HE.out, decide_eq_true HD.out]; rfl, Below.refl _ _⟩
      · have h0' : ¬ (0 : Int) < (ks.length : Int) := by omega
        have h0'' : decide ((0 : Int) < (ks.length : Int)) = false := by simpa using h0'
        have HD := Lib.hid h0
        clear h0
        go_wp2
        go_ret
        exact ⟨by rw [HR.out, HE.out, decide_eq_false HD.out]; rfl, Below.refl _ _⟩
    | succ gg =>
      have hlt : k < ks.length := by omega
      have hlt2 : (k : Int) < (ks.length : Int) := by omega
      obtain ⟨b, off, rfl, -, hb, hcell⟩ := HC.out (by omega)
      have hx := hcell k hlt
      have HM := Lib.hid (rmF_at ks k hlt la)
      have HNX : Hid (∀ x, x = ks[k] → 1 ≤ x → ∀ j (hj : j < ks.length), k + 1 = j + 1 → x = ks[j] ∧ 1 ≤ x) := by
        intro x ex h1 j hj e
        obtain rfl : k = j := by omega
        exact ⟨ex, h1⟩
      have tk : IntKind.i64.wrap ((k : Int) + 1) = (k : Int) + 1 := by rw [IntKind.wrap_i64]; omega
      cases k with
      | zero =>
        have hla : la = 0 := HA.out.2.1 rfl
        rw [Nat.add_zero] at hx
        clear hcell
        generalize hq : ks[0] = x at *
        by_cases h1 : x < 1
        · have HE : Hid (rmF 0 ks = false) := by show _ = _; rw [HA.out.1, HM.out, if_pos (by omega)]
          clear hq HNX
          go_wp2
          go_ret
          exact ⟨by rw [HR.out, HE.out]; rfl, Below.refl _ _⟩
        · have h1' : decide (x < 1) = false := by simpa using h1
          by_cases h2 : 7 < x
          · have HE : Hid (rmF 0 ks = false) := by show _ = _; rw [HA.out.1, HM.out, if_neg (by omega), if_pos h2]
            clear hq HNX
            go_wp2
            go_ret
            exact ⟨by rw [HR.out, HE.out]; rfl, Below.refl _ _⟩
          · have h2' : decide (7 < x) = false := by simpa using h2
            have HE : Hid (rmF 0 ks = rmF x (ks.drop (0 + 1))) := by show _ = _; rw [HA.out.1, HM.out, if_neg (by omega), if_neg h2]
            have HN2 := Lib.hid (HNX.out x rfl (by omega))
            clear hq HNX
            go_wp2
            go_roundg gg
            case measure => omega
            case rel => exact ⟨0 + 1, x, by omega, by simp, rfl, ⟨HE.out, fun e => by omega, HN2.out⟩⟩
      | succ j =>
        obtain ⟨hla, hla1⟩ := HA.out.2.2 j (by omega) rfl
        have hy := hcell j (by omega)
        rw [← hla] at hy
        have tj : IntKind.i64.wrap (((j + 1 : Nat) : Int) - 1) = (j : Int) := by rw [IntKind.wrap_i64]; omega
        have tj2 : ((j + 1 : Nat) : Int) - 1 = (j : Int) := by omega
        have tj3 : (j : Int) < (ks.length : Int) := by omega
        have tj4 : (0 : Int) < ((j + 1 : Nat) : Int) := by omega
        clear hcell hla
        generalize hq : ks[j + 1] = x at *
        by_cases h1 : x < 1
        · have HE : Hid (rmF 0 ks = false) := by show _ = _; rw [HA.out.1, HM.out, if_pos (by omega)]
          clear hq HNX
          go_wp2
          go_ret
          exact ⟨by rw [HR.out, HE.out]; rfl, Below.refl _ _⟩
        · have h1' : decide (x < 1) = false := by simpa using h1
          by_cases h2 : 7 < x
          · have HE : Hid (rmF 0 ks = false) := by
              show _ = _
              rw [HA.out.1, HM.out]
              split
              · rfl
              · rfl
            clear hq HNX
            go_wp2
            go_ret
            exact ⟨by rw [HR.out, HE.out]; rfl, Below.refl _ _⟩
          · have h2' : decide (7 < x) = false := by simpa using h2
            by_cases h3 : x ≤ la
            · have HE : Hid (rmF 0 ks = false) := by show _ = _; rw [HA.out.1, HM.out, if_pos h3]
              clear hq HNX
              go_wp2
              go_ret
              exact ⟨by rw [HR.out, HE.out]; rfl, Below.refl _ _⟩
            · have h3' : decide (x ≤ la) = false := by simpa using h3
              have HE : Hid (rmF 0 ks = rmF x (ks.drop (j + 1 + 1))) := by show _ = _; rw [HA.out.1, HM.out, if_neg h3, if_neg h2]
              have HN2 := Lib.hid (HNX.out x rfl (by omega))
              clear hq HNX
              go_wp2
              go_roundg gg
              case measure => omega
              case rel => exact ⟨j + 1 + 1, x, by omega, by simp, rfl, ⟨HE.out, fun e => by omega, HN2.out⟩⟩
theorem ba_size {d : ByteArray} (h : d.toList = []) : d.size = 0 := by
  rw [ByteArray.toList_eq] at h
  have : d.data.size = 0 := by rw [← Array.length_toList, h]; rfl
  exact this
end Lo
end Go.Proofs.Ytndihliagcgdeaa
