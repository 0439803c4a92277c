/-
  THE DOCUMENT'S ANSWER for snapshots: gafferref03.Members, Ints, TakeInts; gafferref05.Check, Bytes, Encode.
-/
import Derived.Test.YtgahilemlnoabaaGreatSnB
import Derived.Test.YtgahilemlnoabaaGreatPackRefNum
import Derived.Test.YtgahilemlnoabaaGreatPackTakeRef
namespace Go.Proofs.YtgahilemlnoabaaGreat
open Go.RowKit
namespace Hd
open PM
set_option maxHeartbeats 2000000 in
theorem members_ref (v : Value) (ks : List Int) (w : World) (h : Dk.Ints w w.heap.size v ks) :
    Calls Tryz.prog 58 #[v] w fun e w' => e = .returned (.bool (rmB ks)) ∧ Below w.heap.size w w' := by
  obtain ⟨a, c, rfl, hl, hr, hc⟩ := h
  have HR : Hid (rmB ks = (rmF 0 ks && decide (0 < ks.length))) := rfl
  generalize rmB ks = res at *
  have HC := Lib.hid hc
  have HX := Lib.hid hr
  clear hc hr
  go_enter Tryz.func58, Tryz.ntmps58
  go_wp2
  go_loopg [7] ks.length (fun gg i wx => ∃ (k : Nat) (la : Int), k + gg = ks.length ∧ i = .int .i64 k ∧ wx = w ∧ Aside (rmF 0 ks = rmF la (ks.drop k) ∧ (k = 0 → la = 0) ∧ (∀ j (hj : j < ks.length), k = j + 1 → la = ks[j] ∧ 1 ≤ la)))
  case atStart => exact ⟨0, 0, by omega, rfl, rfl, ⟨rfl, fun _ => rfl, fun j hj e => by omega⟩⟩
  case round =>
    obtain ⟨k, la, hkg, rfl, rfl, HA⟩ := hrel
    cases gk with
    | zero =>
      obtain rfl : k = ks.length := by omega
      clear hkg
      have e0 : rmF 0 ks = true := by rw [HA.out.1, List.drop_length]; rfl
      have HE := Lib.hid e0
      clear e0
      by_cases h0 : 0 < ks.length
      · have h0' : (0 : Int) < (ks.length : Int) := by omega
        have HD := Lib.hid h0
        clear h0
        go_wp2
        go_ret
        exact ⟨by rw [HR.out, HE.out, decide_eq_true HD.out]; rfl, Below.refl _ _⟩
      · have h0' : ¬ (0 : Int) < (ks.length : Int) := by omega
        have h0'' : decide ((0 : Int) < (ks.length : Int)) = false := by simpa using h0'
        have HD := Lib.hid h0
        clear h0
        go_wp2
        go_ret
        exact ⟨by rw [HR.out, HE.out, decide_eq_false HD.out]; rfl, Below.refl _ _⟩
    | succ gg =>
      have hlt : k < ks.length := by omega
      have hlt2 : (k : Int) < (ks.length : Int) := by omega
      obtain ⟨b, off, rfl, hb, hcell⟩ := HC.out (by omega)
      have hx := hcell k hlt
      have HM := Lib.hid (rmF_at ks k hlt la)
      have HNX : Hid (∀ x, x = ks[k] → 1 ≤ x → ∀ j (hj : j < ks.length), k + 1 = j + 1 → x = ks[j] ∧ 1 ≤ x) := by
        intro x ex h1 j hj e
        obtain rfl : k = j := by omega
        exact ⟨ex, h1⟩
      have tk : IntKind.i64.wrap ((k : Int) + 1) = (k : Int) + 1 := by rw [IntKind.wrap_i64]; omega
      cases k with
      | zero =>
        have hla : la = 0 := HA.out.2.1 rfl
        rw [Nat.add_zero] at hx
        clear hcell
        generalize hq : ks[0] = x at *
        by_cases h1 : x < 1
        · have HE : Hid (rmF 0 ks = false) := by show _ = _; rw [HA.out.1, HM.out, if_pos (by omega)]
          clear hq HNX
          go_wp2
          go_ret
          exact ⟨by rw [HR.out, HE.out]; rfl, Below.refl _ _⟩
        · have h1' : decide (x < 1) = false := by simpa using h1
          by_cases h2 : 7 < x
          · have HE : Hid (rmF 0 ks = false) := by show _ = _; rw [HA.out.1, HM.out, if_neg (by omega), if_pos h2]
            clear hq HNX
            go_wp2
            go_ret
            exact ⟨by rw [HR.out, HE.out]; rfl, Below.refl _ _⟩
          · have h2' : decide (7 < x) = false := by simpa using h2
            have HE : Hid (rmF 0 ks = rmF x (ks.drop (0 + 1))) := by show _ = _; rw [HA.out.1, HM.out, if_neg (by omega), if_neg h2]
            have HN2 := Lib.hid (HNX.out x rfl (by omega))
            clear hq HNX
            go_wp2
            go_roundg gg
            case measure => omega
            case rel => exact ⟨0 + 1, x, by omega, by simp, rfl, ⟨HE.out, fun e => by omega, HN2.out⟩⟩
      | succ j =>
        obtain ⟨hla, hla1⟩ := HA.out.2.2 j (by omega) rfl
        have hy := hcell j (by omega)
        rw [← hla] at hy
        have tj : IntKind.i64.wrap (((j + 1 : Nat) : Int) - 1) = (j : Int) := by rw [IntKind.wrap_i64]; omega
        have tj2 : ((j + 1 : Nat) : Int) - 1 = (j : Int) := by omega
        have tj3 : (j : Int) < (ks.length : Int) := by omega
        have tj4 : (0 : Int) < ((j + 1 : Nat) : Int) := by omega
        clear hcell hla
        generalize hq : ks[j + 1] = x at *
        by_cases h1 : x < 1
        · have HE : Hid (rmF 0 ks = false) := by show _ = _; rw [HA.out.1, HM.out, if_pos (by omega)]
          clear hq HNX
          go_wp2
          go_ret
          exact ⟨by rw [HR.out, HE.out]; rfl, Below.refl _ _⟩
        · have h1' : decide (x < 1) = false := by simpa using h1
          by_cases h2 : 7 < x
          · have HE : Hid (rmF 0 ks = false) := by
              show _ = _
              rw [HA.out.1, HM.out]
              split
              · rfl
              · rfl
            clear hq HNX
            go_wp2
            go_ret
            exact ⟨by rw [HR.out, HE.out]; rfl, Below.refl _ _⟩
          · have h2' : decide (7 < x) = false := by simpa using h2
            by_cases h3 : x ≤ la
            · have HE : Hid (rmF 0 ks = false) := by show _ = _; rw [HA.out.1, HM.out, if_pos h3]
              clear hq HNX
              go_wp2
              go_ret
              exact ⟨by rw [HR.out, HE.out]; rfl, Below.refl _ _⟩
            · have h3' : decide (x ≤ la) = false := by simpa using h3
              have HE : Hid (rmF 0 ks = rmF x (ks.drop (j + 1 + 1))) := by show _ = _; rw [HA.out.1, HM.out, if_neg h3, if_neg h2]
              have HN2 := Lib.hid (HNX.out x rfl (by omega))
              clear hq HNX
              go_wp2
              go_roundg gg
              case measure => omega
              case rel => exact ⟨j + 1 + 1, x, by omega, by simp, rfl, ⟨HE.out, fun e => by omega, HN2.out⟩⟩
set_option maxHeartbeats 2000000 in
theorem ints_ref (v : Value) (ms : List Nat) (w : World) (h : Dk.Ints w w.heap.size v (ms.map fun (k : Nat) => (k : Int))) (hn : ms.length ≤ 1000) (hm : ∀ m ∈ ms, m < 2 ^ 63) :
    Calls Tryz.prog 61 #[v] w fun e w' => e = .returned (.string (bs (mbs ms))) ∧ Below w.heap.size w w' := by
  obtain ⟨a, c, rfl, -, -, hc⟩ := h
  rw [List.length_map]
  have HC : Hid (∀ i (hi : i < ms.length), ∃ b off, a = some ⟨b, off, none⟩ ∧ b < w.heap.size ∧ w.cell? ⟨b, off + i, none⟩ = some (.int .i64 (ms[i] : Nat))) := by
    intro i hi
    obtain ⟨b, off, ha, hb, hcc⟩ := hc (by rw [List.length_map]; omega)
    have := hcc i (by rw [List.length_map]; exact hi)
    rw [List.getElem_map] at this
    exact ⟨b, off, ha, hb, this⟩
  have tn : IntKind.u64.wrap (ms.length : Int) = (ms.length : Int) := by rw [IntKind.wrap_u64]; omega
  have HN0 := Lib.hid (fun w => PackRefNum.number_ref ms.length w (by omega))
  have HN := Lib.hid (fun m (hx : m < 2 ^ 63) w => PackRefNum.number_ref m w (by omega))
  have HM := Lib.hid hm
  have HL : Hid (∀ k, (num ms.length ++ (ms.take k).flatMap num).length ≤ 100000) := by
    intro k
    rw [List.length_append]
    have h1 := num_le9 ms.length (by omega)
    have h2 := flat_len (ms.take k) (fun m hm' => hm m (List.mem_of_mem_take hm'))
    have h3 : (ms.take k).length ≤ ms.length := by rw [List.length_take]; omega
    omega
  clear hc hm
  go_enter Tryz.func61, Tryz.ntmps61
  go_wp2_with (go_at_call 60; go_loud ((with_reducible refine (HN0.out _).mono ?_); rintro e w1 ⟨rfl, hb⟩; have HB1 := Lib.hid hb; clear hb))
  go_wp2
  go_loopg [3, 12] ms.length (fun gg s i wx => ∃ k : Nat, k + gg = ms.length ∧ i = .int .i64 k ∧ Below w.heap.size w wx ∧ s = .string (bs (num ms.length ++ (ms.take k).flatMap num)))
  case atStart => exact ⟨0, by omega, rfl, HB1.out, by simp⟩
  case round =>
    obtain ⟨k, hkg, rfl, hbx, rfl⟩ := hrel
    cases gk with
    | zero =>
      obtain rfl : k = ms.length := by omega
      clear hkg
      have e9 : bs (num ms.length ++ (ms.take ms.length).flatMap num) = bs (mbs ms) := by rw [List.take_length]; rfl
      rw [e9]
      have HB := Lib.hid hbx
      clear hbx e9
      go_wp2
      go_ret
      exact ⟨rfl, HB.out⟩
    | succ gg =>
      have hlt : k < ms.length := by omega
      have hlt2 : (k : Int) < (ms.length : Int) := by omega
      obtain ⟨b, off, rfl, hb, hcell⟩ := HC.out k hlt
      have hx := (hbx.cell (by exact hb)).trans hcell
      have hmk := HM.out _ (List.getElem_mem hlt)
      have HNK := Lib.hid (fun w => HN.out ms[k] hmk w)
      have tm : IntKind.u64.wrap ((ms[k] : Nat) : Int) = ((ms[k] : Nat) : Int) := by rw [IntKind.wrap_u64]; omega
      have tk : IntKind.i64.wrap ((k : Int) + 1) = (k : Int) + 1 := by rw [IntKind.wrap_i64]; omega
      have e1 : bs (num ms.length ++ (ms.take k).flatMap num) ++ bs (num ms[k]) = bs (num ms.length ++ (ms.take (k + 1)).flatMap num) := by
        rw [bs_append, List.append_assoc, List.take_add_one, List.getElem?_eq_getElem hlt, List.flatMap_append]
        simp
      have E1 := Lib.hid e1
      have l1 := HL.out k
      have l2 := num_le9 ms[k] (by omega)
      have s1 : (bs (num ms.length ++ (ms.take k).flatMap num)).size ≤ 100000 := by rw [bs_size]; exact l1
      have s2 : (bs (num ms[k])).size ≤ 9 := by rw [bs_size]; exact l2
      have HB := Lib.hid hbx
      clear e1 l1 l2 hcell hbx hmk
      generalize hq3 : bs (num ms.length ++ (ms.take (k + 1)).flatMap num) = q3 at *
      have HQ3 := Lib.hid hq3
      clear hq3
      generalize bs (num ms.length ++ (ms.take k).flatMap num) = q1 at *
      generalize bs (num ms[k]) = q2 at *
      generalize ms[k] = m at *
      have z1 : q1.size + q2.size ≤ 9223372036854775807 := by omega
      have z2 : ¬ 9223372036854775807 < q1.size + q2.size := by omega
      have z3 : q1.size + q2.size ≤ maxLen := by unfold maxLen; omega
      go_wp2_with (go_at_call 60; go_loud ((with_reducible refine (HNK.out _).mono ?_); rintro e w2 ⟨rfl, hb⟩; have HB2 := Lib.hid (HB.out.trans (hb.mono HB.out.size)); clear hb))
      go_wp2
      go_roundg gg
      case measure => omega
      case rel => exact ⟨k + 1, by omega, by simp, HB2.out, by rw [E1.out, HQ3.out]⟩
end Hd
end Go.Proofs.YtgahilemlnoabaaGreat
