/-
  NetAgain.
-/
import Derived.Test.YtejolapbdkkdaaaNetLive
namespace Go.Proofs.Ytejolapbdkkdaaa
open Go.RowKit Go.Lib
namespace Nt
open Rw
set_option linter.unusedVariables false
theorem keepP {w w' : World} {base : Nat} {v : Value} {l : List Pk} (h : OwnP w base v l) (hb : Below w.heap.size w w') : OwnP w' base v l := Own.keep h hb
theorem sent_all {n : List Pk} (h : netB n = true) : sent [] n = n := by
  have h4 := net_len h
  unfold netB at h
  rw [Bool.and_eq_true] at h
  have hf : n.filter rightB = n := List.filter_eq_self.2 (fun x hx => List.all_eq_true.1 h.2 x hx)
  unfold sent
  rw [hf]
  exact List.take_of_length_le (by simpa using h4)
theorem put_all {n : List Pk} (h : netB n = true) : putR [] n = n ∧ putN [] n = n.length := by
  unfold putR putN
  rw [b1, if_pos rfl, if_pos rfl, sent_all h]
  exact ⟨rfl, rfl⟩
set_option maxHeartbeats 4000000 in
set_option maxRecDepth 100000 in
theorem netAgain (v : Value) (n : List Pk) (w : World) (h : Sl w 0 w.heap.size v n) :
    Calls Try.prog 6 #[.agg #[v]] w fun e w' => e = .returned (.bool true) ∧ Below w.heap.size w w' := by
  have KL : Hid (∀ z, Calls Try.prog 12 #[] z fun e w' => e = .returned (.bool true) ∧ Below z.heap.size z w') := fun z => lives_true z
  have KT : Hid (∀ z, Below w.heap.size w z → Calls Try.prog 16 #[.agg #[v]] z (TakeIs z n)) := fun z hz => take_own v n z (h.on hz)
  have KS : Hid (∀ (u : Value) (base : Nat) z, OwnP z base u n → Calls Try.prog 8 #[.agg #[.slice none 0 0], u] z (SendIs z [] n)) := fun u base z ho => send_any _ _ [] n z (A := 0) (Sl.nil _ _ _) (Own.sl ho h.len)
  have KE : Hid (∀ (u : Value) (base : Nat) z, Below w.heap.size w z → OwnP z base u n → Calls Try.prog 13 #[.agg #[u], .agg #[v]] z fun e w' => SameIs n n e ∧ Below z.heap.size z w') := fun u base z hz ho => same_ref u v n n z (Own.sl ho h.len) (h.on hz)
  have hll := h.len
  obtain ⟨a, c, rfl⟩ := h.slice
  clear h
  have HB := Lib.hid (al w (.cells #[.slice a n.length c] 24))
  have HC0 := Lib.hid (cell_new w (.slice a n.length c) 24)
  have HZ : Hid (w.heap.size < (w.alloc (.cells #[.slice a n.length c] 24)).heap.size) := by show _ < _; simp
  have HER : Hid (errN n = if netB n then 0 else 10) := rfl
  cases hq : netB n
  · rw [hq] at HER
    have HE : Hid (errN n = 10) := HER.out
    have HTK : Hid (∀ z e w', TakeIs z n e w' → ∃ c', ∃ a', e = .returned (.tuple #[.slice a' 0 c', .agg #[.slice none 0 0], .int .i64 10]) ∧ Below z.heap.size z w') := by
      rintro z e w' ⟨v', h1, h2, h3⟩
      rw [HE.out] at h1
      rw [hq] at h2
      obtain ⟨a', c', rfl⟩ := Own.slice h2
      exact ⟨c', a', h1, h3⟩
    clear hq HER KS KE
    go_enter Try.func6, Try.ntmps6
    go_wp2_with (go_at_call 12; go_loud ((with_reducible refine (KL.out _).mono ?_); rintro e w1 ⟨rfl, hb⟩; have HB1 := Lib.hid (HB.out.trans (hb.mono HB.out.size)); have y0 := (hb.cell (p := ⟨w.heap.size, 0, none⟩) HZ.out).trans HC0.out; clear hb))
    go_wp2_with (go_at_call 16; go_loud ((with_reducible refine (KT.out _ HB1.out).mono ?_); intro e w2 ht; obtain ⟨c', a', rfl, hb⟩ := HTK.out _ _ _ ht; have HB2 := Lib.hid (HB1.out.trans (hb.mono HB1.out.size)); clear hb ht))
    go_wp2
    go_ret
    exact ⟨rfl, HB2.out.alloc HB2.out.size _⟩
  · rw [hq] at HER
    have HE : Hid (errN n = 0) := HER.out
    have HTK : Hid (∀ z e w', TakeIs z n e w' → ∃ c', ∃ a', e = .returned (.tuple #[.slice a' n.length c', .agg #[.slice none 0 0], .int .i64 0]) ∧ OwnP w' z.heap.size (.slice a' n.length c') n ∧ Below z.heap.size z w') := by
      rintro z e w' ⟨v', h1, h2, h3⟩
      rw [HE.out] at h1
      rw [hq, if_pos rfl] at h2
      obtain ⟨a', c', rfl⟩ := Own.slice h2
      exact ⟨c', a', h1, h2, h3⟩
    have hpa := put_all hq
    have HSD : Hid (∀ z e w', SendIs z [] n e w' → ∃ c', ∃ a', e = .returned (.tuple #[.agg #[.slice a' n.length c'], .int .i64 (n.length : Nat), .int .i64 0]) ∧ OwnP w' z.heap.size (.slice a' n.length c') n ∧ Below z.heap.size z w') := by
      rintro z e w' ⟨v', h1, h2, h3⟩
      rw [hpa.2, b11] at h1
      rw [hpa.1] at h2
      obtain ⟨a', c', rfl⟩ := Own.slice h2
      exact ⟨c', a', h1, h2, h3⟩
    clear hq HER hpa
    go_enter Try.func6, Try.ntmps6
    go_wp2_with (go_at_call 12; go_loud ((with_reducible refine (KL.out _).mono ?_); rintro e w1 ⟨rfl, hb⟩; have HB1 := Lib.hid (HB.out.trans (hb.mono HB.out.size)); have y0 := (hb.cell (p := ⟨w.heap.size, 0, none⟩) HZ.out).trans HC0.out; have HZ1 := Lib.hid (Nat.lt_of_lt_of_le HZ.out hb.size); clear hb))
    go_wp2_with (go_at_call 16; go_loud ((with_reducible refine (KT.out _ HB1.out).mono ?_); intro e w2 ht; obtain ⟨c', a', rfl, ho, hb⟩ := HTK.out _ _ _ ht; have HB2 := Lib.hid (HB1.out.trans (hb.mono HB1.out.size)); have y1 := (hb.cell (p := ⟨w.heap.size, 0, none⟩) HZ1.out).trans y0; have HZ2 := Lib.hid (Nat.lt_of_lt_of_le HZ1.out hb.size); have HO2 := Lib.hid (keepP ho (al w2 (.cells #[.slice none 0 0] 24))); clear hb ht ho))
    go_wp2_with (go_at_call 8; go_loud ((with_reducible refine (KS.out _ _ _ HO2.out).mono ?_); intro e w3 ht; obtain ⟨c3, a3, rfl, ho, hb⟩ := HSD.out _ _ _ ht; have hb2 := (al w2 (.cells #[.slice none 0 0] 24)).trans (hb.mono (by simp)); have HB3 := Lib.hid ((HB2.out.trans (hb2.mono HB2.out.size)).alloc (Nat.le_trans HB2.out.size hb2.size) (.cells #[.slice a3 n.length c3] 24)); have y2 := (hb2.cell (p := ⟨w.heap.size, 0, none⟩) HZ2.out).trans y1; have y3 := cell_old (.cells #[.slice a3 n.length c3] 24) y2; have HO3 := Lib.hid (keepP ho (al w3 (.cells #[.slice a3 n.length c3] 24))); clear hb hb2 ht ho))
    go_wp2_with (go_at_call 13; go_loud ((with_reducible refine (KE.out _ _ _ HB3.out HO3.out).mono ?_); rintro e w4 ⟨⟨b, rfl, hbb⟩, hb⟩; obtain rfl : b = true := hbb.2 rfl; have HB4 := Lib.hid (HB3.out.trans (hb.mono HB3.out.size)); clear hb hbb))
    go_wp2
    go_ret
    exact ⟨rfl, HB4.out⟩
/-- As NetA gives it. -/
theorem netAgainA (v : Value) (n : List Pk) (w : World) (h : ∃ u, v = .agg #[u] ∧ Sl w 0 w.heap.size u n) :
    Calls Try.prog 6 #[v] w fun e w' => e = .returned (.bool true) ∧ Below w.heap.size w w' := by
  obtain ⟨u, rfl, hu⟩ := h
  exact netAgain u n w hu
end Nt
end Go.Proofs.Ytejolapbdkkdaaa
