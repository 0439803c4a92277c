/-
  WHICH ENTRIES ARE RIGHT: wal.right, wal.Check; which logs: log.inRow, fall, Check.
-/
import Derived.Test.YtjalmciaaenmjaaLogMem
namespace Go.Proofs.Ytjalmciaaenmjaa
open Go.RowKit
namespace Lo
set_option maxHeartbeats 1000000 in
theorem right_members (v : Value) (ks : List Int) {A : Nat} (w : World) (h : IntsR w A w.heap.size v ks) :
    Calls Try.prog 53 #[v] w fun e w' => e = .returned (.bool (rmB ks)) ∧ Below w.heap.size w w' := by
  obtain ⟨a, c, rfl, hl, hr, hc⟩ := h
  have HR : Hid (rmB ks = (rmF 0 ks && decide (0 < ks.length))) := rfl
  generalize rmB ks = res at *
  have HC := Lib.hid hc
  have HX := Lib.hid hr
  clear hc hr
  go_enter Try.func53, Try.ntmps53
  go_wp2
  go_loopg [3, 8] ks.length (fun gg last i wx => ∃ (k : Nat) (la : Int), k + gg = ks.length ∧ last = .int .i64 la ∧ i = .int .i64 k ∧ wx = w ∧ Aside (rmF 0 ks = rmF la (ks.drop k)))
  case atStart => exact ⟨0, 0, by omega, rfl, rfl, rfl, rfl⟩
  case round =>
    obtain ⟨k, la, hkg, rfl, rfl, rfl, HA⟩ := hrel
    cases gk with
    | zero =>
      obtain rfl : k = ks.length := by omega
      clear hkg
      have e0 : rmF 0 ks = true := by rw [HA.out, List.drop_length]; rfl
      have HE := Lib.hid e0
      clear e0
      by_cases h0 : 0 < ks.length
      · have h0' : (0 : Int) < (ks.length : Int) := by omega
        have HD := Lib.hid h0
        clear h0
        go_wp2
        go_ret
        exact ⟨by rw [HR.out, HE.out, decide_eq_true HD.out]; rfl, Below.refl _ _⟩
      · have h0' : ¬ (0 : Int) < (ks.length : Int) := by omega
        have h0'' : decide ((0 : Int) < (ks.length : Int)) = false := by simpa using h0'
        have HD := Lib.hid h0
        clear h0
        go_wp2
        go_ret
        exact ⟨by rw [HR.out, HE.out, decide_eq_false HD.out]; rfl, Below.refl _ _⟩
    | succ gg =>
      have hlt : k < ks.length := by omega
      have hlt2 : (k : Int) < (ks.length : Int) := by omega
      obtain ⟨b, off, rfl, hA, hb, hcell⟩ := HC.out (by omega)
      have hx := hcell k hlt
      have HM := Lib.hid (rmF_at ks k hlt la)
      have HXR := Lib.hid (HX.out ks[k] (List.getElem_mem hlt))
      clear hcell
      generalize hq : ks[k] = x at *
      clear hq
      by_cases h1 : x ≤ la
      · have HE : Hid (rmF 0 ks = false) := by show _ = _; rw [HA.out, HM.out, if_pos h1]
        go_wp2
        go_ret
        exact ⟨by rw [HR.out, HE.out]; rfl, Below.refl _ _⟩
      · have h1' : decide (x ≤ la) = false := by simpa using h1
        by_cases h2 : 7 < x
        · have HE : Hid (rmF 0 ks = false) := by show _ = _; rw [HA.out, HM.out, if_neg h1, if_pos h2]
          go_wp2
          go_ret
          exact ⟨by rw [HR.out, HE.out]; rfl, Below.refl _ _⟩
        · have h2' : decide (7 < x) = false := by simpa using h2
          have HE : Hid (rmF 0 ks = rmF x (ks.drop (k + 1))) := by show _ = _; rw [HA.out, HM.out, if_neg h1, if_neg h2]
          have tk : IntKind.i64.wrap ((k : Int) + 1) = (k : Int) + 1 := by rw [IntKind.wrap_i64]; omega
          go_wp2
          go_roundg gg
          case measure => omega
          case rel => exact ⟨k + 1, x, by omega, rfl, by simp, rfl, HE.out⟩
theorem IntsR.slice {w : World} {A B : Nat} {v : Value} {ks : List Int} (h : IntsR w A B v ks) : ∃ a c, v = .slice a ks.length c := by
  obtain ⟨a, c, rfl, -⟩ := h; exact ⟨a, c, rfl⟩
/-- An entry as a value. -/
def enV (e : En) (u : Value) : Value := .agg #[.int .u64 (e.i : Nat), .int .u64 (e.t : Nat), .int .u8 (e.k : Nat), .string e.d, u]
theorem enB_0 {i t k : Nat} {d : ByteArray} {ks : List Int} (h : i = 0) : enB ⟨i, t, k, d, ks⟩ = false := by unfold enB; rw [if_pos h]
theorem enB_1 {i t k : Nat} {d : ByteArray} {ks : List Int} (h : ¬ i = 0) (h1 : k = 1) : enB ⟨i, t, k, d, ks⟩ = (d.toList.isEmpty && decide (ks.length = 0)) := by unfold enB; rw [if_neg h, if_pos h1]
theorem enB_2 {i t k : Nat} {d : ByteArray} {ks : List Int} (h : ¬ i = 0) (h1 : k = 2) : enB ⟨i, t, k, d, ks⟩ = (decide (d.size ≤ 4096) && decide (ks.length = 0)) := by unfold enB; rw [if_neg h, if_neg (by show ¬ k = 1; omega), if_pos h1]
theorem enB_3 {i t k : Nat} {d : ByteArray} {ks : List Int} (h : ¬ i = 0) (h1 : k = 3) : enB ⟨i, t, k, d, ks⟩ = (d.toList.isEmpty && rmB ks) := by unfold enB; rw [if_neg h, if_neg (by show ¬ k = 1; omega), if_neg (by show ¬ k = 2; omega), if_pos h1]
theorem enB_4 {i t k : Nat} {d : ByteArray} {ks : List Int} (h : ¬ i = 0) (h1 : ¬ k = 1) (h2 : ¬ k = 2) (h3 : ¬ k = 3) : enB ⟨i, t, k, d, ks⟩ = false := by unfold enB; rw [if_neg h, if_neg h1, if_neg h2, if_neg h3]
set_option maxHeartbeats 2000000 in
theorem right_any (i t k : Nat) (d : ByteArray) (ks : List Int) (u : Value) (w : World) {A : Nat} (hu : IntsR w A w.heap.size u ks) :
    Calls Try.prog 52 #[.agg #[.int .u64 (i : Nat), .int .u64 (t : Nat), .int .u8 (k : Nat), .string d, u]] w fun e w' => e = .returned (.bool (enB ⟨i, t, k, d, ks⟩)) ∧ Below w.heap.size w w' := by
  have hB : Below w.heap.size w (w.alloc (.cells #[.int .u64 (i : Nat), .int .u64 (t : Nat), .int .u8 (k : Nat), .string d, u] 53)) := (Below.refl _ _).alloc (Nat.le_refl _) _
  have HC := Lib.hid (right_members u ks _ ((hu.keep hB).more hB.size (Nat.le_refl _)))
  have HB := Lib.hid hB
  clear hB
  have hu2 := hu.slice
  clear hu
  obtain ⟨a, c, rfl⟩ := hu2
  obtain ⟨r, hr⟩ : ∃ r, r = enB ⟨i, t, k, d, ks⟩ := ⟨_, rfl⟩
  rw [← hr]
  have HR := Lib.hid hr
  clear hr
  obtain ⟨n, hn⟩ : ∃ n, n = ks.length := ⟨_, rfl⟩
  rw [← hn] at HB HC ⊢
  have HN := Lib.hid hn.symm
  clear hn
  by_cases h0 : i = 0
  · subst h0
    have HE : Hid (r = false) := HR.out.trans (enB_0 rfl)
    clear HR HN
    go_enter Try.func52, Try.ntmps52
    go_wp2
    go_ret
    exact ⟨by rw [HE.out]; rfl, HB.out⟩
  · have h0' : ¬ (i : Int) = 0 := by omega
    have h0'' : ((i : Int) == 0) = false := by simp; omega
    by_cases h1 : k = 1
    · subst h1
      have HQ := Lib.hid (enB_1 (t := t) (d := d) (ks := ks) h0 rfl)
      by_cases h4 : d.toList = []
      · have h4' : d.toList.isEmpty = true := by rw [h4]; rfl
        by_cases h5 : n = 0
        · have HE : Hid (r = true) := HR.out.trans (by rw [HQ.out, h4', HN.out, h5]; rfl)
          subst h5
          clear HR HQ HN
          go_enter Try.func52, Try.ntmps52
          go_wp2
          go_ret
          exact ⟨by rw [HE.out]; rfl, HB.out⟩
        · have HE : Hid (r = false) := HR.out.trans (by rw [HQ.out, h4', HN.out]; simp [h5])
          have h5' : ¬ (n : Int) = 0 := by omega
          have h5'' : ((n : Int) == 0) = false := by simp; omega
          clear HR HQ HN h5
          go_enter Try.func52, Try.ntmps52
          go_wp2
          go_ret
          exact ⟨by rw [HE.out]; rfl, HB.out⟩
      · have h4' : d.toList.isEmpty = false := by rw [← Bool.not_eq_true, List.isEmpty_iff]; exact h4
        have HE : Hid (r = false) := HR.out.trans (by rw [HQ.out, h4']; rfl)
        clear HR HQ HN
        go_enter Try.func52, Try.ntmps52
        go_wp2
        go_ret
        exact ⟨by rw [HE.out]; rfl, HB.out⟩
    · have h1' : ¬ (k : Int) = 1 := by omega
      have h1'' : ((k : Int) == 1) = false := by simp; omega
      by_cases h2 : k = 2
      · subst h2
        have HQ := Lib.hid (enB_2 (t := t) (d := d) (ks := ks) h0 rfl)
        by_cases h4 : d.size ≤ 4096
        · have h4' : (d.size : Int) ≤ 4096 := by omega
          by_cases h5 : n = 0
          · have HE : Hid (r = true) := HR.out.trans (by rw [HQ.out, decide_eq_true h4, HN.out, h5]; rfl)
            subst h5
            clear HR HQ HN h4
            go_enter Try.func52, Try.ntmps52
            go_wp2
            go_ret
            exact ⟨by rw [HE.out]; rfl, HB.out⟩
          · have HE : Hid (r = false) := HR.out.trans (by rw [HQ.out, HN.out]; simp [h5])
            have h5' : ¬ (n : Int) = 0 := by omega
            have h5'' : ((n : Int) == 0) = false := by simp; omega
            clear HR HQ HN h5 h4
            go_enter Try.func52, Try.ntmps52
            go_wp2
            go_ret
            exact ⟨by rw [HE.out]; rfl, HB.out⟩
        · have h4' : ¬ (d.size : Int) ≤ 4096 := by omega
          have h4'' : decide ((d.size : Int) ≤ 4096) = false := by simpa using h4'
          have HE : Hid (r = false) := HR.out.trans (by rw [HQ.out, decide_eq_false h4]; rfl)
          clear HR HQ HN h4
          go_enter Try.func52, Try.ntmps52
          go_wp2
          go_ret
          exact ⟨by rw [HE.out]; rfl, HB.out⟩
      · have h2' : ¬ (k : Int) = 2 := by omega
        have h2'' : ((k : Int) == 2) = false := by simp; omega
        by_cases h3 : k = 3
        · subst h3
          rw [show ((3 : Nat) : Int) = 3 from rfl] at HC HB
          have HQ := Lib.hid (enB_3 (t := t) (d := d) (ks := ks) h0 rfl)
          by_cases h4 : d.toList = []
          · have h4' : d.toList.isEmpty = true := by rw [h4]; rfl
            have HE : Hid (r = rmB ks) := HR.out.trans (by rw [HQ.out, h4']; rfl)
            clear HR HQ HN
            generalize rmB ks = q at *
            go_enter Try.func52, Try.ntmps52
            go_wp2_with (go_at_call 53; go_loud ((with_reducible refine HC.out.mono ?_); rintro e w1 ⟨rfl, hb⟩; have HB1 := Lib.hid (HB.out.trans (hb.mono HB.out.size)); clear hb))
            go_ret
            exact ⟨by rw [HE.out]; rfl, HB1.out⟩
          · have h4' : d.toList.isEmpty = false := by rw [← Bool.not_eq_true, List.isEmpty_iff]; exact h4
            have HE : Hid (r = false) := HR.out.trans (by rw [HQ.out, h4']; rfl)
            clear HR HQ HN
            go_enter Try.func52, Try.ntmps52
            go_wp2
            go_ret
            exact ⟨by rw [HE.out]; rfl, HB.out⟩
        · have h3' : ¬ (k : Int) = 3 := by omega
          have h3'' : ((k : Int) == 3) = false := by simp; omega
          have HE : Hid (r = false) := HR.out.trans (enB_4 h0 h1 h2 h3)
          clear HR HN h1 h2 h3 h0
          go_enter Try.func52, Try.ntmps52
          go_wp2
          go_ret
          exact ⟨by rw [HE.out]; rfl, HB.out⟩
set_option maxHeartbeats 1000000 in
theorem entry_check (i t k : Nat) (d : ByteArray) (ks : List Int) (u : Value) (w : World) {A : Nat} (hu : IntsR w A w.heap.size u ks) :
    Calls Try.prog 49 #[.agg #[.int .u64 (i : Nat), .int .u64 (t : Nat), .int .u8 (k : Nat), .string d, u]] w fun e w' => e = .returned (.int .i64 (if enB ⟨i, t, k, d, ks⟩ = true then 0 else 4)) ∧ Below w.heap.size w w' := by
  have hB : Below w.heap.size w (w.alloc (.cells #[.int .u64 (i : Nat), .int .u64 (t : Nat), .int .u8 (k : Nat), .string d, u] 53)) := (Below.refl _ _).alloc (Nat.le_refl _) _
  have HC := Lib.hid (right_any i t k d ks u _ ((hu.keep hB).more hB.size (Nat.le_refl _)))
  have HB := Lib.hid hB
  clear hB
  have hu2 := hu.slice
  clear hu
  obtain ⟨a, c, rfl⟩ := hu2
  cases hr : enB ⟨i, t, k, d, ks⟩
  · rw [hr] at HC
    clear hr
    go_enter Try.func49, Try.ntmps49
    go_wp2_with (go_at_call 52; go_loud ((with_reducible refine HC.out.mono ?_); rintro e w1 ⟨rfl, hb⟩; have HB1 := Lib.hid (HB.out.trans (hb.mono HB.out.size)); clear hb))
    go_wp2
    go_ret
    exact ⟨rfl, HB1.out⟩
  · rw [hr] at HC
    clear hr
    go_enter Try.func49, Try.ntmps49
    go_wp2_with (go_at_call 52; go_loud ((with_reducible refine HC.out.mono ?_); rintro e w1 ⟨rfl, hb⟩; have HB1 := Lib.hid (HB.out.trans (hb.mono HB.out.size)); clear hb))
    go_wp2
    go_ret
    exact ⟨rfl, HB1.out⟩
end Lo
end Go.Proofs.Ytjalmciaaenmjaa
