/-
  NUMBERS AMONG OTHERS: slices.Index, slices.Contains; quorum.right, amongst, count, most.
-/
import Derived.Test.YtndihliagcgdeaaQuMath
import Derived.Test.YtndihliagcgdeaaLogChk
import Derived.Deep.RegionHeld3
namespace Go.Proofs.Ytndihliagcgdeaa
open Go.RowKit Go.Lib
namespace Qu
open Lo
set_option linter.unusedVariables false
theorem _root_.Go.Proofs.Ytndihliagcgdeaa.Lo.IntsR.on {w w' : World} {A : Nat} {v : Value} {ks : List Int} (h : IntsR w A w.heap.size v ks) (hb : Below w.heap.size w w') : IntsR w' A w'.heap.size v ks := (h.keep hb).more hb.size (Nat.le_refl _)
/-- The place of the first one, below 0 if there is none. -/
def IxIs (l : List Int) (n : Int) (e : Ending) : Prop := ∃ r : Int, e = .returned (.int .i64 r) ∧ decide (0 ≤ r) = hasI l n ∧ -1 ≤ r
theorem IxIs.no {l : List Int} {n : Int} (h : hasI l n = false) : IxIs l n (.returned (.int .i64 (-1))) := ⟨-1, rfl, by rw [h]; rfl, by omega⟩
theorem IxIs.yes {l : List Int} {n : Int} (h : hasI l n = true) (k : Nat) : IxIs l n (.returned (.int .i64 (k : Nat))) := ⟨(k : Nat), rfl, by rw [h]; simp, by omega⟩
set_option maxHeartbeats 1000000 in
theorem the_index (v : Value) (ks : List Int) (n : Int) (w : World) {A : Nat} (h : IntsR w A w.heap.size v ks) :
    Calls Try.prog 34 #[v, .int .i64 n] w fun e w' => IxIs ks n e ∧ Below w.heap.size w w' := by
  obtain ⟨a, c, rfl, hl, hr, hc⟩ := h
  have HY := Lib.hid (fun h k => IxIs.yes (l := ks) (n := n) h k)
  have HNO := Lib.hid (fun h => IxIs.no (l := ks) (n := n) h)
  have HC := Lib.hid hc
  clear hc hr
  go_enter Try.func34, Try.ntmps34
  go_wp2
  go_loopg [8] ks.length (fun gg i wx => ∃ k : Nat, k + gg = ks.length ∧ i = .int .i64 k ∧ wx = w ∧ Aside (hasI ks n = hasI (ks.drop k) n))
  case atStart => exact ⟨0, by omega, rfl, rfl, rfl⟩
  case round =>
    obtain ⟨k, hkg, rfl, rfl, HA⟩ := hrel
    cases gk with
    | zero =>
      obtain rfl : k = ks.length := by omega
      have HE : Hid (hasI ks n = false) := by show _ = _; rw [HA.out, hasI_end]
      clear hkg HA
      go_wp2
      go_ret
      exact ⟨HNO.out HE.out, Below.refl _ _⟩
    | succ gg =>
      have hlt : k < ks.length := by omega
      have hlt2 : (k : Int) < (ks.length : Int) := by omega
      obtain ⟨b, off, rfl, hA, hb, hcell⟩ := HC.out (by omega)
      have hx := hcell k hlt
      have HM := Lib.hid (hasI_at ks k hlt n)
      clear hcell
      generalize hq : ks[k] = x at *
      clear hq
      by_cases h1 : n = x
      · subst h1
        have HE : Hid (hasI ks n = true) := by show _ = _; rw [HA.out, HM.out]; simp
        go_wp2
        go_ret
        exact ⟨HY.out HE.out k, Below.refl _ _⟩
      · have h1' : (n == x) = false := by simpa using h1
        have h2' : (x == n) = false := by simp; omega
        have HE : Hid (hasI ks n = hasI (ks.drop (k + 1)) n) := by show _ = _; rw [HA.out, HM.out, h2']; rfl
        have tk : IntKind.i64.wrap ((k : Int) + 1) = (k : Int) + 1 := by rw [IntKind.wrap_i64]; omega
        clear h2'
        go_wp2
        go_roundg gg
        case measure => omega
        case rel => exact ⟨k + 1, by omega, by simp, rfl, HE.out⟩
set_option maxHeartbeats 1000000 in
theorem the_contains (v : Value) (ks : List Int) (n : Int) (w : World) {A : Nat} (h : IntsR w A w.heap.size v ks) :
    Calls Try.prog 32 #[v, .int .i64 n] w fun e w' => e = .returned (.bool (hasI ks n)) ∧ Below w.heap.size w w' := by
  have HX := Lib.hid (the_index v ks n w h)
  obtain ⟨a, c, rfl⟩ := h.slice
  clear h
  cases hq : hasI ks n
  all_goals
    have HQ := Lib.hid hq
    clear hq
    go_enter Try.func32, Try.ntmps32
    go_wp2_with (go_at_call 34; go_loud ((with_reducible refine HX.out.mono ?_); rintro e w1 ⟨⟨r, rfl, hd, -⟩, hb⟩; rw [HQ.out] at hd; have HB := Lib.hid hb; clear hb))
    go_wp2
    go_ret
    exact ⟨rfl, HB.out⟩
set_option maxHeartbeats 1000000 in
theorem the_right (v : Value) (ks : List Int) (w : World) {A : Nat} (h : IntsR w A w.heap.size v ks) :
    Calls Try.prog 20 #[v] w fun e w' => e = .returned (.bool (rmB ks)) ∧ Below w.heap.size w w' := by
  have HC := Lib.hid (entry_check 1 0 3 ⟨#[]⟩ ks v w h)
  rw [show enB ⟨1, 0, 3, ⟨#[]⟩, ks⟩ = rmB ks from (enB_3 (by decide) rfl).trans (by rw [show (⟨#[]⟩ : ByteArray).toList.isEmpty = true from by decide +kernel]; rfl), show ((1 : Nat) : Int) = 1 from rfl, show ((0 : Nat) : Int) = 0 from rfl, show ((3 : Nat) : Int) = 3 from rfl] at HC
  obtain ⟨a, c, rfl⟩ := h.slice
  clear h
  cases hr : rmB ks
  all_goals
    rw [hr] at HC
    simp only [Bool.false_eq_true, if_false, if_true] at HC
    clear hr
    go_enter Try.func20, Try.ntmps20
    go_wp2_with (go_at_call 30; go_loud ((with_reducible refine HC.out.mono ?_); rintro e w1 ⟨rfl, hb⟩; have HB := Lib.hid hb; clear hb))
    go_wp2
    go_ret
    exact ⟨rfl, HB.out⟩
set_option maxHeartbeats 1000000 in
theorem the_amongst (a : Option Addr) (n c : Nat) (w : World) :
    Calls Try.prog 22 #[.slice a n c] w fun e w' => e = .returned (.func (.func 31) #[] #[.pointer (some ⟨w.heap.size, 0, none⟩)]) ∧ w' = w.alloc (.cells #[.slice a n c] 22) := by
  have hmf : ∀ (fn : Fn) (first cap : Array Value) (w : World), (Instr.makeFunc fn first cap).run Try.prog w = .ok (.func fn first cap) w := fun _ _ _ _ => rfl
  go_enter Try.func22, Try.ntmps22
  go_wp2
  go_ret
  exact ⟨rfl, rfl⟩
set_option maxHeartbeats 1000000 in
theorem amongst_is (v : Value) (ks : List Int) (n : Int) (g : Nat) (w : World) {A : Nat} (h : IntsR w A w.heap.size v ks) (hg : w.cell? ⟨g, 0, none⟩ = some v) :
    Calls Try.prog 31 #[.int .i64 n, .pointer (some ⟨g, 0, none⟩)] w fun e w' => e = .returned (.bool (hasI ks n)) ∧ Below w.heap.size w w' := by
  have HX := Lib.hid (the_contains v ks n w h)
  clear h
  generalize hasI ks n = r at *
  go_enter Try.func31, Try.ntmps31
  go_wp2_with (go_at_call 32; go_loud ((with_reducible refine HX.out.mono ?_); rintro e w1 ⟨rfl, hb⟩; have HB := Lib.hid hb; clear hb))
  go_wp2
  go_ret
  exact ⟨rfl, HB.out⟩
set_option maxHeartbeats 1000000 in
set_option maxRecDepth 100000 in
theorem the_count1 (fn : FuncId) (hE : ∀ args w, (callFunc fn args).run Try.prog w = .ok (.enter fn args) w) (c0 : Value) (f : Int → Bool) (v : Value) (ks : List Int) (w : World) {A : Nat} (h : IntsR w A w.heap.size v ks)
    (hf : ∀ m z, Below w.heap.size w z → Calls Try.prog fn #[.int .i64 m, c0] z fun e z' => e = .returned (.bool (f m)) ∧ Below z.heap.size z z') :
    Calls Try.prog 25 #[v, .func (.func fn) #[] #[c0]] w fun e w' => e = .returned (.int .i64 (cnt f ks : Nat)) ∧ Below w.heap.size w w' := by
  obtain ⟨a, c, rfl, hl, hr, hc⟩ := h
  have HC := Lib.hid hc
  have HF := Lib.hid hf
  clear hc hr hf
  go_enter Try.func25, Try.ntmps25
  go_wp2
  go_loopg [5, 10] ks.length (fun gg n i wx => ∃ k : Nat, k + gg = ks.length ∧ n = .int .i64 (cnt f (ks.take k) : Nat) ∧ i = .int .i64 k ∧ Aside (Below w.heap.size w wx))
  case atStart => exact ⟨0, by omega, rfl, rfl, Below.refl _ _⟩
  case round =>
    obtain ⟨k, hkg, rfl, rfl, HB⟩ := hrel
    cases gk with
    | zero =>
      obtain rfl : k = ks.length := by omega
      clear hkg
      go_wp2
      go_ret
      exact ⟨by first | rfl | simp, HB.out⟩
    | succ gg =>
      have hlt : k < ks.length := by omega
      have hlt2 : (k : Int) < (ks.length : Int) := by omega
      obtain ⟨b, off, rfl, hA, hb, hcell⟩ := HC.out (by omega)
      have hx := (HB.out.cell (by exact hb)).trans (hcell k hlt)
      have HM := Lib.hid (cnt_at f ks k hlt)
      have hcb := cnt_take f ks k
      have HK := Lib.hid (HF.out ks[k] _ HB.out)
      have tk : IntKind.i64.wrap ((k : Int) + 1) = (k : Int) + 1 := by rw [IntKind.wrap_i64]; omega
      clear hcell
      generalize ks[k] = x at *
      generalize cnt f (ks.take k) = cn at *
      have tc : IntKind.i64.wrap ((cn : Int) + 1) = (cn : Int) + 1 := by rw [IntKind.wrap_i64]; omega
      cases hfx : f x
      all_goals
        rw [hfx] at HK HM
        clear hfx
        go_wp2_with fail
        refine HK.out.mono ?_
        rintro e w2 ⟨rfl, hb2⟩
        have HB2 := Lib.hid (HB.out.trans (hb2.mono HB.out.size))
        clear hb2
        go_wp2
        go_roundg gg
        case measure => omega
        case rel => exact ⟨k + 1, by omega, by rw [HM.out]; simp, by simp, HB2.out⟩
set_option maxHeartbeats 1000000 in
set_option maxRecDepth 100000 in
theorem the_most1 (fn : FuncId) (hE : ∀ args w, (callFunc fn args).run Try.prog w = .ok (.enter fn args) w) (c0 : Value) (f : Int → Bool) (v : Value) (ks : List Int) (w : World) {A : Nat} (h : IntsR w A w.heap.size v ks)
    (hf : ∀ m z, Below w.heap.size w z → Calls Try.prog fn #[.int .i64 m, c0] z fun e z' => e = .returned (.bool (f m)) ∧ Below z.heap.size z z') :
    Calls Try.prog 21 #[v, .func (.func fn) #[] #[c0]] w fun e w' => e = .returned (.bool (mostF f ks)) ∧ Below w.heap.size w w' := by
  have HX := Lib.hid (the_count1 fn hE c0 f v ks w h hf)
  obtain ⟨a, c, rfl, hl, -, -⟩ := h
  clear hf
  have hcl := cnt_le f ks
  cases hq : mostF f ks
  all_goals
    have t0 : decide ((ks.length : Int) / 2 < (cnt f ks : Nat)) = mostF f ks := by
      unfold mostF
      rw [decide_eq_decide]
      omega
    rw [hq] at t0
    clear hq
    generalize cnt f ks = cn at *
    go_enter Try.func21, Try.ntmps21
    go_wp2_with (go_at_call 25; go_loud ((with_reducible refine HX.out.mono ?_); rintro e w1 ⟨rfl, hb⟩; have HB := Lib.hid hb; clear hb))
    go_wp2
    go_ret
    exact ⟨rfl, HB.out⟩
set_option maxHeartbeats 1000000 in
set_option maxRecDepth 100000 in
theorem the_count2 (fn : FuncId) (hE : ∀ args w, (callFunc fn args).run Try.prog w = .ok (.enter fn args) w) (c0 c1 : Value) (f : Int → Bool) (v : Value) (ks : List Int) (w : World) {A : Nat} (h : IntsR w A w.heap.size v ks)
    (hf : ∀ m z, Below w.heap.size w z → Calls Try.prog fn #[.int .i64 m, c0, c1] z fun e z' => e = .returned (.bool (f m)) ∧ Below z.heap.size z z') :
    Calls Try.prog 25 #[v, .func (.func fn) #[] #[c0, c1]] w fun e w' => e = .returned (.int .i64 (cnt f ks : Nat)) ∧ Below w.heap.size w w' := by
  obtain ⟨a, c, rfl, hl, hr, hc⟩ := h
  have HC := Lib.hid hc
  have HF := Lib.hid hf
  clear hc hr hf
  go_enter Try.func25, Try.ntmps25
  go_wp2
  go_loopg [5, 10] ks.length (fun gg n i wx => ∃ k : Nat, k + gg = ks.length ∧ n = .int .i64 (cnt f (ks.take k) : Nat) ∧ i = .int .i64 k ∧ Aside (Below w.heap.size w wx))
  case atStart => exact ⟨0, by omega, rfl, rfl, Below.refl _ _⟩
  case round =>
    obtain ⟨k, hkg, rfl, rfl, HB⟩ := hrel
    cases gk with
    | zero =>
      obtain rfl : k = ks.length := by omega
      clear hkg
      go_wp2
      go_ret
      exact ⟨by first | rfl | simp, HB.out⟩
    | succ gg =>
      have hlt : k < ks.length := by omega
      have hlt2 : (k : Int) < (ks.length : Int) := by omega
      obtain ⟨b, off, rfl, hA, hb, hcell⟩ := HC.out (by omega)
      have hx := (HB.out.cell (by exact hb)).trans (hcell k hlt)
      have HM := Lib.hid (cnt_at f ks k hlt)
      have hcb := cnt_take f ks k
      have HK := Lib.hid (HF.out ks[k] _ HB.out)
      have tk : IntKind.i64.wrap ((k : Int) + 1) = (k : Int) + 1 := by rw [IntKind.wrap_i64]; omega
      clear hcell
      generalize ks[k] = x at *
      generalize cnt f (ks.take k) = cn at *
      have tc : IntKind.i64.wrap ((cn : Int) + 1) = (cn : Int) + 1 := by rw [IntKind.wrap_i64]; omega
      cases hfx : f x
      all_goals
        rw [hfx] at HK HM
        clear hfx
        go_wp2_with fail
        refine HK.out.mono ?_
        rintro e w2 ⟨rfl, hb2⟩
        have HB2 := Lib.hid (HB.out.trans (hb2.mono HB.out.size))
        clear hb2
        go_wp2
        go_roundg gg
        case measure => omega
        case rel => exact ⟨k + 1, by omega, by rw [HM.out]; simp, by simp, HB2.out⟩
set_option maxHeartbeats 1000000 in
set_option maxRecDepth 100000 in
theorem the_most2 (fn : FuncId) (hE : ∀ args w, (callFunc fn args).run Try.prog w = .ok (.enter fn args) w) (c0 c1 : Value) (f : Int → Bool) (v : Value) (ks : List Int) (w : World) {A : Nat} (h : IntsR w A w.heap.size v ks)
    (hf : ∀ m z, Below w.heap.size w z → Calls Try.prog fn #[.int .i64 m, c0, c1] z fun e z' => e = .returned (.bool (f m)) ∧ Below z.heap.size z z') :
    Calls Try.prog 21 #[v, .func (.func fn) #[] #[c0, c1]] w fun e w' => e = .returned (.bool (mostF f ks)) ∧ Below w.heap.size w w' := by
  have HX := Lib.hid (the_count2 fn hE c0 c1 f v ks w h hf)
  obtain ⟨a, c, rfl, hl, -, -⟩ := h
  clear hf
  have hcl := cnt_le f ks
  cases hq : mostF f ks
  all_goals
    have t0 : decide ((ks.length : Int) / 2 < (cnt f ks : Nat)) = mostF f ks := by
      unfold mostF
      rw [decide_eq_decide]
      omega
    rw [hq] at t0
    clear hq
    generalize cnt f ks = cn at *
    go_enter Try.func21, Try.ntmps21
    go_wp2_with (go_at_call 25; go_loud ((with_reducible refine HX.out.mono ?_); rintro e w1 ⟨rfl, hb⟩; have HB := Lib.hid hb; clear hb))
    go_wp2
    go_ret
    exact ⟨rfl, HB.out⟩
end Qu
end Go.Proofs.Ytndihliagcgdeaa
