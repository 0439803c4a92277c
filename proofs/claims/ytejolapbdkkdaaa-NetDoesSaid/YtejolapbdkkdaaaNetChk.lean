/-
  PACKETS, NETS: net.isReplica, right, Check.
-/
import Derived.Test.YtejolapbdkkdaaaComm
import Derived.Deep.RegionHeld3
import Derived.Laws.EntriesVeiled
import Derived.Shelf.Abstract
namespace Go.Proofs.Ytejolapbdkkdaaa
open Go.RowKit Go.Lib
namespace Nt
open Rw
set_option linter.unusedVariables false
structure Pk where
  f : Int
  t : Int
  d : ByteArray
instance : Flat Pk := ⟨fun p => [.int .i64 p.f, .int .i64 p.t, .string p.d], 3, by decide, fun _ => rfl, fun x u hu => by simp at hu; rcases hu with rfl | rfl | rfl <;> rfl⟩
/-- A packet as a value. -/
def pkV (p : Pk) : Value := .agg #[.int .i64 p.f, .int .i64 p.t, .string p.d]
def isB (n : Int) : Bool := decide (1 ≤ n) && decide (n ≤ 7)
def rightB (p : Pk) : Bool := isB p.f && isB p.t && !(p.f == p.t)
def netB (l : List Pk) : Bool := decide (l.length ≤ 4096) && l.all rightB
def errN (l : List Pk) : Int := if netB l then 0 else 10
theorem at_pk {w : World} {b o : Nat} {p : Pk} (h : At w b o p) : w.cell? ⟨b, o, none⟩ = some (.int .i64 p.f) ∧ w.cell? ⟨b, o + 1, none⟩ = some (.int .i64 p.t) ∧ w.cell? ⟨b, o + 2, none⟩ = some (.string p.d) :=
  ⟨h 0 _ rfl, h 1 _ rfl, h 2 _ rfl⟩
theorem is_replica (n : Int) (w : World) : Calls Try.prog 28 #[.int .i64 n] w fun e w' => e = .returned (.bool (isB n)) ∧ w = w' := by
  have HI : Hid (isB n = (decide (1 ≤ n) && decide (n ≤ 7))) := rfl
  generalize isB n = q at *
  by_cases h1 : 1 ≤ n
  · have t1 : decide (1 ≤ n) = true := by simpa using h1
    by_cases h2 : n ≤ 7
    · have t2 : decide (n ≤ 7) = true := by simpa using h2
      have HE : Hid (q = true) := HI.out.trans (by rw [t1, t2]; rfl)
      clear HI
      go_enter Try.func28, Try.ntmps28
      go_wp2
      go_ret
      exact ⟨by rw [HE.out]; rfl, rfl⟩
    · have t2 : decide (n ≤ 7) = false := by simpa using h2
      have HE : Hid (q = false) := HI.out.trans (by rw [t1, t2]; rfl)
      clear HI
      go_enter Try.func28, Try.ntmps28
      go_wp2
      go_ret
      exact ⟨by rw [HE.out]; rfl, rfl⟩
  · have t1 : decide (1 ≤ n) = false := by simpa using h1
    have HE : Hid (q = false) := HI.out.trans (by rw [t1]; rfl)
    clear HI
    go_enter Try.func28, Try.ntmps28
    go_wp2
    go_ret
    exact ⟨by rw [HE.out]; rfl, rfl⟩
theorem right_own (p : Pk) (w : World) : Calls Try.prog 21 #[.agg #[.int .i64 p.f, .int .i64 p.t, .string p.d]] w fun e w' => e = .returned (.bool (rightB p)) ∧ Below w.heap.size w w' := by
  rcases p with ⟨f, t, d⟩
  have HI : Hid (rightB ⟨f, t, d⟩ = (isB f && isB t && !(f == t))) := rfl
  have HF := Lib.hid (fun z => is_replica f z)
  have HT := Lib.hid (fun z => is_replica t z)
  have HB := Lib.hid ((Below.refl _ w).alloc (Nat.le_refl _) (.cells #[.int .i64 f, .int .i64 t, .string d] 30))
  generalize rightB ⟨f, t, d⟩ = q at *
  dsimp only
  cases h1 : isB f
  · rw [h1] at HI HF
    have HE : Hid (q = false) := HI.out.trans rfl
    clear h1 HI HT
    go_enter Try.func21, Try.ntmps21
    go_wp2_with (go_at_call 28; go_loud ((with_reducible refine (HF.out _).mono ?_); rintro e w1 ⟨rfl, rfl⟩))
    go_wp2
    go_ret
    exact ⟨by rw [HE.out]; rfl, HB.out⟩
  · rw [h1] at HI HF
    cases h2 : isB t
    · rw [h2] at HI HT
      have HE : Hid (q = false) := HI.out.trans rfl
      clear h1 h2 HI
      go_enter Try.func21, Try.ntmps21
      go_wp2_with (go_at_call 28; go_loud ((with_reducible refine (HF.out _).mono ?_); rintro e w1 ⟨rfl, rfl⟩))
      go_wp2_with (go_at_call 28; go_loud ((with_reducible refine (HT.out _).mono ?_); rintro e w1 ⟨rfl, rfl⟩))
      go_wp2
      go_ret
      exact ⟨by rw [HE.out]; rfl, HB.out⟩
    · rw [h2] at HI HT
      have HE : Hid (q = !(f == t)) := HI.out.trans rfl
      clear h1 h2 HI
      go_enter Try.func21, Try.ntmps21
      go_wp2_with (go_at_call 28; go_loud ((with_reducible refine (HF.out _).mono ?_); rintro e w1 ⟨rfl, rfl⟩))
      go_wp2_with (go_at_call 28; go_loud ((with_reducible refine (HT.out _).mono ?_); rintro e w1 ⟨rfl, rfl⟩))
      go_wp2
      go_ret
      exact ⟨by rw [HE.out]; cases h9 : (f == t) <;> simp [bne, h9], HB.out⟩
theorem wrong_own (p : Pk) (w : World) : Calls Try.prog 26 #[.agg #[.int .i64 p.f, .int .i64 p.t, .string p.d]] w fun e w' => e = .returned (.bool (!rightB p)) ∧ Below w.heap.size w w' := by
  have HR := Lib.hid (fun z => right_own p z)
  rcases p with ⟨f, t, d⟩
  generalize rightB ⟨f, t, d⟩ = q at *
  dsimp only at HR ⊢
  have HB := Lib.hid ((Below.refl _ w).alloc (Nat.le_refl _) (.cells #[.int .i64 f, .int .i64 t, .string d] 30))
  go_enter Try.func26, Try.ntmps26
  go_wp2_with (go_at_call 21; go_loud ((with_reducible refine (HR.out _).mono ?_); rintro e w1 ⟨rfl, hb⟩; have HB1 := Lib.hid (HB.out.trans (hb.mono HB.out.size)); clear hb))
  go_wp2
  go_ret
  exact ⟨rfl, HB1.out⟩
theorem all_at (l : List Pk) (k : Nat) (h : k < l.length) : (l.drop k).all rightB = (rightB l[k] && (l.drop (k + 1)).all rightB) := by
  rw [List.drop_eq_getElem_cons h, List.all_cons]
/-- The place of the first wrong one, below 0 if there is none. -/
def IxW (l : List Pk) (e : Ending) : Prop := ∃ r : Int, e = .returned (.int .i64 r) ∧ decide (0 ≤ r) = !l.all rightB
theorem IxW.no {l : List Pk} (h : l.all rightB = true) : IxW l (.returned (.int .i64 (-1))) := ⟨-1, rfl, by rw [h]; rfl⟩
theorem IxW.yes {l : List Pk} (h : l.all rightB = false) (k : Nat) : IxW l (.returned (.int .i64 (k : Nat))) := ⟨(k : Nat), rfl, by rw [h]; simp⟩
set_option maxHeartbeats 1000000 in
set_option maxRecDepth 100000 in
theorem index_func (v : Value) (l : List Pk) (w : World) {A : Nat} (h : Sl w A w.heap.size v l) :
    Calls Try.prog 29 #[v, .func (.func 26) #[] #[]] w fun e w' => IxW l e ∧ Below w.heap.size w w' := by
  have hE : ∀ args w, (callFunc 26 args).run Try.prog w = .ok (.enter 26 args) w := Go.Proofs.enters_of Try.func26 (by kernel_rfl) rfl
  obtain ⟨a, c, rfl, -, -, hl, hc⟩ := h
  have HY := Lib.hid (fun h k => IxW.yes (l := l) h k)
  have HNO := Lib.hid (fun h => IxW.no (l := l) h)
  have HC := Lib.hid hc
  clear hc
  go_enter Try.func29, Try.ntmps29
  go_wp2
  go_loopg [8] l.length (fun gg i wx => ∃ k : Nat, k + gg = l.length ∧ i = .int .i64 k ∧ Aside (Below w.heap.size w wx) ∧ Aside (l.all rightB = (l.drop k).all rightB))
  case atStart => exact ⟨0, by omega, rfl, Below.refl _ _, rfl⟩
  case round =>
    obtain ⟨k, hkg, rfl, HB, HA⟩ := hrel
    cases gk with
    | zero =>
      obtain rfl : k = l.length := by omega
      have HE : Hid (l.all rightB = true) := HA.out.trans (by rw [List.drop_length]; rfl)
      clear hkg HA
      go_wp2
      go_ret
      exact ⟨HNO.out HE.out, HB.out⟩
    | succ gg =>
      have hlt : k < l.length := by omega
      have hlt2 : (k : Int) < (l.length : Int) := by omega
      obtain ⟨b, off, rfl, hA, hb, hcell⟩ := HC.out (by omega)
      obtain ⟨x0, x1, x2⟩ := at_pk ((hcell k hlt).keep HB.out hb)
      have x0 : wr.cell? ⟨b, off + k * 3, none⟩ = some (.int .i64 l[k].f) := x0
      have x1 : wr.cell? ⟨b, off + k * 3 + 1, none⟩ = some (.int .i64 l[k].t) := x1
      have x2 : wr.cell? ⟨b, off + k * 3 + 2, none⟩ = some (.string l[k].d) := x2
      have HM := Lib.hid (all_at l k hlt)
      have HW := Lib.hid (wrong_own l[k] wr)
      have tk : IntKind.i64.wrap ((k : Int) + 1) = (k : Int) + 1 := by rw [IntKind.wrap_i64]; omega
      clear hcell
      generalize l[k] = x at *
      rcases x with ⟨f, t, d⟩
      dsimp only at x0 x1 x2 HW
      cases hq : rightB ⟨f, t, d⟩
      · rw [hq] at HW HM
        have HE : Hid (l.all rightB = false) := HA.out.trans (HM.out.trans rfl)
        clear hq HM
        go_wp2_with (go_at_call 26; go_loud ((with_reducible refine HW.out.mono ?_); rintro e w1 ⟨rfl, hb⟩; have HB1 := Lib.hid (HB.out.trans (hb.mono HB.out.size)); clear hb))
        go_wp2
        go_ret
        exact ⟨HY.out HE.out k, HB1.out⟩
      · rw [hq] at HW HM
        have HE : Hid (l.all rightB = (l.drop (k + 1)).all rightB) := HA.out.trans (HM.out.trans (Bool.true_and _))
        clear hq HM
        go_wp2_with (go_at_call 26; go_loud ((with_reducible refine HW.out.mono ?_); rintro e w1 ⟨rfl, hb⟩; have HB1 := Lib.hid (HB.out.trans (hb.mono HB.out.size)); clear hb))
        go_wp2
        go_roundg gg
        case measure => omega
        case rel => exact ⟨k + 1, by omega, by simp, HB1.out, HE.out⟩
theorem contains_func (v : Value) (l : List Pk) (w : World) {A : Nat} (h : Sl w A w.heap.size v l) :
    Calls Try.prog 27 #[v, .func (.func 26) #[] #[]] w fun e w' => e = .returned (.bool (!l.all rightB)) ∧ Below w.heap.size w w' := by
  have HX := Lib.hid (index_func v l w h)
  obtain ⟨a, c, rfl⟩ := h.slice
  clear h
  have HQ : Hid (∀ r : Int, decide (0 ≤ r) = !l.all rightB → decide (0 ≤ r) = !l.all rightB) := fun _ h => h
  cases hq : l.all rightB
  all_goals
    have HQ := Lib.hid hq
    clear hq
    go_enter Try.func27, Try.ntmps27
    go_wp2_with (go_at_call 29; go_loud ((with_reducible refine HX.out.mono ?_); rintro e w1 ⟨⟨r, rfl, hd⟩, hb⟩; rw [HQ.out] at hd; have HB := Lib.hid hb; clear hb))
    go_wp2
    go_ret
    exact ⟨rfl, HB.out⟩
theorem check_own (v : Value) (l : List Pk) (w : World) {A : Nat} (h : Sl w A w.heap.size v l) :
    Calls Try.prog 18 #[.agg #[v]] w fun e w' => e = .returned (.int .i64 (errN l)) ∧ Below w.heap.size w w' := by
  have HX : Hid (∀ z, Below w.heap.size w z → Calls Try.prog 27 #[v, .func (.func 26) #[] #[]] z fun e w' => e = .returned (.bool (!l.all rightB)) ∧ Below z.heap.size z w') := fun z hz => contains_func v l z (h.on hz)
  have hlen := h.len
  obtain ⟨a, c, rfl⟩ := h.slice
  clear h
  have HB := Lib.hid ((Below.refl _ w).alloc (Nat.le_refl _) (.cells #[.slice a l.length c] 24))
  have HE : Hid (errN l = if decide (l.length ≤ 4096) && l.all rightB then 0 else 10) := rfl
  generalize l.all rightB = q at *
  generalize errN l = r at *
  by_cases h4 : l.length ≤ 4096
  · have t1 : decide ((4096 : Int) < (l.length : Int)) = false := by simp; omega
    have t2 : ¬ ((4096 : Int) < (l.length : Int)) := by omega
    have t3 : decide (l.length ≤ 4096) = true := by simpa using h4
    rw [t3] at HE
    cases q
    all_goals
      have HR := Lib.hid HE.out
      simp only [Bool.true_and, Bool.false_eq_true, if_false, if_true] at HR
      clear HE t3
      go_enter Try.func18, Try.ntmps18
      go_wp2_with (go_at_call 27; go_loud ((with_reducible refine (HX.out _ HB.out).mono ?_); rintro e w1 ⟨rfl, hb⟩; have HB1 := Lib.hid (HB.out.trans (hb.mono HB.out.size)); clear hb))
      go_wp2
      go_ret
      exact ⟨by rw [HR.out]; rfl, HB1.out⟩
  · have t1 : decide ((4096 : Int) < (l.length : Int)) = true := by simp; omega
    have t2 : (4096 : Int) < (l.length : Int) := by omega
    have t3 : decide (l.length ≤ 4096) = false := by simpa using h4
    rw [t3] at HE
    have HR : Hid (r = 10) := HE.out
    clear HE t3
    go_enter Try.func18, Try.ntmps18
    go_wp2
    go_ret
    exact ⟨by rw [HR.out]; rfl, HB.out⟩
end Nt
end Go.Proofs.Ytejolapbdkkdaaa
