/-
  WHO BEARS WHOM: rig.keepsOff, rig.Bear, the document's Bear, and the examples.
-/
import Derived.Test.YtgnkaijaoaailaaRigName
import Derived.Deep.RegionHeld3
namespace Go.Proofs.Ytgnkaijaoaailaa
open Go.RowKit
namespace Rg
/-- Whether one that is apart of group a will not be where one of group g is. -/
def koB (a g : ByteArray) : Bool := !(a.toList.isEmpty) && (a.toList == g.toList)
def bearB (aa ag ba bg : ByteArray) : Bool := !(koB aa bg) && !(koB ba ag)
theorem koB_nil (a g : ByteArray) (h : a.toList = []) : koB a g = false := by unfold koB; simp [h]
theorem koB_eq (a g : ByteArray) (h : ¬ a.toList = []) : koB a g = (a.toList == g.toList) := by unfold koB; simp [h]
theorem bear_turned (aa ag ba bg : ByteArray) : bearB aa ag ba bg = bearB ba bg aa ag := by unfold bearB; rw [Bool.and_comm]
theorem two (w : World) (o o' : Obj) : Below w.heap.size w ((w.alloc o).alloc o') := ((Below.refl _ _).alloc (Nat.le_refl _) _).alloc (by simp) _

set_option maxHeartbeats 400000 in
theorem off_any (xn xg xa : ByteArray) (x0 x1 x2 xr : Int) (xwa xba : Option Addr) (xwn xwc xbn xbc : Nat) (yn yg ya : ByteArray) (y0 y1 y2 yr : Int) (ywa yba : Option Addr) (ywn ywc ybn ybc : Nat) (w : World) :
    Calls Try.prog 38 #[.agg #[.string xn, .int .i64 x0, .int .i64 x1, .int .i64 x2, .slice xwa xwn xwc, .slice xba xbn xbc, .string xg, .string xa, .int .i64 xr], .agg #[.string yn, .int .i64 y0, .int .i64 y1, .int .i64 y2, .slice ywa ywn ywc, .slice yba ybn ybc, .string yg, .string ya, .int .i64 yr]] w fun e w' => e = .returned (.bool (koB xa yg)) ∧ Below w.heap.size w w' := by
  by_cases h0 : xa.toList = []
  · have HN := Lib.hid (koB_nil xa yg h0)
    go_enter Try.func38, Try.ntmps38
    go_wp2
    go_ret
    exact ⟨by rw [HN.out]; rfl, two _ _ _⟩
  · have HN := Lib.hid (koB_eq xa yg h0)
    have h1 : xa.toList.isEmpty = false := by simpa using h0
    go_enter Try.func38, Try.ntmps38
    go_wp2
    go_ret
    exact ⟨by rw [HN.out]; rfl, two _ _ _⟩

theorem boxed {w w1 : World} {a b : Array Value} {t u : TypeId} (hb : Below ((w.alloc (.cells a t)).alloc (.cells b u)).heap.size ((w.alloc (.cells a t)).alloc (.cells b u)) w1) :
    (∀ i, w1.cell? ⟨w.heap.size, i, none⟩ = a[i]?) ∧ (∀ i, w1.cell? ⟨w.heap.size + 1, i, none⟩ = b[i]?) ∧ Below w.heap.size w w1 := by
  refine ⟨fun i => ?_, fun i => ?_, (two w _ _).trans (hb.mono (by simp; omega))⟩
  · rw [hb.cell (by simp; omega)]
    simp [go_sem]
  · rw [hb.cell (by simp)]
    simp [go_sem]

set_option maxHeartbeats 800000 in
theorem bear_any (xn xg xa : ByteArray) (x0 x1 x2 xr : Int) (xwa xba : Option Addr) (xwn xwc xbn xbc : Nat) (yn yg ya : ByteArray) (y0 y1 y2 yr : Int) (ywa yba : Option Addr) (ywn ywc ybn ybc : Nat) (w : World) :
    Calls Try.prog 23 #[.agg #[.string xn, .int .i64 x0, .int .i64 x1, .int .i64 x2, .slice xwa xwn xwc, .slice xba xbn xbc, .string xg, .string xa, .int .i64 xr], .agg #[.string yn, .int .i64 y0, .int .i64 y1, .int .i64 y2, .slice ywa ywn ywc, .slice yba ybn ybc, .string yg, .string ya, .int .i64 yr]] w fun e w' => e = .returned (.bool (bearB xa xg ya yg)) ∧ Below w.heap.size w w' := by
  have h1 := fun w => off_any xn xg xa x0 x1 x2 xr xwa xba xwn xwc xbn xbc yn yg ya y0 y1 y2 yr ywa yba ywn ywc ybn ybc w
  have h2 := fun w => off_any yn yg ya y0 y1 y2 yr ywa yba ywn ywc ybn ybc xn xg xa x0 x1 x2 xr xwa xba xwn xwc xbn xbc w
  cases hk : koB xa yg
  · have HN : Hid (bearB xa xg ya yg = !(koB ya xg)) := by show _ = _; unfold bearB; rw [hk]; rfl
    rw [hk] at h1
    have H1 := Lib.hid h1
    have H2 := Lib.hid h2
    clear h1 h2 hk
    generalize koB ya xg = r at *
    go_enter Try.func23, Try.ntmps23
    go_wp2_with fail
    refine (H1.out _).mono ?_
    rintro e w1 ⟨rfl, hb⟩
    obtain ⟨c0, c1, hbw⟩ := boxed hb
    have hz := hb.size
    simp at hz
    have HB := Lib.hid hbw
    clear hb hbw
    go_wp2_with fail
    refine (H2.out _).mono ?_
    rintro e w2 ⟨rfl, hb⟩
    have HB2 := Lib.hid (HB.out.trans (hb.mono HB.out.size))
    clear hb
    go_wp2
    go_ret
    exact ⟨by rw [HN.out]; rfl, HB2.out⟩
  · have HN : Hid (bearB xa xg ya yg = false) := by show _ = _; unfold bearB; rw [hk]; rfl
    rw [hk] at h1
    have H1 := Lib.hid h1
    clear h1 h2 hk
    go_enter Try.func23, Try.ntmps23
    go_wp2_with fail
    refine (H1.out _).mono ?_
    rintro e w1 ⟨rfl, hb⟩
    obtain ⟨c0, c1, hbw⟩ := boxed hb
    have HB := Lib.hid hbw
    clear hb hbw
    go_wp2
    go_ret
    exact ⟨by rw [HN.out]; rfl, HB.out⟩

set_option maxHeartbeats 800000 in
theorem bear_ref (xn xg xa : ByteArray) (x0 x1 x2 xr : Int) (xwa xba : Option Addr) (xwn xwc xbn xbc : Nat) (yn yg ya : ByteArray) (y0 y1 y2 yr : Int) (ywa yba : Option Addr) (ywn ywc ybn ybc : Nat) (w : World) :
    Calls Try.prog 24 #[.agg #[.string xn, .int .i64 x0, .int .i64 x1, .int .i64 x2, .slice xwa xwn xwc, .slice xba xbn xbc, .string xg, .string xa, .int .i64 xr], .agg #[.string yn, .int .i64 y0, .int .i64 y1, .int .i64 y2, .slice ywa ywn ywc, .slice yba ybn ybc, .string yg, .string ya, .int .i64 yr]] w fun e w' => e = .returned (.bool (bearB xa xg ya yg)) ∧ Below w.heap.size w w' := by
  have HN : Hid (bearB xa xg ya yg = (!(koB xa yg) && !(koB ya xg))) := rfl
  by_cases h0 : xa.toList = []
  · have H1 := Lib.hid (koB_nil xa yg h0)
    by_cases h2 : ya.toList = []
    · have H2 := Lib.hid (koB_nil ya xg h2)
      go_enter Try.func24, Try.ntmps24
      go_wp2
      go_ret
      exact ⟨by rw [HN.out, H1.out, H2.out]; rfl, two _ _ _⟩
    · have H2 := Lib.hid (koB_eq ya xg h2)
      have h3 : ya.toList.isEmpty = false := by simpa using h2
      go_enter Try.func24, Try.ntmps24
      go_wp2
      go_ret
      exact ⟨by rw [HN.out, H1.out, H2.out]; rfl, two _ _ _⟩
  · have H1 := Lib.hid (koB_eq xa yg h0)
    have h1 : xa.toList.isEmpty = false := by simpa using h0
    by_cases he : xa.toList = yg.toList
    · have H3 := Lib.hid (show bearB xa xg ya yg = false by rw [HN.out, H1.out]; simp [he])
      have he2 : (xa.toList == yg.toList) = true := by simpa using he
      clear he
      go_enter Try.func24, Try.ntmps24
      go_wp2
      go_ret
      exact ⟨by rw [H3.out]; rfl, two _ _ _⟩
    · have he2 : (xa.toList == yg.toList) = false := by simpa using he
      rw [he2] at H1
      by_cases h2 : ya.toList = []
      · have H2 := Lib.hid (koB_nil ya xg h2)
        go_enter Try.func24, Try.ntmps24
        go_wp2
        go_ret
        exact ⟨by rw [HN.out, H1.out, H2.out]; rfl, two _ _ _⟩
      · have H2 := Lib.hid (koB_eq ya xg h2)
        have h3 : ya.toList.isEmpty = false := by simpa using h2
        go_enter Try.func24, Try.ntmps24
        go_wp2
        go_ret
        exact ⟨by rw [HN.out, H1.out, H2.out]; rfl, two _ _ _⟩

theorem bear_at {xn xg xa : ByteArray} {x0 x1 x2 xr : Int} {xwa xba : Option Addr} {xwn xwc xbn xbc : Nat} {yn yg ya : ByteArray} {y0 y1 y2 yr : Int} {ywa yba : Option Addr} {ywn ywc ybn ybc : Nat} {r : Bool} (h : bearB xa xg ya yg = r) (w : World) :
    Calls Try.prog 23 #[.agg #[.string xn, .int .i64 x0, .int .i64 x1, .int .i64 x2, .slice xwa xwn xwc, .slice xba xbn xbc, .string xg, .string xa, .int .i64 xr], .agg #[.string yn, .int .i64 y0, .int .i64 y1, .int .i64 y2, .slice ywa ywn ywc, .slice yba ybn ybc, .string yg, .string ya, .int .i64 yr]] w fun e w' => e = .returned (.bool r) ∧ Below w.heap.size w w' := by
  subst h
  exact bear_any xn xg xa x0 x1 x2 xr xwa xba xwn xwc xbn xbc yn yg ya y0 y1 y2 yr ywa yba ywn ywc ybn ybc w
set_option maxHeartbeats 800000 in
theorem bears_true (w : World) : Calls Try.prog 22 #[] w fun e w' => e = .returned (.bool true) ∧ Below w.heap.size w w' := by
  go_enter Try.func22, Try.ntmps22
  go_wp2_with fail
  refine (bear_at (r := true) (by decide +kernel) _).mono ?_
  rintro e w1 ⟨rfl, hb⟩
  have HB := Lib.hid hb
  clear hb
  go_wp2_with fail
  refine (bear_at (r := false) (by decide +kernel) _).mono ?_
  rintro e w2 ⟨rfl, hb⟩
  have HB2 := Lib.hid (HB.out.trans (hb.mono HB.out.size))
  clear hb
  go_wp2
  go_ret
  exact ⟨rfl, HB2.out⟩

set_option maxRecDepth 100000 in
set_option maxHeartbeats 4000000 in
theorem rigBears (xn xg xa : ByteArray) (x0 x1 x2 xr : Int) (xwa xba : Option Addr) (xwn xwc xbn xbc : Nat) (yn yg ya : ByteArray) (y0 y1 y2 yr : Int) (ywa yba : Option Addr) (ywn ywc ybn ybc : Nat) (w : World) :
    Calls Try.prog 6 #[.agg #[.string xn, .int .i64 x0, .int .i64 x1, .int .i64 x2, .slice xwa xwn xwc, .slice xba xbn xbc, .string xg, .string xa, .int .i64 xr], .agg #[.string yn, .int .i64 y0, .int .i64 y1, .int .i64 y2, .slice ywa ywn ywc, .slice yba ybn ybc, .string yg, .string ya, .int .i64 yr]] w fun e w' => e = .returned (.bool true) ∧ Below w.heap.size w w' := by
  have HT := Lib.hid (bear_turned xa xg ya yg)
  have h1 := fun w => bear_any xn xg xa x0 x1 x2 xr xwa xba xwn xwc xbn xbc yn yg ya y0 y1 y2 yr ywa yba ywn ywc ybn ybc w
  have h2 := fun w => bear_ref xn xg xa x0 x1 x2 xr xwa xba xwn xwc xbn xbc yn yg ya y0 y1 y2 yr ywa yba ywn ywc ybn ybc w
  have h3 := fun w => bear_any yn yg ya y0 y1 y2 yr ywa yba ywn ywc ybn ybc xn xg xa x0 x1 x2 xr xwa xba xwn xwc xbn xbc w
  rw [← HT.out] at h3
  generalize bearB xa xg ya yg = r at h1 h2 h3
  have L0 : Hid (∀ x, (x.cell? ⟨w.heap.size, 0, none⟩ = some (.string xn) ∧ x.cell? ⟨w.heap.size, 1, none⟩ = some (.int .i64 x0) ∧ x.cell? ⟨w.heap.size, 2, none⟩ = some (.int .i64 x1) ∧ x.cell? ⟨w.heap.size, 3, none⟩ = some (.int .i64 x2) ∧ x.cell? ⟨w.heap.size, 4, none⟩ = some (.slice xwa xwn xwc) ∧ x.cell? ⟨w.heap.size, 5, none⟩ = some (.slice xba xbn xbc) ∧ x.cell? ⟨w.heap.size, 6, none⟩ = some (.string xg) ∧ x.cell? ⟨w.heap.size, 7, none⟩ = some (.string xa) ∧ x.cell? ⟨w.heap.size, 8, none⟩ = some (.int .i64 xr) ∧ x.cell? ⟨w.heap.size + 1, 0, none⟩ = some (.string yn) ∧ x.cell? ⟨w.heap.size + 1, 1, none⟩ = some (.int .i64 y0) ∧ x.cell? ⟨w.heap.size + 1, 2, none⟩ = some (.int .i64 y1) ∧ x.cell? ⟨w.heap.size + 1, 3, none⟩ = some (.int .i64 y2) ∧ x.cell? ⟨w.heap.size + 1, 4, none⟩ = some (.slice ywa ywn ywc) ∧ x.cell? ⟨w.heap.size + 1, 5, none⟩ = some (.slice yba ybn ybc) ∧ x.cell? ⟨w.heap.size + 1, 6, none⟩ = some (.string yg) ∧ x.cell? ⟨w.heap.size + 1, 7, none⟩ = some (.string ya) ∧ x.cell? ⟨w.heap.size + 1, 8, none⟩ = some (.int .i64 yr) ∧ Hid (Below w.heap.size w x ∧ w.heap.size + 2 ≤ x.heap.size)) → ∀ x', Below x.heap.size x x' → (x'.cell? ⟨w.heap.size, 0, none⟩ = some (.string xn) ∧ x'.cell? ⟨w.heap.size, 1, none⟩ = some (.int .i64 x0) ∧ x'.cell? ⟨w.heap.size, 2, none⟩ = some (.int .i64 x1) ∧ x'.cell? ⟨w.heap.size, 3, none⟩ = some (.int .i64 x2) ∧ x'.cell? ⟨w.heap.size, 4, none⟩ = some (.slice xwa xwn xwc) ∧ x'.cell? ⟨w.heap.size, 5, none⟩ = some (.slice xba xbn xbc) ∧ x'.cell? ⟨w.heap.size, 6, none⟩ = some (.string xg) ∧ x'.cell? ⟨w.heap.size, 7, none⟩ = some (.string xa) ∧ x'.cell? ⟨w.heap.size, 8, none⟩ = some (.int .i64 xr) ∧ x'.cell? ⟨w.heap.size + 1, 0, none⟩ = some (.string yn) ∧ x'.cell? ⟨w.heap.size + 1, 1, none⟩ = some (.int .i64 y0) ∧ x'.cell? ⟨w.heap.size + 1, 2, none⟩ = some (.int .i64 y1) ∧ x'.cell? ⟨w.heap.size + 1, 3, none⟩ = some (.int .i64 y2) ∧ x'.cell? ⟨w.heap.size + 1, 4, none⟩ = some (.slice ywa ywn ywc) ∧ x'.cell? ⟨w.heap.size + 1, 5, none⟩ = some (.slice yba ybn ybc) ∧ x'.cell? ⟨w.heap.size + 1, 6, none⟩ = some (.string yg) ∧ x'.cell? ⟨w.heap.size + 1, 7, none⟩ = some (.string ya) ∧ x'.cell? ⟨w.heap.size + 1, 8, none⟩ = some (.int .i64 yr) ∧ Hid (Below w.heap.size w x' ∧ w.heap.size + 2 ≤ x'.heap.size))) := by
    intro x h x' hb
    obtain ⟨a0, a1, a2, a3, a4, a5, a6, a7, a8, b0, b1, b2, b3, b4, b5, b6, b7, b8, hS⟩ := h
    have hz := hS.out.2
    have k0 : ∀ i, x'.cell? ⟨w.heap.size, i, none⟩ = x.cell? ⟨w.heap.size, i, none⟩ := fun i => hb.cell (by show w.heap.size < _; omega)
    have k1 : ∀ i, x'.cell? ⟨w.heap.size + 1, i, none⟩ = x.cell? ⟨w.heap.size + 1, i, none⟩ := fun i => hb.cell (by show w.heap.size + 1 < _; omega)
    have hE : Hid (Below w.heap.size w x' ∧ w.heap.size + 2 ≤ x'.heap.size) := ⟨hS.out.1.trans (hb.mono (by omega)), by have := hb.size; omega⟩
    simp only [k0, k1]
    exact ⟨a0, a1, a2, a3, a4, a5, a6, a7, a8, b0, b1, b2, b3, b4, b5, b6, b7, b8, hE⟩
  have KB : Hid (∀ x, (x.cell? ⟨w.heap.size, 0, none⟩ = some (.string xn) ∧ x.cell? ⟨w.heap.size, 1, none⟩ = some (.int .i64 x0) ∧ x.cell? ⟨w.heap.size, 2, none⟩ = some (.int .i64 x1) ∧ x.cell? ⟨w.heap.size, 3, none⟩ = some (.int .i64 x2) ∧ x.cell? ⟨w.heap.size, 4, none⟩ = some (.slice xwa xwn xwc) ∧ x.cell? ⟨w.heap.size, 5, none⟩ = some (.slice xba xbn xbc) ∧ x.cell? ⟨w.heap.size, 6, none⟩ = some (.string xg) ∧ x.cell? ⟨w.heap.size, 7, none⟩ = some (.string xa) ∧ x.cell? ⟨w.heap.size, 8, none⟩ = some (.int .i64 xr) ∧ x.cell? ⟨w.heap.size + 1, 0, none⟩ = some (.string yn) ∧ x.cell? ⟨w.heap.size + 1, 1, none⟩ = some (.int .i64 y0) ∧ x.cell? ⟨w.heap.size + 1, 2, none⟩ = some (.int .i64 y1) ∧ x.cell? ⟨w.heap.size + 1, 3, none⟩ = some (.int .i64 y2) ∧ x.cell? ⟨w.heap.size + 1, 4, none⟩ = some (.slice ywa ywn ywc) ∧ x.cell? ⟨w.heap.size + 1, 5, none⟩ = some (.slice yba ybn ybc) ∧ x.cell? ⟨w.heap.size + 1, 6, none⟩ = some (.string yg) ∧ x.cell? ⟨w.heap.size + 1, 7, none⟩ = some (.string ya) ∧ x.cell? ⟨w.heap.size + 1, 8, none⟩ = some (.int .i64 yr) ∧ Hid (Below w.heap.size w x ∧ w.heap.size + 2 ≤ x.heap.size)) → Below w.heap.size w x) := by
    intro x h
    obtain ⟨a0, a1, a2, a3, a4, a5, a6, a7, a8, b0, b1, b2, b3, b4, b5, b6, b7, b8, hS⟩ := h
    exact hS.out.1
  have K1 : Hid (∀ x, (x.cell? ⟨w.heap.size, 0, none⟩ = some (.string xn) ∧ x.cell? ⟨w.heap.size, 1, none⟩ = some (.int .i64 x0) ∧ x.cell? ⟨w.heap.size, 2, none⟩ = some (.int .i64 x1) ∧ x.cell? ⟨w.heap.size, 3, none⟩ = some (.int .i64 x2) ∧ x.cell? ⟨w.heap.size, 4, none⟩ = some (.slice xwa xwn xwc) ∧ x.cell? ⟨w.heap.size, 5, none⟩ = some (.slice xba xbn xbc) ∧ x.cell? ⟨w.heap.size, 6, none⟩ = some (.string xg) ∧ x.cell? ⟨w.heap.size, 7, none⟩ = some (.string xa) ∧ x.cell? ⟨w.heap.size, 8, none⟩ = some (.int .i64 xr) ∧ x.cell? ⟨w.heap.size + 1, 0, none⟩ = some (.string yn) ∧ x.cell? ⟨w.heap.size + 1, 1, none⟩ = some (.int .i64 y0) ∧ x.cell? ⟨w.heap.size + 1, 2, none⟩ = some (.int .i64 y1) ∧ x.cell? ⟨w.heap.size + 1, 3, none⟩ = some (.int .i64 y2) ∧ x.cell? ⟨w.heap.size + 1, 4, none⟩ = some (.slice ywa ywn ywc) ∧ x.cell? ⟨w.heap.size + 1, 5, none⟩ = some (.slice yba ybn ybc) ∧ x.cell? ⟨w.heap.size + 1, 6, none⟩ = some (.string yg) ∧ x.cell? ⟨w.heap.size + 1, 7, none⟩ = some (.string ya) ∧ x.cell? ⟨w.heap.size + 1, 8, none⟩ = some (.int .i64 yr) ∧ Hid (Below w.heap.size w x ∧ w.heap.size + 2 ≤ x.heap.size)) → Calls Try.prog 23 #[.agg #[.string xn, .int .i64 x0, .int .i64 x1, .int .i64 x2, .slice xwa xwn xwc, .slice xba xbn xbc, .string xg, .string xa, .int .i64 xr], .agg #[.string yn, .int .i64 y0, .int .i64 y1, .int .i64 y2, .slice ywa ywn ywc, .slice yba ybn ybc, .string yg, .string ya, .int .i64 yr]] x fun e x' => e = .returned (.bool r) ∧ (x'.cell? ⟨w.heap.size, 0, none⟩ = some (.string xn) ∧ x'.cell? ⟨w.heap.size, 1, none⟩ = some (.int .i64 x0) ∧ x'.cell? ⟨w.heap.size, 2, none⟩ = some (.int .i64 x1) ∧ x'.cell? ⟨w.heap.size, 3, none⟩ = some (.int .i64 x2) ∧ x'.cell? ⟨w.heap.size, 4, none⟩ = some (.slice xwa xwn xwc) ∧ x'.cell? ⟨w.heap.size, 5, none⟩ = some (.slice xba xbn xbc) ∧ x'.cell? ⟨w.heap.size, 6, none⟩ = some (.string xg) ∧ x'.cell? ⟨w.heap.size, 7, none⟩ = some (.string xa) ∧ x'.cell? ⟨w.heap.size, 8, none⟩ = some (.int .i64 xr) ∧ x'.cell? ⟨w.heap.size + 1, 0, none⟩ = some (.string yn) ∧ x'.cell? ⟨w.heap.size + 1, 1, none⟩ = some (.int .i64 y0) ∧ x'.cell? ⟨w.heap.size + 1, 2, none⟩ = some (.int .i64 y1) ∧ x'.cell? ⟨w.heap.size + 1, 3, none⟩ = some (.int .i64 y2) ∧ x'.cell? ⟨w.heap.size + 1, 4, none⟩ = some (.slice ywa ywn ywc) ∧ x'.cell? ⟨w.heap.size + 1, 5, none⟩ = some (.slice yba ybn ybc) ∧ x'.cell? ⟨w.heap.size + 1, 6, none⟩ = some (.string yg) ∧ x'.cell? ⟨w.heap.size + 1, 7, none⟩ = some (.string ya) ∧ x'.cell? ⟨w.heap.size + 1, 8, none⟩ = some (.int .i64 yr) ∧ Hid (Below w.heap.size w x' ∧ w.heap.size + 2 ≤ x'.heap.size))) := fun x h => (h1 x).mono fun e x' ⟨he, hb⟩ => ⟨he, L0.out x h x' hb⟩
  have K2 : Hid (∀ x, (x.cell? ⟨w.heap.size, 0, none⟩ = some (.string xn) ∧ x.cell? ⟨w.heap.size, 1, none⟩ = some (.int .i64 x0) ∧ x.cell? ⟨w.heap.size, 2, none⟩ = some (.int .i64 x1) ∧ x.cell? ⟨w.heap.size, 3, none⟩ = some (.int .i64 x2) ∧ x.cell? ⟨w.heap.size, 4, none⟩ = some (.slice xwa xwn xwc) ∧ x.cell? ⟨w.heap.size, 5, none⟩ = some (.slice xba xbn xbc) ∧ x.cell? ⟨w.heap.size, 6, none⟩ = some (.string xg) ∧ x.cell? ⟨w.heap.size, 7, none⟩ = some (.string xa) ∧ x.cell? ⟨w.heap.size, 8, none⟩ = some (.int .i64 xr) ∧ x.cell? ⟨w.heap.size + 1, 0, none⟩ = some (.string yn) ∧ x.cell? ⟨w.heap.size + 1, 1, none⟩ = some (.int .i64 y0) ∧ x.cell? ⟨w.heap.size + 1, 2, none⟩ = some (.int .i64 y1) ∧ x.cell? ⟨w.heap.size + 1, 3, none⟩ = some (.int .i64 y2) ∧ x.cell? ⟨w.heap.size + 1, 4, none⟩ = some (.slice ywa ywn ywc) ∧ x.cell? ⟨w.heap.size + 1, 5, none⟩ = some (.slice yba ybn ybc) ∧ x.cell? ⟨w.heap.size + 1, 6, none⟩ = some (.string yg) ∧ x.cell? ⟨w.heap.size + 1, 7, none⟩ = some (.string ya) ∧ x.cell? ⟨w.heap.size + 1, 8, none⟩ = some (.int .i64 yr) ∧ Hid (Below w.heap.size w x ∧ w.heap.size + 2 ≤ x.heap.size)) → Calls Try.prog 24 #[.agg #[.string xn, .int .i64 x0, .int .i64 x1, .int .i64 x2, .slice xwa xwn xwc, .slice xba xbn xbc, .string xg, .string xa, .int .i64 xr], .agg #[.string yn, .int .i64 y0, .int .i64 y1, .int .i64 y2, .slice ywa ywn ywc, .slice yba ybn ybc, .string yg, .string ya, .int .i64 yr]] x fun e x' => e = .returned (.bool r) ∧ (x'.cell? ⟨w.heap.size, 0, none⟩ = some (.string xn) ∧ x'.cell? ⟨w.heap.size, 1, none⟩ = some (.int .i64 x0) ∧ x'.cell? ⟨w.heap.size, 2, none⟩ = some (.int .i64 x1) ∧ x'.cell? ⟨w.heap.size, 3, none⟩ = some (.int .i64 x2) ∧ x'.cell? ⟨w.heap.size, 4, none⟩ = some (.slice xwa xwn xwc) ∧ x'.cell? ⟨w.heap.size, 5, none⟩ = some (.slice xba xbn xbc) ∧ x'.cell? ⟨w.heap.size, 6, none⟩ = some (.string xg) ∧ x'.cell? ⟨w.heap.size, 7, none⟩ = some (.string xa) ∧ x'.cell? ⟨w.heap.size, 8, none⟩ = some (.int .i64 xr) ∧ x'.cell? ⟨w.heap.size + 1, 0, none⟩ = some (.string yn) ∧ x'.cell? ⟨w.heap.size + 1, 1, none⟩ = some (.int .i64 y0) ∧ x'.cell? ⟨w.heap.size + 1, 2, none⟩ = some (.int .i64 y1) ∧ x'.cell? ⟨w.heap.size + 1, 3, none⟩ = some (.int .i64 y2) ∧ x'.cell? ⟨w.heap.size + 1, 4, none⟩ = some (.slice ywa ywn ywc) ∧ x'.cell? ⟨w.heap.size + 1, 5, none⟩ = some (.slice yba ybn ybc) ∧ x'.cell? ⟨w.heap.size + 1, 6, none⟩ = some (.string yg) ∧ x'.cell? ⟨w.heap.size + 1, 7, none⟩ = some (.string ya) ∧ x'.cell? ⟨w.heap.size + 1, 8, none⟩ = some (.int .i64 yr) ∧ Hid (Below w.heap.size w x' ∧ w.heap.size + 2 ≤ x'.heap.size))) := fun x h => (h2 x).mono fun e x' ⟨he, hb⟩ => ⟨he, L0.out x h x' hb⟩
  have K3 : Hid (∀ x, (x.cell? ⟨w.heap.size, 0, none⟩ = some (.string xn) ∧ x.cell? ⟨w.heap.size, 1, none⟩ = some (.int .i64 x0) ∧ x.cell? ⟨w.heap.size, 2, none⟩ = some (.int .i64 x1) ∧ x.cell? ⟨w.heap.size, 3, none⟩ = some (.int .i64 x2) ∧ x.cell? ⟨w.heap.size, 4, none⟩ = some (.slice xwa xwn xwc) ∧ x.cell? ⟨w.heap.size, 5, none⟩ = some (.slice xba xbn xbc) ∧ x.cell? ⟨w.heap.size, 6, none⟩ = some (.string xg) ∧ x.cell? ⟨w.heap.size, 7, none⟩ = some (.string xa) ∧ x.cell? ⟨w.heap.size, 8, none⟩ = some (.int .i64 xr) ∧ x.cell? ⟨w.heap.size + 1, 0, none⟩ = some (.string yn) ∧ x.cell? ⟨w.heap.size + 1, 1, none⟩ = some (.int .i64 y0) ∧ x.cell? ⟨w.heap.size + 1, 2, none⟩ = some (.int .i64 y1) ∧ x.cell? ⟨w.heap.size + 1, 3, none⟩ = some (.int .i64 y2) ∧ x.cell? ⟨w.heap.size + 1, 4, none⟩ = some (.slice ywa ywn ywc) ∧ x.cell? ⟨w.heap.size + 1, 5, none⟩ = some (.slice yba ybn ybc) ∧ x.cell? ⟨w.heap.size + 1, 6, none⟩ = some (.string yg) ∧ x.cell? ⟨w.heap.size + 1, 7, none⟩ = some (.string ya) ∧ x.cell? ⟨w.heap.size + 1, 8, none⟩ = some (.int .i64 yr) ∧ Hid (Below w.heap.size w x ∧ w.heap.size + 2 ≤ x.heap.size)) → Calls Try.prog 23 #[.agg #[.string yn, .int .i64 y0, .int .i64 y1, .int .i64 y2, .slice ywa ywn ywc, .slice yba ybn ybc, .string yg, .string ya, .int .i64 yr], .agg #[.string xn, .int .i64 x0, .int .i64 x1, .int .i64 x2, .slice xwa xwn xwc, .slice xba xbn xbc, .string xg, .string xa, .int .i64 xr]] x fun e x' => e = .returned (.bool r) ∧ (x'.cell? ⟨w.heap.size, 0, none⟩ = some (.string xn) ∧ x'.cell? ⟨w.heap.size, 1, none⟩ = some (.int .i64 x0) ∧ x'.cell? ⟨w.heap.size, 2, none⟩ = some (.int .i64 x1) ∧ x'.cell? ⟨w.heap.size, 3, none⟩ = some (.int .i64 x2) ∧ x'.cell? ⟨w.heap.size, 4, none⟩ = some (.slice xwa xwn xwc) ∧ x'.cell? ⟨w.heap.size, 5, none⟩ = some (.slice xba xbn xbc) ∧ x'.cell? ⟨w.heap.size, 6, none⟩ = some (.string xg) ∧ x'.cell? ⟨w.heap.size, 7, none⟩ = some (.string xa) ∧ x'.cell? ⟨w.heap.size, 8, none⟩ = some (.int .i64 xr) ∧ x'.cell? ⟨w.heap.size + 1, 0, none⟩ = some (.string yn) ∧ x'.cell? ⟨w.heap.size + 1, 1, none⟩ = some (.int .i64 y0) ∧ x'.cell? ⟨w.heap.size + 1, 2, none⟩ = some (.int .i64 y1) ∧ x'.cell? ⟨w.heap.size + 1, 3, none⟩ = some (.int .i64 y2) ∧ x'.cell? ⟨w.heap.size + 1, 4, none⟩ = some (.slice ywa ywn ywc) ∧ x'.cell? ⟨w.heap.size + 1, 5, none⟩ = some (.slice yba ybn ybc) ∧ x'.cell? ⟨w.heap.size + 1, 6, none⟩ = some (.string yg) ∧ x'.cell? ⟨w.heap.size + 1, 7, none⟩ = some (.string ya) ∧ x'.cell? ⟨w.heap.size + 1, 8, none⟩ = some (.int .i64 yr) ∧ Hid (Below w.heap.size w x' ∧ w.heap.size + 2 ≤ x'.heap.size))) := fun x h => (h3 x).mono fun e x' ⟨he, hb⟩ => ⟨he, L0.out x h x' hb⟩
  have K4 : Hid (∀ x, (x.cell? ⟨w.heap.size, 0, none⟩ = some (.string xn) ∧ x.cell? ⟨w.heap.size, 1, none⟩ = some (.int .i64 x0) ∧ x.cell? ⟨w.heap.size, 2, none⟩ = some (.int .i64 x1) ∧ x.cell? ⟨w.heap.size, 3, none⟩ = some (.int .i64 x2) ∧ x.cell? ⟨w.heap.size, 4, none⟩ = some (.slice xwa xwn xwc) ∧ x.cell? ⟨w.heap.size, 5, none⟩ = some (.slice xba xbn xbc) ∧ x.cell? ⟨w.heap.size, 6, none⟩ = some (.string xg) ∧ x.cell? ⟨w.heap.size, 7, none⟩ = some (.string xa) ∧ x.cell? ⟨w.heap.size, 8, none⟩ = some (.int .i64 xr) ∧ x.cell? ⟨w.heap.size + 1, 0, none⟩ = some (.string yn) ∧ x.cell? ⟨w.heap.size + 1, 1, none⟩ = some (.int .i64 y0) ∧ x.cell? ⟨w.heap.size + 1, 2, none⟩ = some (.int .i64 y1) ∧ x.cell? ⟨w.heap.size + 1, 3, none⟩ = some (.int .i64 y2) ∧ x.cell? ⟨w.heap.size + 1, 4, none⟩ = some (.slice ywa ywn ywc) ∧ x.cell? ⟨w.heap.size + 1, 5, none⟩ = some (.slice yba ybn ybc) ∧ x.cell? ⟨w.heap.size + 1, 6, none⟩ = some (.string yg) ∧ x.cell? ⟨w.heap.size + 1, 7, none⟩ = some (.string ya) ∧ x.cell? ⟨w.heap.size + 1, 8, none⟩ = some (.int .i64 yr) ∧ Hid (Below w.heap.size w x ∧ w.heap.size + 2 ≤ x.heap.size)) → Calls Try.prog 22 #[] x fun e x' => e = .returned (.bool true) ∧ (x'.cell? ⟨w.heap.size, 0, none⟩ = some (.string xn) ∧ x'.cell? ⟨w.heap.size, 1, none⟩ = some (.int .i64 x0) ∧ x'.cell? ⟨w.heap.size, 2, none⟩ = some (.int .i64 x1) ∧ x'.cell? ⟨w.heap.size, 3, none⟩ = some (.int .i64 x2) ∧ x'.cell? ⟨w.heap.size, 4, none⟩ = some (.slice xwa xwn xwc) ∧ x'.cell? ⟨w.heap.size, 5, none⟩ = some (.slice xba xbn xbc) ∧ x'.cell? ⟨w.heap.size, 6, none⟩ = some (.string xg) ∧ x'.cell? ⟨w.heap.size, 7, none⟩ = some (.string xa) ∧ x'.cell? ⟨w.heap.size, 8, none⟩ = some (.int .i64 xr) ∧ x'.cell? ⟨w.heap.size + 1, 0, none⟩ = some (.string yn) ∧ x'.cell? ⟨w.heap.size + 1, 1, none⟩ = some (.int .i64 y0) ∧ x'.cell? ⟨w.heap.size + 1, 2, none⟩ = some (.int .i64 y1) ∧ x'.cell? ⟨w.heap.size + 1, 3, none⟩ = some (.int .i64 y2) ∧ x'.cell? ⟨w.heap.size + 1, 4, none⟩ = some (.slice ywa ywn ywc) ∧ x'.cell? ⟨w.heap.size + 1, 5, none⟩ = some (.slice yba ybn ybc) ∧ x'.cell? ⟨w.heap.size + 1, 6, none⟩ = some (.string yg) ∧ x'.cell? ⟨w.heap.size + 1, 7, none⟩ = some (.string ya) ∧ x'.cell? ⟨w.heap.size + 1, 8, none⟩ = some (.int .i64 yr) ∧ Hid (Below w.heap.size w x' ∧ w.heap.size + 2 ≤ x'.heap.size))) := fun x h => (bears_true x).mono fun e x' ⟨he, hb⟩ => ⟨he, L0.out x h x' hb⟩
  have KD : Hid ((((w.alloc (.cells #[.string xn, .int .i64 x0, .int .i64 x1, .int .i64 x2, .slice xwa xwn xwc, .slice xba xbn xbc, .string xg, .string xa, .int .i64 xr] 29)).alloc (.cells #[.string yn, .int .i64 y0, .int .i64 y1, .int .i64 y2, .slice ywa ywn ywc, .slice yba ybn ybc, .string yg, .string ya, .int .i64 yr] 29)).drew).cell? ⟨w.heap.size, 0, none⟩ = some (.string xn) ∧ (((w.alloc (.cells #[.string xn, .int .i64 x0, .int .i64 x1, .int .i64 x2, .slice xwa xwn xwc, .slice xba xbn xbc, .string xg, .string xa, .int .i64 xr] 29)).alloc (.cells #[.string yn, .int .i64 y0, .int .i64 y1, .int .i64 y2, .slice ywa ywn ywc, .slice yba ybn ybc, .string yg, .string ya, .int .i64 yr] 29)).drew).cell? ⟨w.heap.size, 1, none⟩ = some (.int .i64 x0) ∧ (((w.alloc (.cells #[.string xn, .int .i64 x0, .int .i64 x1, .int .i64 x2, .slice xwa xwn xwc, .slice xba xbn xbc, .string xg, .string xa, .int .i64 xr] 29)).alloc (.cells #[.string yn, .int .i64 y0, .int .i64 y1, .int .i64 y2, .slice ywa ywn ywc, .slice yba ybn ybc, .string yg, .string ya, .int .i64 yr] 29)).drew).cell? ⟨w.heap.size, 2, none⟩ = some (.int .i64 x1) ∧ (((w.alloc (.cells #[.string xn, .int .i64 x0, .int .i64 x1, .int .i64 x2, .slice xwa xwn xwc, .slice xba xbn xbc, .string xg, .string xa, .int .i64 xr] 29)).alloc (.cells #[.string yn, .int .i64 y0, .int .i64 y1, .int .i64 y2, .slice ywa ywn ywc, .slice yba ybn ybc, .string yg, .string ya, .int .i64 yr] 29)).drew).cell? ⟨w.heap.size, 3, none⟩ = some (.int .i64 x2) ∧ (((w.alloc (.cells #[.string xn, .int .i64 x0, .int .i64 x1, .int .i64 x2, .slice xwa xwn xwc, .slice xba xbn xbc, .string xg, .string xa, .int .i64 xr] 29)).alloc (.cells #[.string yn, .int .i64 y0, .int .i64 y1, .int .i64 y2, .slice ywa ywn ywc, .slice yba ybn ybc, .string yg, .string ya, .int .i64 yr] 29)).drew).cell? ⟨w.heap.size, 4, none⟩ = some (.slice xwa xwn xwc) ∧ (((w.alloc (.cells #[.string xn, .int .i64 x0, .int .i64 x1, .int .i64 x2, .slice xwa xwn xwc, .slice xba xbn xbc, .string xg, .string xa, .int .i64 xr] 29)).alloc (.cells #[.string yn, .int .i64 y0, .int .i64 y1, .int .i64 y2, .slice ywa ywn ywc, .slice yba ybn ybc, .string yg, .string ya, .int .i64 yr] 29)).drew).cell? ⟨w.heap.size, 5, none⟩ = some (.slice xba xbn xbc) ∧ (((w.alloc (.cells #[.string xn, .int .i64 x0, .int .i64 x1, .int .i64 x2, .slice xwa xwn xwc, .slice xba xbn xbc, .string xg, .string xa, .int .i64 xr] 29)).alloc (.cells #[.string yn, .int .i64 y0, .int .i64 y1, .int .i64 y2, .slice ywa ywn ywc, .slice yba ybn ybc, .string yg, .string ya, .int .i64 yr] 29)).drew).cell? ⟨w.heap.size, 6, none⟩ = some (.string xg) ∧ (((w.alloc (.cells #[.string xn, .int .i64 x0, .int .i64 x1, .int .i64 x2, .slice xwa xwn xwc, .slice xba xbn xbc, .string xg, .string xa, .int .i64 xr] 29)).alloc (.cells #[.string yn, .int .i64 y0, .int .i64 y1, .int .i64 y2, .slice ywa ywn ywc, .slice yba ybn ybc, .string yg, .string ya, .int .i64 yr] 29)).drew).cell? ⟨w.heap.size, 7, none⟩ = some (.string xa) ∧ (((w.alloc (.cells #[.string xn, .int .i64 x0, .int .i64 x1, .int .i64 x2, .slice xwa xwn xwc, .slice xba xbn xbc, .string xg, .string xa, .int .i64 xr] 29)).alloc (.cells #[.string yn, .int .i64 y0, .int .i64 y1, .int .i64 y2, .slice ywa ywn ywc, .slice yba ybn ybc, .string yg, .string ya, .int .i64 yr] 29)).drew).cell? ⟨w.heap.size, 8, none⟩ = some (.int .i64 xr) ∧ (((w.alloc (.cells #[.string xn, .int .i64 x0, .int .i64 x1, .int .i64 x2, .slice xwa xwn xwc, .slice xba xbn xbc, .string xg, .string xa, .int .i64 xr] 29)).alloc (.cells #[.string yn, .int .i64 y0, .int .i64 y1, .int .i64 y2, .slice ywa ywn ywc, .slice yba ybn ybc, .string yg, .string ya, .int .i64 yr] 29)).drew).cell? ⟨w.heap.size + 1, 0, none⟩ = some (.string yn) ∧ (((w.alloc (.cells #[.string xn, .int .i64 x0, .int .i64 x1, .int .i64 x2, .slice xwa xwn xwc, .slice xba xbn xbc, .string xg, .string xa, .int .i64 xr] 29)).alloc (.cells #[.string yn, .int .i64 y0, .int .i64 y1, .int .i64 y2, .slice ywa ywn ywc, .slice yba ybn ybc, .string yg, .string ya, .int .i64 yr] 29)).drew).cell? ⟨w.heap.size + 1, 1, none⟩ = some (.int .i64 y0) ∧ (((w.alloc (.cells #[.string xn, .int .i64 x0, .int .i64 x1, .int .i64 x2, .slice xwa xwn xwc, .slice xba xbn xbc, .string xg, .string xa, .int .i64 xr] 29)).alloc (.cells #[.string yn, .int .i64 y0, .int .i64 y1, .int .i64 y2, .slice ywa ywn ywc, .slice yba ybn ybc, .string yg, .string ya, .int .i64 yr] 29)).drew).cell? ⟨w.heap.size + 1, 2, none⟩ = some (.int .i64 y1) ∧ (((w.alloc (.cells #[.string xn, .int .i64 x0, .int .i64 x1, .int .i64 x2, .slice xwa xwn xwc, .slice xba xbn xbc, .string xg, .string xa, .int .i64 xr] 29)).alloc (.cells #[.string yn, .int .i64 y0, .int .i64 y1, .int .i64 y2, .slice ywa ywn ywc, .slice yba ybn ybc, .string yg, .string ya, .int .i64 yr] 29)).drew).cell? ⟨w.heap.size + 1, 3, none⟩ = some (.int .i64 y2) ∧ (((w.alloc (.cells #[.string xn, .int .i64 x0, .int .i64 x1, .int .i64 x2, .slice xwa xwn xwc, .slice xba xbn xbc, .string xg, .string xa, .int .i64 xr] 29)).alloc (.cells #[.string yn, .int .i64 y0, .int .i64 y1, .int .i64 y2, .slice ywa ywn ywc, .slice yba ybn ybc, .string yg, .string ya, .int .i64 yr] 29)).drew).cell? ⟨w.heap.size + 1, 4, none⟩ = some (.slice ywa ywn ywc) ∧ (((w.alloc (.cells #[.string xn, .int .i64 x0, .int .i64 x1, .int .i64 x2, .slice xwa xwn xwc, .slice xba xbn xbc, .string xg, .string xa, .int .i64 xr] 29)).alloc (.cells #[.string yn, .int .i64 y0, .int .i64 y1, .int .i64 y2, .slice ywa ywn ywc, .slice yba ybn ybc, .string yg, .string ya, .int .i64 yr] 29)).drew).cell? ⟨w.heap.size + 1, 5, none⟩ = some (.slice yba ybn ybc) ∧ (((w.alloc (.cells #[.string xn, .int .i64 x0, .int .i64 x1, .int .i64 x2, .slice xwa xwn xwc, .slice xba xbn xbc, .string xg, .string xa, .int .i64 xr] 29)).alloc (.cells #[.string yn, .int .i64 y0, .int .i64 y1, .int .i64 y2, .slice ywa ywn ywc, .slice yba ybn ybc, .string yg, .string ya, .int .i64 yr] 29)).drew).cell? ⟨w.heap.size + 1, 6, none⟩ = some (.string yg) ∧ (((w.alloc (.cells #[.string xn, .int .i64 x0, .int .i64 x1, .int .i64 x2, .slice xwa xwn xwc, .slice xba xbn xbc, .string xg, .string xa, .int .i64 xr] 29)).alloc (.cells #[.string yn, .int .i64 y0, .int .i64 y1, .int .i64 y2, .slice ywa ywn ywc, .slice yba ybn ybc, .string yg, .string ya, .int .i64 yr] 29)).drew).cell? ⟨w.heap.size + 1, 7, none⟩ = some (.string ya) ∧ (((w.alloc (.cells #[.string xn, .int .i64 x0, .int .i64 x1, .int .i64 x2, .slice xwa xwn xwc, .slice xba xbn xbc, .string xg, .string xa, .int .i64 xr] 29)).alloc (.cells #[.string yn, .int .i64 y0, .int .i64 y1, .int .i64 y2, .slice ywa ywn ywc, .slice yba ybn ybc, .string yg, .string ya, .int .i64 yr] 29)).drew).cell? ⟨w.heap.size + 1, 8, none⟩ = some (.int .i64 yr) ∧ Hid (Below w.heap.size w (((w.alloc (.cells #[.string xn, .int .i64 x0, .int .i64 x1, .int .i64 x2, .slice xwa xwn xwc, .slice xba xbn xbc, .string xg, .string xa, .int .i64 xr] 29)).alloc (.cells #[.string yn, .int .i64 y0, .int .i64 y1, .int .i64 y2, .slice ywa ywn ywc, .slice yba ybn ybc, .string yg, .string ya, .int .i64 yr] 29)).drew) ∧ w.heap.size + 2 ≤ (((w.alloc (.cells #[.string xn, .int .i64 x0, .int .i64 x1, .int .i64 x2, .slice xwa xwn xwc, .slice xba xbn xbc, .string xg, .string xa, .int .i64 xr] 29)).alloc (.cells #[.string yn, .int .i64 y0, .int .i64 y1, .int .i64 y2, .slice ywa ywn ywc, .slice yba ybn ybc, .string yg, .string ya, .int .i64 yr] 29)).drew).heap.size)) := by
    have hE : Hid (Below w.heap.size w (((w.alloc (.cells #[.string xn, .int .i64 x0, .int .i64 x1, .int .i64 x2, .slice xwa xwn xwc, .slice xba xbn xbc, .string xg, .string xa, .int .i64 xr] 29)).alloc (.cells #[.string yn, .int .i64 y0, .int .i64 y1, .int .i64 y2, .slice ywa ywn ywc, .slice yba ybn ybc, .string yg, .string ya, .int .i64 yr] 29)).drew) ∧ w.heap.size + 2 ≤ (((w.alloc (.cells #[.string xn, .int .i64 x0, .int .i64 x1, .int .i64 x2, .slice xwa xwn xwc, .slice xba xbn xbc, .string xg, .string xa, .int .i64 xr] 29)).alloc (.cells #[.string yn, .int .i64 y0, .int .i64 y1, .int .i64 y2, .slice ywa ywn ywc, .slice yba ybn ybc, .string yg, .string ya, .int .i64 yr] 29)).drew).heap.size) :=
      ⟨bdN (two w _ _) 1, by show _ ≤ ((w.alloc _).alloc _).heap.size; simp⟩
    refine ⟨?_, ?_, ?_, ?_, ?_, ?_, ?_, ?_, ?_, ?_, ?_, ?_, ?_, ?_, ?_, ?_, ?_, ?_, hE⟩ <;> simp [go_sem]
  clear h1 h2 h3 HT L0
  go_enter Try.func6, Try.ntmps6
  go_wp2
  go_region_held3 (fun x => x.cell? ⟨w.heap.size, 0, none⟩ = some (.string xn) ∧ x.cell? ⟨w.heap.size, 1, none⟩ = some (.int .i64 x0) ∧ x.cell? ⟨w.heap.size, 2, none⟩ = some (.int .i64 x1) ∧ x.cell? ⟨w.heap.size, 3, none⟩ = some (.int .i64 x2) ∧ x.cell? ⟨w.heap.size, 4, none⟩ = some (.slice xwa xwn xwc) ∧ x.cell? ⟨w.heap.size, 5, none⟩ = some (.slice xba xbn xbc) ∧ x.cell? ⟨w.heap.size, 6, none⟩ = some (.string xg) ∧ x.cell? ⟨w.heap.size, 7, none⟩ = some (.string xa) ∧ x.cell? ⟨w.heap.size, 8, none⟩ = some (.int .i64 xr) ∧ x.cell? ⟨w.heap.size + 1, 0, none⟩ = some (.string yn) ∧ x.cell? ⟨w.heap.size + 1, 1, none⟩ = some (.int .i64 y0) ∧ x.cell? ⟨w.heap.size + 1, 2, none⟩ = some (.int .i64 y1) ∧ x.cell? ⟨w.heap.size + 1, 3, none⟩ = some (.int .i64 y2) ∧ x.cell? ⟨w.heap.size + 1, 4, none⟩ = some (.slice ywa ywn ywc) ∧ x.cell? ⟨w.heap.size + 1, 5, none⟩ = some (.slice yba ybn ybc) ∧ x.cell? ⟨w.heap.size + 1, 6, none⟩ = some (.string yg) ∧ x.cell? ⟨w.heap.size + 1, 7, none⟩ = some (.string ya) ∧ x.cell? ⟨w.heap.size + 1, 8, none⟩ = some (.int .i64 yr) ∧ Hid (Below w.heap.size w x ∧ w.heap.size + 2 ≤ x.heap.size)) (first | assumption | exact KD.out)
    (first
      | (go_at_call 22; refine (K4.out _ ?_).mono ?_; assumption; rintro e w7 ⟨rfl, hS⟩)
      | (go_at_call 24; refine (K2.out _ ?_).mono ?_; assumption; rintro e w7 ⟨rfl, hS⟩)
      | (go_at_call 23; (with_reducible refine (K1.out _ ?_).mono ?_); assumption; rintro e w7 ⟨rfl, hS⟩)
      | (go_at_call 23; (with_reducible refine (K3.out _ ?_).mono ?_); assumption; rintro e w7 ⟨rfl, hS⟩))
  all_goals
    go_wp2
    go_ret
    exact ⟨by simp, KB.out _ hS⟩
end Rg
end Go.Proofs.Ytgnkaijaoaailaa
