/-
  THE DOCUMENT's Put: a file's content by way of another file.
-/
import Derived.Test.YtgahilemlnoabaaGreatSnB
namespace Go.Proofs.YtgahilemlnoabaaGreat
open Go.RowKit Go.Lib Go.Sort
namespace Dk
/-- Where Put stands: the disk in its box, the result's box. -/
structure Pt (w x : World) (v : Value) (dn : Bool) (fu : Int) (fs : List Fl) : Prop where
  dx : Dx w.heap.size x v dn fu
  rx : Dx (w.heap.size + 1) x (.slice none 0 0) false 0
  files : Files x x.heap.size v fs
  below : Below w.heap.size w x
  lt : w.heap.size + 2 ≤ x.heap.size
theorem Pt.call {w x x' : World} {v : Value} {dn : Bool} {fu : Int} {fs : List Fl} (h : Pt w x v dn fu fs) (hb : Below x.heap.size x x') : Pt w x' v dn fu fs :=
  ⟨h.dx.keep hb (by have := h.lt; omega), h.rx.keep hb (by have := h.lt; omega), h.files.on hb hb.size, h.below.trans (hb.mono h.below.size), Nat.le_trans h.lt hb.size⟩
theorem Pt.store {w x : World} {v v2 : Value} {dn dn2 : Bool} {fu fu2 : Int} {fs fs2 : List Fl} (h : Pt w x v dn fu fs) (hf : Files x x.heap.size v2 fs2) (hh : Hi (w.heap.size + 2) v2) :
    Pt w (((x.setCell ⟨w.heap.size, 0, none⟩ v2).setCell ⟨w.heap.size, 1, none⟩ (.bool dn2)).setCell ⟨w.heap.size, 2, none⟩ (.int .i64 fu2)) v2 dn2 fu2 fs2 :=
  ⟨h.dx.st, ((h.rx.far (by omega)).far (by omega)).far (by omega), hf.put3 hh (by omega), below3 h.below (Nat.le_refl _), by have := h.lt; simpa using this⟩
/-- What Put answers. -/
def PutIs (w : World) (o : Out) (e : Ending) (w' : World) : Prop := ∃ a c, e = .returned (.tuple #[.agg #[.slice a o.fs.length c, .bool o.dn, .int .i64 o.fu], .int .i64 (o.r : Nat)]) ∧ Files w' w'.heap.size (.slice a o.fs.length c) o.fs ∧ Hi w.heap.size (.slice a o.fs.length c) ∧ Below w.heap.size w w'
theorem Pt.fin {w x : World} {a : Option Addr} {c : Nat} {dn : Bool} {fu : Int} {fs : List Fl} {r : Nat} {o : Out} (h : Pt w x (.slice a fs.length c) dn fu fs) (hh : Hi (w.heap.size + 2) (.slice a fs.length c)) (ho : o = ⟨fs, dn, fu, r⟩) :
    PutIs w o (.returned (.tuple #[.agg #[.slice a fs.length c, .bool dn, .int .i64 fu], .int .i64 (r : Nat)])) (((x.setCell ⟨w.heap.size + 1, 0, none⟩ (.slice a fs.length c)).setCell ⟨w.heap.size + 1, 1, none⟩ (.bool dn)).setCell ⟨w.heap.size + 1, 2, none⟩ (.int .i64 fu)) := by
  subst ho
  exact ⟨a, c, rfl, h.files.put3 hh (by omega), hh.le (by omega), below3 h.below (by omega)⟩
set_option maxRecDepth 100000 in
set_option maxHeartbeats 8000000 in
theorem put_drop (dv : Value) (dn : Bool) (fu : Int) (fs : List Fl) (da : ByteArray) (o : Out) (s : ByteArray) (re : Nat) (hre : re = 0)
    (f1 : List Fl) (dn1 : Bool) (fu1 : Int) (r1 : Nat) (hF1 : Fine f1 ∧ f1.length ≤ 4611686018427387904)
    (f2 : List Fl) (dn2 : Bool) (fu2 : Int) (r2 : Nat) (hF2 : Fine f2 ∧ f2.length ≤ 4611686018427387904)
    (f3 : List Fl) (dn3 : Bool) (fu3 : Int) (r3 : Nat) (hF3 : Fine f3 ∧ f3.length ≤ 4611686018427387904)
    (f4 : List Fl) (dn4 : Bool) (fu4 : Int) (r4 : Nat) (hF4 : Fine f4 ∧ f4.length ≤ 4611686018427387904)
    (HR : ∀ x v, Files x x.heap.size v fs → Calls Tryz.prog 15 #[.agg #[v, .bool dn, .int .i64 fu], .string ⟨#[115, 110, 97, 112, 46, 116, 109, 112]⟩] x fun e w' => e = .returned (.tuple #[.string s, .int .i64 (re : Nat)]) ∧ Below x.heap.size x w')
    (H1 : (∀ x v, Files x x.heap.size v fs → Calls Tryz.prog 63 #[.agg #[v, .bool dn, .int .i64 fu], .string ⟨#[115, 110, 97, 112, 46, 116, 109, 112]⟩] x (DoIs x f1 dn1 fu1 r1)))
    (H2 : r1 = 0 → (∀ x v, Files x x.heap.size v f1 → Calls Tryz.prog 64 #[.agg #[v, .bool dn1, .int .i64 fu1], .string ⟨#[115, 110, 97, 112, 46, 116, 109, 112]⟩, .string da] x (DoIs x f2 dn2 fu2 r2)))
    (H3 : r1 = 0 → r2 = 0 → (∀ x v, Files x x.heap.size v f2 → Calls Tryz.prog 65 #[.agg #[v, .bool dn2, .int .i64 fu2], .string ⟨#[115, 110, 97, 112, 46, 116, 109, 112]⟩] x (DoIs x f3 dn3 fu3 r3)))
    (H4 : r1 = 0 → r2 = 0 → r3 = 0 → (∀ x v, Files x x.heap.size v f3 → Calls Tryz.prog 66 #[.agg #[v, .bool dn3, .int .i64 fu3], .string ⟨#[115, 110, 97, 112, 46, 116, 109, 112]⟩, .string ⟨#[115, 110, 97, 112]⟩] x (DoIs x f4 dn4 fu4 r4)))
    (E1 : ¬ r1 = 0 → o = ⟨f1, dn1, fu1, r1⟩)
    (E2 : r1 = 0 → ¬ r2 = 0 → o = ⟨f2, dn2, fu2, r2⟩)
    (E3 : r1 = 0 → r2 = 0 → ¬ r3 = 0 → o = ⟨f3, dn3, fu3, r3⟩)
    (E4 : r1 = 0 → r2 = 0 → r3 = 0 → o = ⟨f4, dn4, fu4, r4⟩)
    (w : World) (hf : Files w w.heap.size dv fs) :
    Calls Tryz.prog 28 #[.agg #[dv, .bool dn, .int .i64 fu], .string ⟨#[115, 110, 97, 112]⟩, .string da] w (PutIs w o) := by
  have HF := Lib.hid hf
  obtain ⟨a, c, rfl⟩ := files_slice hf
  have HRR := Lib.hid HR
  have K1 := Lib.hid H1
  have M1 := Lib.hid E1
  have FF1 := Lib.hid hF1
  have K2 := Lib.hid H2
  have M2 := Lib.hid E2
  have FF2 := Lib.hid hF2
  have K3 := Lib.hid H3
  have M3 := Lib.hid E3
  have FF3 := Lib.hid hF3
  have K4 := Lib.hid H4
  have M4 := Lib.hid E4
  have FF4 := Lib.hid hF4
  have HP0 : Hid (Pt w ((w.alloc (.cells #[.slice a fs.length c, .bool dn, .int .i64 fu] 24)).alloc (.cells #[.slice none 0 0, .bool false, .int .i64 0] 24)) (.slice a fs.length c) dn fu fs) := by
    refine ⟨?_, ?_, (HF.out.al _).al _, ((Below.refl _ w).alloc (Nat.le_refl _) _).alloc (by simp) _, by simp⟩ <;> (constructor <;> simp [go_sem])
  clear hf HR H1 E1 hF1 H2 E2 hF2 H3 E3 hF3 H4 E4 hF4
  generalize hn : fs.length = n at *
  clear hn
  unfold PutIs
  go_enter Tryz.func28, Tryz.ntmps28
  go_wp2_with fail
  refine (HRR.out _ _ HP0.out.files).mono ?_
  rintro e w1 ⟨rfl, hb⟩
  have HP := Lib.hid (HP0.out.call hb)
  obtain ⟨d0, d1, d2, d3, d4, d5⟩ := HP.out.dx
  obtain ⟨x0, x1, x2, x3, x4, x5⟩ := HP.out.rx
  clear hb
  subst hre
  go_wp2_with fail
  refine (K1.out _ _ HP.out.files).mono ?_
  intro e w2 hd
  obtain ⟨v', rfl, ho, hb⟩ := hd
  obtain ⟨a1, c1, rfl⟩ := ho.slice
  have hh1 : Hi (w.heap.size + 2) (.slice a1 f1.length c1) := ho.hi.le (by have := HP.out.lt; omega)
  have HI1 := Lib.hid hh1
  have HP1 := Lib.hid ((HP.out.call hb).store (dn2 := dn1) (fu2 := fu1) (ho.files FF1.out.1 FF1.out.2) hh1)
  clear d0 d1 d2 d3 d4 d5 x0 x1 x2 x3 x4 x5
  obtain ⟨d0, d1, d2, d3, d4, d5⟩ := (HP.out.call hb).dx
  obtain ⟨x0, x1, x2, x3, x4, x5⟩ := (HP.out.call hb).rx
  clear hb ho hh1
  by_cases hz1 : ¬ r1 = 0
  · have hrr : ¬ (r1 : Int) = 0 := by omega
    have HE := Lib.hid (M1.out (by first | exact hz1 | assumption))
    go_wp2
    refine bodyPost_disk rfl (w.heap.size + 1) (.slice a1 f1.length c1) dn1 fu1 rfl rfl ?_ ?_ ?_ ?_
    case refine_1 => go_simp
    case refine_2 => go_simp
    case refine_3 => go_simp
    case refine_4 => exact HP1.out.fin HI1.out HE.out
  have hz1' : r1 = 0 := Decidable.byContradiction hz1
  clear hz1
  subst hz1'
  go_wp2_with fail
  refine (K2.out (by first | rfl | trivial | exact hz1) _ _ HP1.out.files).mono ?_
  intro e w3 hd
  obtain ⟨v', rfl, ho, hb⟩ := hd
  obtain ⟨a2, c2, rfl⟩ := ho.slice
  have hh2 : Hi (w.heap.size + 2) (.slice a2 f2.length c2) := ho.hi.le (by have := HP1.out.lt; omega)
  have HI2 := Lib.hid hh2
  have HP2 := Lib.hid ((HP1.out.call hb).store (dn2 := dn2) (fu2 := fu2) (ho.files FF2.out.1 FF2.out.2) hh2)
  clear d0 d1 d2 d3 d4 d5 x0 x1 x2 x3 x4 x5
  obtain ⟨d0, d1, d2, d3, d4, d5⟩ := (HP1.out.call hb).dx
  obtain ⟨x0, x1, x2, x3, x4, x5⟩ := (HP1.out.call hb).rx
  clear hb ho hh2
  by_cases hz2 : ¬ r2 = 0
  · have hrr : ¬ (r2 : Int) = 0 := by omega
    have HE := Lib.hid (M2.out (by first | rfl | trivial | exact hz1) (by first | exact hz2 | assumption))
    go_wp2
    refine bodyPost_disk rfl (w.heap.size + 1) (.slice a2 f2.length c2) dn2 fu2 rfl rfl ?_ ?_ ?_ ?_
    case refine_1 => go_simp
    case refine_2 => go_simp
    case refine_3 => go_simp
    case refine_4 => exact HP2.out.fin HI2.out HE.out
  have hz2' : r2 = 0 := Decidable.byContradiction hz2
  clear hz2
  subst hz2'
  go_wp2_with fail
  refine (K3.out (by first | rfl | trivial | exact hz1) (by first | rfl | trivial | exact hz2) _ _ HP2.out.files).mono ?_
  intro e w4 hd
  obtain ⟨v', rfl, ho, hb⟩ := hd
  obtain ⟨a3, c3, rfl⟩ := ho.slice
  have hh3 : Hi (w.heap.size + 2) (.slice a3 f3.length c3) := ho.hi.le (by have := HP2.out.lt; omega)
  have HI3 := Lib.hid hh3
  have HP3 := Lib.hid ((HP2.out.call hb).store (dn2 := dn3) (fu2 := fu3) (ho.files FF3.out.1 FF3.out.2) hh3)
  clear d0 d1 d2 d3 d4 d5 x0 x1 x2 x3 x4 x5
  obtain ⟨d0, d1, d2, d3, d4, d5⟩ := (HP2.out.call hb).dx
  obtain ⟨x0, x1, x2, x3, x4, x5⟩ := (HP2.out.call hb).rx
  clear hb ho hh3
  by_cases hz3 : ¬ r3 = 0
  · have hrr : ¬ (r3 : Int) = 0 := by omega
    have HE := Lib.hid (M3.out (by first | rfl | trivial | exact hz1) (by first | rfl | trivial | exact hz2) (by first | exact hz3 | assumption))
    go_wp2
    refine bodyPost_disk rfl (w.heap.size + 1) (.slice a3 f3.length c3) dn3 fu3 rfl rfl ?_ ?_ ?_ ?_
    case refine_1 => go_simp
    case refine_2 => go_simp
    case refine_3 => go_simp
    case refine_4 => exact HP3.out.fin HI3.out HE.out
  have hz3' : r3 = 0 := Decidable.byContradiction hz3
  clear hz3
  subst hz3'
  go_wp2_with fail
  refine (K4.out (by first | rfl | trivial | exact hz1) (by first | rfl | trivial | exact hz2) (by first | rfl | trivial | exact hz3) _ _ HP3.out.files).mono ?_
  intro e w5 hd
  obtain ⟨v', rfl, ho, hb⟩ := hd
  obtain ⟨a4, c4, rfl⟩ := ho.slice
  have hh4 : Hi (w.heap.size + 2) (.slice a4 f4.length c4) := ho.hi.le (by have := HP3.out.lt; omega)
  have HI4 := Lib.hid hh4
  have HP4 := Lib.hid ((HP3.out.call hb).store (dn2 := dn4) (fu2 := fu4) (ho.files FF4.out.1 FF4.out.2) hh4)
  clear d0 d1 d2 d3 d4 d5 x0 x1 x2 x3 x4 x5
  obtain ⟨d0, d1, d2, d3, d4, d5⟩ := (HP3.out.call hb).dx
  obtain ⟨x0, x1, x2, x3, x4, x5⟩ := (HP3.out.call hb).rx
  clear hb ho hh4
  have HE := Lib.hid (M4.out (by first | rfl | trivial | exact hz1) (by first | rfl | trivial | exact hz2) (by first | rfl | trivial | exact hz3))
  go_wp2
  refine bodyPost_disk rfl (w.heap.size + 1) (.slice a4 f4.length c4) dn4 fu4 rfl rfl ?_ ?_ ?_ ?_
  case refine_1 => go_simp
  case refine_2 => go_simp
  case refine_3 => go_simp
  case refine_4 => exact HP4.out.fin HI4.out HE.out
set_option maxRecDepth 100000 in
set_option maxHeartbeats 8000000 in
theorem put_skip (dv : Value) (dn : Bool) (fu : Int) (fs : List Fl) (da : ByteArray) (o : Out) (s : ByteArray) (re : Nat) (hre : ¬ re = 0)
    (f2 : List Fl) (dn2 : Bool) (fu2 : Int) (r2 : Nat) (hF2 : Fine f2 ∧ f2.length ≤ 4611686018427387904)
    (f3 : List Fl) (dn3 : Bool) (fu3 : Int) (r3 : Nat) (hF3 : Fine f3 ∧ f3.length ≤ 4611686018427387904)
    (f4 : List Fl) (dn4 : Bool) (fu4 : Int) (r4 : Nat) (hF4 : Fine f4 ∧ f4.length ≤ 4611686018427387904)
    (HR : ∀ x v, Files x x.heap.size v fs → Calls Tryz.prog 15 #[.agg #[v, .bool dn, .int .i64 fu], .string ⟨#[115, 110, 97, 112, 46, 116, 109, 112]⟩] x fun e w' => e = .returned (.tuple #[.string s, .int .i64 (re : Nat)]) ∧ Below x.heap.size x w')
    (H2 : (∀ x v, Files x x.heap.size v fs → Calls Tryz.prog 64 #[.agg #[v, .bool dn, .int .i64 fu], .string ⟨#[115, 110, 97, 112, 46, 116, 109, 112]⟩, .string da] x (DoIs x f2 dn2 fu2 r2)))
    (H3 : r2 = 0 → (∀ x v, Files x x.heap.size v f2 → Calls Tryz.prog 65 #[.agg #[v, .bool dn2, .int .i64 fu2], .string ⟨#[115, 110, 97, 112, 46, 116, 109, 112]⟩] x (DoIs x f3 dn3 fu3 r3)))
    (H4 : r2 = 0 → r3 = 0 → (∀ x v, Files x x.heap.size v f3 → Calls Tryz.prog 66 #[.agg #[v, .bool dn3, .int .i64 fu3], .string ⟨#[115, 110, 97, 112, 46, 116, 109, 112]⟩, .string ⟨#[115, 110, 97, 112]⟩] x (DoIs x f4 dn4 fu4 r4)))
    (E2 : ¬ r2 = 0 → o = ⟨f2, dn2, fu2, r2⟩)
    (E3 : r2 = 0 → ¬ r3 = 0 → o = ⟨f3, dn3, fu3, r3⟩)
    (E4 : r2 = 0 → r3 = 0 → o = ⟨f4, dn4, fu4, r4⟩)
    (w : World) (hf : Files w w.heap.size dv fs) :
    Calls Tryz.prog 28 #[.agg #[dv, .bool dn, .int .i64 fu], .string ⟨#[115, 110, 97, 112]⟩, .string da] w (PutIs w o) := by
  have HF := Lib.hid hf
  obtain ⟨a, c, rfl⟩ := files_slice hf
  have HRR := Lib.hid HR
  have K2 := Lib.hid H2
  have M2 := Lib.hid E2
  have FF2 := Lib.hid hF2
  have K3 := Lib.hid H3
  have M3 := Lib.hid E3
  have FF3 := Lib.hid hF3
  have K4 := Lib.hid H4
  have M4 := Lib.hid E4
  have FF4 := Lib.hid hF4
  have HP0 : Hid (Pt w ((w.alloc (.cells #[.slice a fs.length c, .bool dn, .int .i64 fu] 24)).alloc (.cells #[.slice none 0 0, .bool false, .int .i64 0] 24)) (.slice a fs.length c) dn fu fs) := by
    refine ⟨?_, ?_, (HF.out.al _).al _, ((Below.refl _ w).alloc (Nat.le_refl _) _).alloc (by simp) _, by simp⟩ <;> (constructor <;> simp [go_sem])
  clear hf HR H2 E2 hF2 H3 E3 hF3 H4 E4 hF4
  generalize hn : fs.length = n at *
  clear hn
  unfold PutIs
  go_enter Tryz.func28, Tryz.ntmps28
  go_wp2_with fail
  refine (HRR.out _ _ HP0.out.files).mono ?_
  rintro e w1 ⟨rfl, hb⟩
  have HP := Lib.hid (HP0.out.call hb)
  obtain ⟨d0, d1, d2, d3, d4, d5⟩ := HP.out.dx
  obtain ⟨x0, x1, x2, x3, x4, x5⟩ := HP.out.rx
  clear hb
  have hre2 : ¬ (re : Int) = 0 := by omega
  go_wp2_with fail
  refine (K2.out _ _ HP.out.files).mono ?_
  intro e w3 hd
  obtain ⟨v', rfl, ho, hb⟩ := hd
  obtain ⟨a2, c2, rfl⟩ := ho.slice
  have hh2 : Hi (w.heap.size + 2) (.slice a2 f2.length c2) := ho.hi.le (by have := HP.out.lt; omega)
  have HI2 := Lib.hid hh2
  have HP2 := Lib.hid ((HP.out.call hb).store (dn2 := dn2) (fu2 := fu2) (ho.files FF2.out.1 FF2.out.2) hh2)
  clear d0 d1 d2 d3 d4 d5 x0 x1 x2 x3 x4 x5
  obtain ⟨d0, d1, d2, d3, d4, d5⟩ := (HP.out.call hb).dx
  obtain ⟨x0, x1, x2, x3, x4, x5⟩ := (HP.out.call hb).rx
  clear hb ho hh2
  by_cases hz2 : ¬ r2 = 0
  · have hrr : ¬ (r2 : Int) = 0 := by omega
    have HE := Lib.hid (M2.out (by first | exact hz2 | assumption))
    go_wp2
    refine bodyPost_disk rfl (w.heap.size + 1) (.slice a2 f2.length c2) dn2 fu2 rfl rfl ?_ ?_ ?_ ?_
    case refine_1 => go_simp
    case refine_2 => go_simp
    case refine_3 => go_simp
    case refine_4 => exact HP2.out.fin HI2.out HE.out
  have hz2' : r2 = 0 := Decidable.byContradiction hz2
  clear hz2
  subst hz2'
  go_wp2_with fail
  refine (K3.out (by first | rfl | trivial | exact hz2) _ _ HP2.out.files).mono ?_
  intro e w4 hd
  obtain ⟨v', rfl, ho, hb⟩ := hd
  obtain ⟨a3, c3, rfl⟩ := ho.slice
  have hh3 : Hi (w.heap.size + 2) (.slice a3 f3.length c3) := ho.hi.le (by have := HP2.out.lt; omega)
  have HI3 := Lib.hid hh3
  have HP3 := Lib.hid ((HP2.out.call hb).store (dn2 := dn3) (fu2 := fu3) (ho.files FF3.out.1 FF3.out.2) hh3)
  clear d0 d1 d2 d3 d4 d5 x0 x1 x2 x3 x4 x5
  obtain ⟨d0, d1, d2, d3, d4, d5⟩ := (HP2.out.call hb).dx
  obtain ⟨x0, x1, x2, x3, x4, x5⟩ := (HP2.out.call hb).rx
  clear hb ho hh3
  by_cases hz3 : ¬ r3 = 0
  · have hrr : ¬ (r3 : Int) = 0 := by omega
    have HE := Lib.hid (M3.out (by first | rfl | trivial | exact hz2) (by first | exact hz3 | assumption))
    go_wp2
    refine bodyPost_disk rfl (w.heap.size + 1) (.slice a3 f3.length c3) dn3 fu3 rfl rfl ?_ ?_ ?_ ?_
    case refine_1 => go_simp
    case refine_2 => go_simp
    case refine_3 => go_simp
    case refine_4 => exact HP3.out.fin HI3.out HE.out
  have hz3' : r3 = 0 := Decidable.byContradiction hz3
  clear hz3
  subst hz3'
  go_wp2_with fail
  refine (K4.out (by first | rfl | trivial | exact hz2) (by first | rfl | trivial | exact hz3) _ _ HP3.out.files).mono ?_
  intro e w5 hd
  obtain ⟨v', rfl, ho, hb⟩ := hd
  obtain ⟨a4, c4, rfl⟩ := ho.slice
  have hh4 : Hi (w.heap.size + 2) (.slice a4 f4.length c4) := ho.hi.le (by have := HP3.out.lt; omega)
  have HI4 := Lib.hid hh4
  have HP4 := Lib.hid ((HP3.out.call hb).store (dn2 := dn4) (fu2 := fu4) (ho.files FF4.out.1 FF4.out.2) hh4)
  clear d0 d1 d2 d3 d4 d5 x0 x1 x2 x3 x4 x5
  obtain ⟨d0, d1, d2, d3, d4, d5⟩ := (HP3.out.call hb).dx
  obtain ⟨x0, x1, x2, x3, x4, x5⟩ := (HP3.out.call hb).rx
  clear hb ho hh4
  have HE := Lib.hid (M4.out (by first | rfl | trivial | exact hz2) (by first | rfl | trivial | exact hz3))
  go_wp2
  refine bodyPost_disk rfl (w.heap.size + 1) (.slice a4 f4.length c4) dn4 fu4 rfl rfl ?_ ?_ ?_ ?_
  case refine_1 => go_simp
  case refine_2 => go_simp
  case refine_3 => go_simp
  case refine_4 => exact HP4.out.fin HI4.out HE.out
end Dk
end Go.Proofs.YtgahilemlnoabaaGreat
