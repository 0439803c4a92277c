/-
  The document's name, bad, burnt, without, with.
-/
import Derived.Test.YtohhiheebhcgeaaDiskSwp
namespace Go.Proofs.Ytohhiheebhcgeaa
open Go.RowKit Go.Lib Go.Sort
namespace Dk
set_option maxHeartbeats 1000000 in
theorem name_ref (nm : ByteArray) (w : World) : Calls Try.prog 35 #[.string nm] w fun e w' => e = .returned (.bool (nmOk nm)) ∧ w' = w := by
  have he : decide ((nm.size : Int) ≤ 32) = decide (nm.size ≤ 32) := decide_eq_decide.2 (by omega)
  unfold nmOk
  cases h1 : nm.toList.isEmpty
  · have h2 : (nm.toList == ([] : List UInt8)) = false := by cases hl : nm.toList with | nil => rw [hl] at h1; simp at h1 | cons a r => rfl
    have h3 : ¬ nm.toList = [] := by simpa using h2
    cases h4 : decide (nm.size ≤ 32)
    · rw [h4] at he
      go_enter Try.func35, Try.ntmps35
      go_wp2
      go_ret
      exact ⟨by simp, rfl⟩
    · rw [h4] at he
      go_enter Try.func35, Try.ntmps35
      go_wp2
      go_ret
      exact ⟨by simp, rfl⟩
  · have h2 : (nm.toList == ([] : List UInt8)) = true := by cases hl : nm.toList with | nil => rfl | cons a r => rw [hl] at h1; simp at h1
    have h3 : nm.toList = [] := by simpa using h2
    go_enter Try.func35, Try.ntmps35
    go_wp2
    go_ret
    exact ⟨by simp, rfl⟩
theorem boxes2' (w : World) (v u : Value) (dn dn2 : Bool) (fu fu2 : Int) :
    Dx w.heap.size ((w.alloc (.cells #[v, .bool dn, .int .i64 fu] 24)).alloc (.cells #[u, .bool dn2, .int .i64 fu2] 24)) v dn fu ∧
    Dx (w.heap.size + 1) ((w.alloc (.cells #[v, .bool dn, .int .i64 fu] 24)).alloc (.cells #[u, .bool dn2, .int .i64 fu2] 24)) u dn2 fu2 ∧
    Below w.heap.size w ((w.alloc (.cells #[v, .bool dn, .int .i64 fu] 24)).alloc (.cells #[u, .bool dn2, .int .i64 fu2] 24)) := by
  refine ⟨?_, ?_, ((Below.refl _ _).alloc (Nat.le_refl _) _).alloc (by simp) _⟩
  · constructor <;> simp [go_sem]
  · constructor <;> simp [go_sem]
/-- What bad hands back. -/
def badO (fs : List Fl) (dn : Bool) (fu : Int) (k : Nat) : Out := if k = 10 then ⟨[], false, 0, 10⟩ else ⟨fs, dn, fu, k⟩
set_option maxRecDepth 100000 in
set_option maxHeartbeats 4000000 in
theorem bad_ref (v : Value) (dn : Bool) (fu : Int) (fs : List Fl) (k : Nat) (w : World) (hv : Files w w.heap.size v fs) (h40 : fs.length * 40 ≤ 140737488355328) :
    Calls Try.prog 36 #[.agg #[v, .bool dn, .int .i64 fu], .int .i64 (k : Nat)] w (DoIs w (badO fs dn fu k).fs (badO fs dn fu k).dn (badO fs dn fu k).fu (badO fs dn fu k).r) := by
  have HV := Lib.hid hv
  obtain ⟨a, c, rfl, -⟩ := hv
  have HW := Lib.hid (boxes2' w (.slice a fs.length c) (.slice none 0 0) dn false fu 0)
  unfold badO
  by_cases hk : k = 10
  · subst hk
    rw [if_pos rfl]
    unfold DoIs
    go_enter Try.func36, Try.ntmps36
    go_wp2
    refine bodyPost_disk rfl (w.heap.size + 1) (.slice none 0 0) false 0 rfl rfl ?_ ?_ ?_ ?_
    case refine_1 => go_simp
    case refine_2 => go_simp
    case refine_3 => go_simp
    case refine_4 =>
      refine ⟨_, rfl, World.ownsRow_nil _ _ _ _, ?_⟩
      · repeat (first | exact HW.out.2.2 | exact (boxes2' w _ _ _ _ _ _).2.2 | refine bset ?_ (show w.heap.size ≤ w.heap.size + 1 by omega) _)
  · rw [if_neg hk]
    have t1 : ((k : Int) == 10) = false := by simp; omega
    have t2 : ¬ ((k : Int) = 10) := by omega
    have h1 := copy_ref _ dn fu fs _ ((HV.out.al (.cells #[.slice a fs.length c, .bool dn, .int .i64 fu] 24)).al (.cells #[.slice none 0 0, .bool false, .int .i64 0] 24)) h40
    unfold CopyIs at h1
    simp only [World.size_alloc] at h1
    unfold DoIs
    go_enter Try.func36, Try.ntmps36
    go_wp2_with (go_at_call 11; go_loud (refine h1.mono ?_; rintro e w1 ⟨v1, rfl, hown, hb⟩; obtain ⟨a1, c1, rfl⟩ := hown.slice; obtain ⟨d0, d1, d2, f0, f1, f2⟩ := HW.out.2.1.keep hb (by omega); have HO := Lib.hid hown; have HB := Lib.hid (HW.out.2.2.trans (hb.mono (by omega))); clear hown hb))
    refine bodyPost_disk rfl (w.heap.size + 1) (.slice a1 fs.length c1) dn fu rfl rfl ?_ ?_ ?_ ?_
    case refine_1 => go_simp
    case refine_2 => go_simp
    case refine_3 => go_simp
    case refine_4 =>
      refine ⟨_, rfl, Own.le (base := w.heap.size + 1 + 1) ?_ (by omega), ?_⟩
      · repeat (first | exact HO.out | refine Own.sb ?_ (show w.heap.size + 1 < w.heap.size + 1 + 1 by omega) _)
      · repeat (first | exact HB.out | refine bset ?_ (show w.heap.size ≤ w.heap.size + 1 by omega) _)

set_option maxRecDepth 100000 in
set_option maxHeartbeats 4000000 in
theorem burnt_ref (a : Option Addr) (n c : Nat) (dn : Bool) (fu : Int) (w : World) (hlo : -9223372036854775808 ≤ fu) (hhi : fu ≤ 9223372036854775807) :
    Calls Try.prog 37 #[.agg #[.slice a n c, .bool dn, .int .i64 fu]] w fun e w' => e = .returned (.tuple #[.agg #[.slice a n c, .bool (if fu = 0 then true else dn), .int .i64 (if 0 < fu then fu - 1 else fu)], .bool (if fu = 0 then false else true)]) ∧ Below w.heap.size w w' := by
  have HW := Lib.hid (fun (v u : Value) (d1 d2 : Bool) (f1 f2 : Int) => (boxes2' w v u d1 d2 f1 f2).2.2)
  by_cases h0 : fu = 0
  · subst h0
    rw [if_pos rfl, if_pos rfl, if_neg (by omega)]
    go_enter Try.func37, Try.ntmps37
    go_wp2
    refine bodyPost_disk rfl (w.heap.size + 1) (.slice a n c) true 0 rfl rfl ?_ ?_ ?_ ?_
    case refine_1 => go_simp
    case refine_2 => go_simp
    case refine_3 => go_simp
    case refine_4 => exact ⟨rfl, by first | exact HW.out _ _ _ _ _ _ | (repeat (first | exact HW.out _ _ _ _ _ _ | refine bset ?_ (by first | exact (show w.heap.size ≤ w.heap.size by omega) | exact (show w.heap.size ≤ w.heap.size + 1 by omega)) _))⟩
  · rw [if_neg h0, if_neg h0]
    have t1 : (fu == 0) = false := by simpa using h0
    by_cases hp : 0 < fu
    · rw [if_pos hp]
      have t2 : IntKind.i64.wrap (fu - 1) = fu - 1 := by rw [IntKind.wrap_i64]; omega
      go_enter Try.func37, Try.ntmps37
      go_wp2
      refine bodyPost_disk rfl (w.heap.size + 1) (.slice a n c) dn (fu - 1) rfl rfl ?_ ?_ ?_ ?_
      case refine_1 => go_simp
      case refine_2 => go_simp
      case refine_3 => go_simp
      case refine_4 => exact ⟨rfl, by first | exact HW.out _ _ _ _ _ _ | (repeat (first | exact HW.out _ _ _ _ _ _ | refine bset ?_ (by first | exact (show w.heap.size ≤ w.heap.size by omega) | exact (show w.heap.size ≤ w.heap.size + 1 by omega)) _))⟩
    · rw [if_neg hp]
      have t2 : decide (0 < fu) = false := by simpa using hp
      go_enter Try.func37, Try.ntmps37
      go_wp2
      refine bodyPost_disk rfl (w.heap.size + 1) (.slice a n c) dn fu rfl rfl ?_ ?_ ?_ ?_
      case refine_1 => go_simp
      case refine_2 => go_simp
      case refine_3 => go_simp
      case refine_4 => exact ⟨rfl, by first | exact HW.out _ _ _ _ _ _ | (repeat (first | exact HW.out _ _ _ _ _ _ | refine bset ?_ (by first | exact (show w.heap.size ≤ w.heap.size by omega) | exact (show w.heap.size ≤ w.heap.size + 1 by omega)) _))⟩
end Dk
end Go.Proofs.Ytohhiheebhcgeaa
