/-
  Add, Sync, Swap: do, with what is to be done.
-/
import Derived.Test.YtjgdmdgiicpemaaDiskDo2
namespace Go.Proofs.Ytjgdmdgiicpemaa
open Go.RowKit Go.Lib Go.Sort
namespace Dk
/-- A box of its own at B, the result's at B + 1. -/
theorem box2 {w w' : World} {v : Value} {dn : Bool} {fu : Int} (hb : Below (w.heap.size + 1 + 1) ((w.alloc (.cells #[v, .bool dn, .int .i64 fu] 27)).alloc (.cells #[.slice none 0 0, .bool false, .int .i64 0] 27)) w') :
    (w'.cell? ⟨w.heap.size + 1, 0, none⟩ = some (.slice none 0 0) ∧ w'.cell? ⟨w.heap.size + 1, 1, none⟩ = some (.bool false) ∧ w'.cell? ⟨w.heap.size + 1, 2, none⟩ = some (.int .i64 0)) ∧
    w'.frozen? ⟨w.heap.size + 1, 0, none⟩ = false ∧ w'.frozen? ⟨w.heap.size + 1, 1, none⟩ = false ∧ w'.frozen? ⟨w.heap.size + 1, 2, none⟩ = false := by
  have a : ∀ o, w'.cell? ⟨w.heap.size + 1, o, none⟩ = _ := fun o => hb.cell (by show w.heap.size + 1 < _; omega)
  have b : ∀ o, w'.frozen? ⟨w.heap.size + 1, o, none⟩ = _ := fun o => hb.frozen (by show w.heap.size + 1 < _; omega)
  refine ⟨⟨(a _).trans ?_, (a _).trans ?_, (a _).trans ?_⟩, (b _).trans ?_, (b _).trans ?_, (b _).trans ?_⟩ <;> simp [go_sem]
def DoC (v : Value) (dn : Bool) (fu : Int) (c : Value) (fs fs2 : List Fl) (dn2 : Bool) (fu2 : Int) (r : Nat) : Prop :=
  ∀ w : World, Files w w.heap.size v fs → Calls Try.prog 23 #[.agg #[v, .bool dn, .int .i64 fu], c] w (DoIs w fs2 dn2 fu2 r)

set_option maxHeartbeats 1000000 in
theorem add_of (v : Value) (dn : Bool) (fu : Int) (fs fs2 : List Fl) (dn2 : Bool) (fu2 : Int) (r : Nat) (nm da : ByteArray) (H : DoC v dn fu (.agg #[.int .u8 0, .string nm, .string da, .int .i64 0, .string ByteArray.empty]) fs fs2 dn2 fu2 r) (w : World) (hv : Files w w.heap.size v fs) :
    Calls Try.prog 9 #[.agg #[v, .bool dn, .int .i64 fu], .string nm, .string da] w (DoIs w fs2 dn2 fu2 r) := by
  have HV := Lib.hid hv
  have HH := Lib.hid H
  clear H
  obtain ⟨a, c, rfl, -⟩ := hv
  have h1 := HH.out ((w.alloc (.cells #[.slice a fs.length c, .bool dn, .int .i64 fu] 27)).alloc (.cells #[.slice none 0 0, .bool false, .int .i64 0] 27)) ((HV.out.al _).al _)
  unfold DoIs at h1
  simp only [World.size_alloc] at h1
  unfold DoIs
  go_enter Try.func9, Try.ntmps9
  go_wp2_with (go_at_call 23; go_loud (refine h1.mono ?_; rintro e w1 ⟨v1, rfl, hown, hb⟩; obtain ⟨a5, c5, rfl⟩ := hown.slice; obtain ⟨⟨d0, d1, d2⟩, d3, d4, d5⟩ := box2 hb; have HB := Lib.hid hb; have HO := Lib.hid hown; clear hb hown))
  refine bodyPost_disk rfl (w.heap.size + 1) (.slice a5 fs2.length c5) dn2 fu2 rfl rfl ?_ ?_ ?_ ?_
  case refine_1 => go_simp
  case refine_2 => go_simp
  case refine_3 => go_simp
  case refine_4 =>
    refine ⟨_, rfl, Own.le (base := w.heap.size + 1 + 1) ?_ (by omega), ?_⟩
    · repeat (first | exact HO.out | refine Own.sb ?_ (show w.heap.size + 1 < w.heap.size + 1 + 1 by omega) _)
    · repeat (first | exact (((Below.refl _ _).alloc (Nat.le_refl _) _).alloc (by simp) _).trans (HB.out.mono (by omega)) | refine bset ?_ (show w.heap.size ≤ w.heap.size + 1 by omega) _)

set_option maxHeartbeats 1000000 in
theorem sync_of (v : Value) (dn : Bool) (fu : Int) (fs fs2 : List Fl) (dn2 : Bool) (fu2 : Int) (r : Nat) (nm : ByteArray) (H : DoC v dn fu (.agg #[.int .u8 1, .string nm, .string ByteArray.empty, .int .i64 0, .string ByteArray.empty]) fs fs2 dn2 fu2 r) (w : World) (hv : Files w w.heap.size v fs) :
    Calls Try.prog 36 #[.agg #[v, .bool dn, .int .i64 fu], .string nm] w (DoIs w fs2 dn2 fu2 r) := by
  have HV := Lib.hid hv
  have HH := Lib.hid H
  clear H
  obtain ⟨a, c, rfl, -⟩ := hv
  have h1 := HH.out ((w.alloc (.cells #[.slice a fs.length c, .bool dn, .int .i64 fu] 27)).alloc (.cells #[.slice none 0 0, .bool false, .int .i64 0] 27)) ((HV.out.al _).al _)
  unfold DoIs at h1
  simp only [World.size_alloc] at h1
  unfold DoIs
  go_enter Try.func36, Try.ntmps36
  go_wp2_with (go_at_call 23; go_loud (refine h1.mono ?_; rintro e w1 ⟨v1, rfl, hown, hb⟩; obtain ⟨a5, c5, rfl⟩ := hown.slice; obtain ⟨⟨d0, d1, d2⟩, d3, d4, d5⟩ := box2 hb; have HB := Lib.hid hb; have HO := Lib.hid hown; clear hb hown))
  refine bodyPost_disk rfl (w.heap.size + 1) (.slice a5 fs2.length c5) dn2 fu2 rfl rfl ?_ ?_ ?_ ?_
  case refine_1 => go_simp
  case refine_2 => go_simp
  case refine_3 => go_simp
  case refine_4 =>
    refine ⟨_, rfl, Own.le (base := w.heap.size + 1 + 1) ?_ (by omega), ?_⟩
    · repeat (first | exact HO.out | refine Own.sb ?_ (show w.heap.size + 1 < w.heap.size + 1 + 1 by omega) _)
    · repeat (first | exact (((Below.refl _ _).alloc (Nat.le_refl _) _).alloc (by simp) _).trans (HB.out.mono (by omega)) | refine bset ?_ (show w.heap.size ≤ w.heap.size + 1 by omega) _)

set_option maxHeartbeats 1000000 in
theorem swap_of (v : Value) (dn : Bool) (fu : Int) (fs fs2 : List Fl) (dn2 : Bool) (fu2 : Int) (r : Nat) (nm to : ByteArray) (H : DoC v dn fu (.agg #[.int .u8 3, .string nm, .string ByteArray.empty, .int .i64 0, .string to]) fs fs2 dn2 fu2 r) (w : World) (hv : Files w w.heap.size v fs) :
    Calls Try.prog 38 #[.agg #[v, .bool dn, .int .i64 fu], .string nm, .string to] w (DoIs w fs2 dn2 fu2 r) := by
  have HV := Lib.hid hv
  have HH := Lib.hid H
  clear H
  obtain ⟨a, c, rfl, -⟩ := hv
  have h1 := HH.out ((w.alloc (.cells #[.slice a fs.length c, .bool dn, .int .i64 fu] 27)).alloc (.cells #[.slice none 0 0, .bool false, .int .i64 0] 27)) ((HV.out.al _).al _)
  unfold DoIs at h1
  simp only [World.size_alloc] at h1
  unfold DoIs
  go_enter Try.func38, Try.ntmps38
  go_wp2_with (go_at_call 23; go_loud (refine h1.mono ?_; rintro e w1 ⟨v1, rfl, hown, hb⟩; obtain ⟨a5, c5, rfl⟩ := hown.slice; obtain ⟨⟨d0, d1, d2⟩, d3, d4, d5⟩ := box2 hb; have HB := Lib.hid hb; have HO := Lib.hid hown; clear hb hown))
  refine bodyPost_disk rfl (w.heap.size + 1) (.slice a5 fs2.length c5) dn2 fu2 rfl rfl ?_ ?_ ?_ ?_
  case refine_1 => go_simp
  case refine_2 => go_simp
  case refine_3 => go_simp
  case refine_4 =>
    refine ⟨_, rfl, Own.le (base := w.heap.size + 1 + 1) ?_ (by omega), ?_⟩
    · repeat (first | exact HO.out | refine Own.sb ?_ (show w.heap.size + 1 < w.heap.size + 1 + 1 by omega) _)
    · repeat (first | exact (((Below.refl _ _).alloc (Nat.le_refl _) _).alloc (by simp) _).trans (HB.out.mono (by omega)) | refine bset ?_ (show w.heap.size ≤ w.heap.size + 1 by omega) _)

set_option maxHeartbeats 1000000 in
theorem drop_of (v : Value) (dn : Bool) (fu : Int) (fs fs2 : List Fl) (dn2 : Bool) (fu2 : Int) (r : Nat) (nm : ByteArray) (H : DoC v dn fu (.agg #[.int .u8 4, .string nm, .string ByteArray.empty, .int .i64 0, .string ByteArray.empty]) fs fs2 dn2 fu2 r) (w : World) (hv : Files w w.heap.size v fs) :
    Calls Try.prog 33 #[.agg #[v, .bool dn, .int .i64 fu], .string nm] w (DoIs w fs2 dn2 fu2 r) := by
  have HV := Lib.hid hv
  have HH := Lib.hid H
  clear H
  obtain ⟨a, c, rfl, -⟩ := hv
  have h1 := HH.out ((w.alloc (.cells #[.slice a fs.length c, .bool dn, .int .i64 fu] 27)).alloc (.cells #[.slice none 0 0, .bool false, .int .i64 0] 27)) ((HV.out.al _).al _)
  unfold DoIs at h1
  simp only [World.size_alloc] at h1
  unfold DoIs
  go_enter Try.func33, Try.ntmps33
  go_wp2_with (go_at_call 23; go_loud (refine h1.mono ?_; rintro e w1 ⟨v1, rfl, hown, hb⟩; obtain ⟨a5, c5, rfl⟩ := hown.slice; obtain ⟨⟨d0, d1, d2⟩, d3, d4, d5⟩ := box2 hb; have HB := Lib.hid hb; have HO := Lib.hid hown; clear hb hown))
  refine bodyPost_disk rfl (w.heap.size + 1) (.slice a5 fs2.length c5) dn2 fu2 rfl rfl ?_ ?_ ?_ ?_
  case refine_1 => go_simp
  case refine_2 => go_simp
  case refine_3 => go_simp
  case refine_4 =>
    refine ⟨_, rfl, Own.le (base := w.heap.size + 1 + 1) ?_ (by omega), ?_⟩
    · repeat (first | exact HO.out | refine Own.sb ?_ (show w.heap.size + 1 < w.heap.size + 1 + 1 by omega) _)
    · repeat (first | exact (((Below.refl _ _).alloc (Nat.le_refl _) _).alloc (by simp) _).trans (HB.out.mono (by omega)) | refine bset ?_ (show w.heap.size ≤ w.heap.size + 1 by omega) _)
end Dk
end Go.Proofs.Ytjgdmdgiicpemaa
