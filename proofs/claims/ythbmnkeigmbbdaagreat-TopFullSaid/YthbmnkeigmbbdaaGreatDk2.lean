/-
  Merged: DiskDoA, DiskDoB, DiskDoC, DiskDoE, DiskDoF, DiskDo2, DiskAdd, DiskCrash, DiskLives, DiskLives2, TopBegins.
-/
import Derived.Test.YthbmnkeigmbbdaaGreatDk1
/-
  disk.do: one of its ways.
-/
namespace Go.Proofs.YthbmnkeigmbbdaaGreat
open Go.RowKit Go.Lib Go.Sort
namespace Dk

set_option maxRecDepth 100000 in
set_option maxHeartbeats 4000000 in
theorem do_ok1 (v : Value) (fs fs2 : List Fl) (fu k : Int) (nm da : ByteArray) (sz : Int) (tu : ByteArray) (hf : Fine fs) (h0 : chkN fs = 0) (hp : 0 < fu) (_hlo : -9223372036854775808 ≤ fu) (hhi : fu ≤ 9223372036854775807) (HR : Refuses fs k nm da sz tu 0) (HC : Changes fs fs2 k nm da sz tu) (w : World) (hv : Files w w.heap.size v fs) :
    Calls Tryz.prog 129 #[.agg #[v, .bool false, .int .i64 fu], .agg #[.int .u8 k, .string nm, .string da, .int .i64 sz, .string tu]] w (DoIs w fs2 false (if 0 < fu then fu - 1 else fu) 0) := by
  have HV := Lib.hid hv
  obtain ⟨a, c, rfl, -⟩ := hv
  obtain ⟨W3, hW3⟩ : ∃ W3, W3 = ((w.alloc (.cells #[.slice a fs.length c, .bool false, .int .i64 fu] 110)).alloc (.cells #[.int .u8 k, .string nm, .string da, .int .i64 sz, .string tu] 166)).alloc (.cells #[.slice none 0 0, .bool false, .int .i64 0] 110) := ⟨_, rfl⟩
  have hs3 : W3.heap.size = w.heap.size + 3 := by rw [hW3]; simp
  have hb3 : Below w.heap.size w W3 := by rw [hW3]; exact (((Below.refl _ _).alloc (Nat.le_refl _) _).alloc (by simp) _).alloc (by simp; omega) _
  have hx3 : Bx w.heap.size W3 (.slice a fs.length c) false fu k nm da sz tu := by rw [hW3]; exact Bx.made _ _ _ _ _ _ _ _ _
  have h1 := own_ok (.slice a fs.length c) false fu fs W3 (HV.out.on hb3 (by omega)) h0
  rw [hs3] at h1
  have HW := Lib.hid hW3
  have HB3 := Lib.hid hb3
  have HX3 := Lib.hid hx3
  have HS3 := Lib.hid hs3
  clear hW3 hb3 hx3 hs3
  unfold DoIs
  have H4 := Lib.hid (chk_fine fs h0).1
  have HR' := Lib.hid HR
  have HF := Lib.hid hf
  clear HR hf
  have HC' := Lib.hid HC
  clear HC
  · rw [if_pos hp]
    have t1 : IntKind.i64.wrap (fu - 1) = fu - 1 := by rw [IntKind.wrap_i64]; omega
    go_enter Tryz.func129, Tryz.ntmps129
    go_wp2_with (go_at_call 186; rw [← HW.out]; refine h1.mono ?_; rintro e w1 ⟨rfl, hb⟩; have HX1 := Lib.hid (HX3.out.keep hb (by omega)); obtain ⟨d0, d1, d2, d3, d4, d5, d6, d7, d8, d9, d10, d11, d12, d13, d14, d15, d16⟩ := HX1.out; have HB1 := Lib.hid hb; have HK := Lib.hid (show w.heap.size + 3 ≤ w1.heap.size by have h7 := hb.size; have h8 := HS3.out; omega); clear hb)
    go_wp2_with (go_at_call 187; refine (clone_own _ fs w1 (HV.out.on (HB3.out.trans (HB1.out.mono (by omega))) (by have := HK.out; omega)) H4.out).mono ?_; rintro e w2 ⟨v2, rfl, hown, hb⟩; obtain ⟨a2, c2, rfl⟩ := hown.slice; have HX2 := Lib.hid (HX1.out.keep hb HK.out); obtain ⟨d0, d1, d2, d3, d4, d5, d6, d7, d8, d9, d10, d11, d12, d13, d14, d15, d16⟩ := HX2.out; have HB2 := Lib.hid hb; have HO2 := Lib.hid hown; clear hb hown)
    go_wp2_with (go_at_call 188; refine (HR'.out _ (.slice a2 fs.length c2) ((HO2.out.sb (by have := HK.out; show w.heap.size < _; omega) _).files HF.out (by have := H4.out; omega))).mono ?_; rintro e w4 ⟨rfl, hb⟩; have HX4 := Lib.hid ((HX2.out.set (.slice a2 fs.length c2)).keep hb (by have := HB2.out.size; have := HK.out; simp; omega)); obtain ⟨d0, d1, d2, d3, d4, d5, d6, d7, d8, d9, d10, d11, d12, d13, d14, d15, d16⟩ := HX4.out; have HB4 := Lib.hid hb; clear hb)
    go_wp2_with (go_at_call 189; refine (HC'.out w1.heap.size w4 (.slice a2 fs.length c2) (by have := HB4.out.size; have := HB2.out.size; simp at *; omega) ((HO2.out.sb (by have := HK.out; show w.heap.size < _; omega) _).keep HB4.out)).mono ?_; rintro e w5 ⟨v5, rfl, hown, hb⟩; obtain ⟨a5, c5, rfl⟩ := hown.slice; have HX5 := Lib.hid (HX4.out.keep hb HK.out); obtain ⟨d0, d1, d2, d3, d4, d5, d6, d7, d8, d9, d10, d11, d12, d13, d14, d15, d16⟩ := HX5.out; have HB5 := Lib.hid hb; have HO5 := Lib.hid hown; clear hb hown)
    refine bodyPost_disk rfl (w.heap.size + 1 + 1) (.slice a5 fs2.length c5) false (fu - 1) rfl rfl ?_ ?_ ?_ ?_
    case refine_1 => go_simp
    case refine_2 => go_simp
    case refine_3 => go_simp
    case refine_4 =>
      have hk := HK.out
      refine ⟨_, rfl, Own.le (base := w1.heap.size) ?_ (by omega), ?_⟩
      · repeat (first | exact HO5.out | refine Own.sb ?_ (by first | exact (show w.heap.size < w1.heap.size by omega) | exact (show w.heap.size + 1 + 1 < w1.heap.size by omega)) _)
      · repeat (first | exact do_b5 hk HB3.out HB1.out HB2.out HB4.out HB5.out | refine bset ?_ (by first | exact (show w.heap.size ≤ w.heap.size by omega) | exact (show w.heap.size ≤ w.heap.size + 1 + 1 by omega)) _)
end Dk
end Go.Proofs.YthbmnkeigmbbdaaGreat

/-
  disk.do: one of its ways.
-/
namespace Go.Proofs.YthbmnkeigmbbdaaGreat
open Go.RowKit Go.Lib Go.Sort
namespace Dk

set_option maxRecDepth 100000 in
set_option maxHeartbeats 4000000 in
theorem do_ok2 (v : Value) (fs fs2 : List Fl) (fu k : Int) (nm da : ByteArray) (sz : Int) (tu : ByteArray) (hf : Fine fs) (h0 : chkN fs = 0) (hp : ¬ 0 < fu) (hfu : fu ≠ 0) (hlo : -9223372036854775808 ≤ fu) (hhi : fu ≤ 9223372036854775807) (HR : Refuses fs k nm da sz tu 0) (HC : Changes fs fs2 k nm da sz tu) (w : World) (hv : Files w w.heap.size v fs) :
    Calls Tryz.prog 129 #[.agg #[v, .bool false, .int .i64 fu], .agg #[.int .u8 k, .string nm, .string da, .int .i64 sz, .string tu]] w (DoIs w fs2 false (if 0 < fu then fu - 1 else fu) 0) := by
  have HV := Lib.hid hv
  obtain ⟨a, c, rfl, -⟩ := hv
  obtain ⟨W3, hW3⟩ : ∃ W3, W3 = ((w.alloc (.cells #[.slice a fs.length c, .bool false, .int .i64 fu] 110)).alloc (.cells #[.int .u8 k, .string nm, .string da, .int .i64 sz, .string tu] 166)).alloc (.cells #[.slice none 0 0, .bool false, .int .i64 0] 110) := ⟨_, rfl⟩
  have hs3 : W3.heap.size = w.heap.size + 3 := by rw [hW3]; simp
  have hb3 : Below w.heap.size w W3 := by rw [hW3]; exact (((Below.refl _ _).alloc (Nat.le_refl _) _).alloc (by simp) _).alloc (by simp; omega) _
  have hx3 : Bx w.heap.size W3 (.slice a fs.length c) false fu k nm da sz tu := by rw [hW3]; exact Bx.made _ _ _ _ _ _ _ _ _
  have h1 := own_ok (.slice a fs.length c) false fu fs W3 (HV.out.on hb3 (by omega)) h0
  rw [hs3] at h1
  have HW := Lib.hid hW3
  have HB3 := Lib.hid hb3
  have HX3 := Lib.hid hx3
  have HS3 := Lib.hid hs3
  clear hW3 hb3 hx3 hs3
  unfold DoIs
  have H4 := Lib.hid (chk_fine fs h0).1
  have HR' := Lib.hid HR
  have HF := Lib.hid hf
  clear HR hf
  have HC' := Lib.hid HC
  clear HC
  · rw [if_neg hp]
    go_enter Tryz.func129, Tryz.ntmps129
    go_wp2_with (go_at_call 186; rw [← HW.out]; refine h1.mono ?_; rintro e w1 ⟨rfl, hb⟩; have HX1 := Lib.hid (HX3.out.keep hb (by omega)); obtain ⟨d0, d1, d2, d3, d4, d5, d6, d7, d8, d9, d10, d11, d12, d13, d14, d15, d16⟩ := HX1.out; have HB1 := Lib.hid hb; have HK := Lib.hid (show w.heap.size + 3 ≤ w1.heap.size by have h7 := hb.size; have h8 := HS3.out; omega); clear hb)
    go_wp2_with (go_at_call 187; refine (clone_own _ fs w1 (HV.out.on (HB3.out.trans (HB1.out.mono (by omega))) (by have := HK.out; omega)) H4.out).mono ?_; rintro e w2 ⟨v2, rfl, hown, hb⟩; obtain ⟨a2, c2, rfl⟩ := hown.slice; have HX2 := Lib.hid (HX1.out.keep hb HK.out); obtain ⟨d0, d1, d2, d3, d4, d5, d6, d7, d8, d9, d10, d11, d12, d13, d14, d15, d16⟩ := HX2.out; have HB2 := Lib.hid hb; have HO2 := Lib.hid hown; clear hb hown)
    go_wp2_with (go_at_call 188; refine (HR'.out _ (.slice a2 fs.length c2) ((HO2.out.sb (by have := HK.out; show w.heap.size < _; omega) _).files HF.out (by have := H4.out; omega))).mono ?_; rintro e w4 ⟨rfl, hb⟩; have HX4 := Lib.hid ((HX2.out.set (.slice a2 fs.length c2)).keep hb (by have := HB2.out.size; have := HK.out; simp; omega)); obtain ⟨d0, d1, d2, d3, d4, d5, d6, d7, d8, d9, d10, d11, d12, d13, d14, d15, d16⟩ := HX4.out; have HB4 := Lib.hid hb; clear hb)
    go_wp2_with (go_at_call 189; refine (HC'.out w1.heap.size w4 (.slice a2 fs.length c2) (by have := HB4.out.size; have := HB2.out.size; simp at *; omega) ((HO2.out.sb (by have := HK.out; show w.heap.size < _; omega) _).keep HB4.out)).mono ?_; rintro e w5 ⟨v5, rfl, hown, hb⟩; obtain ⟨a5, c5, rfl⟩ := hown.slice; have HX5 := Lib.hid (HX4.out.keep hb HK.out); obtain ⟨d0, d1, d2, d3, d4, d5, d6, d7, d8, d9, d10, d11, d12, d13, d14, d15, d16⟩ := HX5.out; have HB5 := Lib.hid hb; have HO5 := Lib.hid hown; clear hb hown)
    refine bodyPost_disk rfl (w.heap.size + 1 + 1) (.slice a5 fs2.length c5) false fu rfl rfl ?_ ?_ ?_ ?_
    case refine_1 => go_simp
    case refine_2 => go_simp
    case refine_3 => go_simp
    case refine_4 =>
      have hk := HK.out
      refine ⟨_, rfl, Own.le (base := w1.heap.size) ?_ (by omega), ?_⟩
      · repeat (first | exact HO5.out | refine Own.sb ?_ (by first | exact (show w.heap.size < w1.heap.size by omega) | exact (show w.heap.size + 1 + 1 < w1.heap.size by omega)) _)
      · repeat (first | exact do_b5 hk HB3.out HB1.out HB2.out HB4.out HB5.out | refine bset ?_ (by first | exact (show w.heap.size ≤ w.heap.size by omega) | exact (show w.heap.size ≤ w.heap.size + 1 + 1 by omega)) _)
end Dk
end Go.Proofs.YthbmnkeigmbbdaaGreat

/-
  disk.do: one of its ways.
-/
namespace Go.Proofs.YthbmnkeigmbbdaaGreat
open Go.RowKit Go.Lib Go.Sort
namespace Dk

end Dk
end Go.Proofs.YthbmnkeigmbbdaaGreat

/-
  disk.do: one of its ways.
-/
namespace Go.Proofs.YthbmnkeigmbbdaaGreat
open Go.RowKit Go.Lib Go.Sort
namespace Dk

end Dk
end Go.Proofs.YthbmnkeigmbbdaaGreat

/-
  disk.do: one of its ways.
-/
namespace Go.Proofs.YthbmnkeigmbbdaaGreat
open Go.RowKit Go.Lib Go.Sort
namespace Dk

end Dk
end Go.Proofs.YthbmnkeigmbbdaaGreat

/-
  disk.do: all its ways.
-/
namespace Go.Proofs.YthbmnkeigmbbdaaGreat
open Go.RowKit Go.Lib Go.Sort
namespace Dk
theorem do_ok (v : Value) (fs fs2 : List Fl) (fu k : Int) (nm da : ByteArray) (sz : Int) (tu : ByteArray) (hf : Fine fs) (h0 : chkN fs = 0) (hfu : fu ≠ 0) (hlo : -9223372036854775808 ≤ fu) (hhi : fu ≤ 9223372036854775807) (HR : Refuses fs k nm da sz tu 0) (HC : Changes fs fs2 k nm da sz tu) (w : World) (hv : Files w w.heap.size v fs) :
    Calls Tryz.prog 129 #[.agg #[v, .bool false, .int .i64 fu], .agg #[.int .u8 k, .string nm, .string da, .int .i64 sz, .string tu]] w (DoIs w fs2 false (if 0 < fu then fu - 1 else fu) 0) := by
  by_cases hp : 0 < fu
  · exact do_ok1 v fs fs2 fu k nm da sz tu hf h0 hp hlo hhi HR HC w hv
  · exact do_ok2 v fs fs2 fu k nm da sz tu hf h0 hp hfu hlo hhi HR HC w hv
end Dk
end Go.Proofs.YthbmnkeigmbbdaaGreat

/-
  Add, Sync, Swap: do, with what is tu be done.
-/
namespace Go.Proofs.YthbmnkeigmbbdaaGreat
open Go.RowKit Go.Lib Go.Sort
namespace Dk
/-- A box of its own at B, the result's at B + 1. -/
theorem box2 {w w' : World} {v : Value} {dn : Bool} {fu : Int} (hb : Below (w.heap.size + 1 + 1) ((w.alloc (.cells #[v, .bool dn, .int .i64 fu] 110)).alloc (.cells #[.slice none 0 0, .bool false, .int .i64 0] 110)) w') :
    (w'.cell? ⟨w.heap.size + 1, 0, none⟩ = some (.slice none 0 0) ∧ w'.cell? ⟨w.heap.size + 1, 1, none⟩ = some (.bool false) ∧ w'.cell? ⟨w.heap.size + 1, 2, none⟩ = some (.int .i64 0)) ∧
    w'.frozen? ⟨w.heap.size + 1, 0, none⟩ = false ∧ w'.frozen? ⟨w.heap.size + 1, 1, none⟩ = false ∧ w'.frozen? ⟨w.heap.size + 1, 2, none⟩ = false := by
  have a : ∀ o, w'.cell? ⟨w.heap.size + 1, o, none⟩ = _ := fun o => hb.cell (by show w.heap.size + 1 < _; omega)
  have b : ∀ o, w'.frozen? ⟨w.heap.size + 1, o, none⟩ = _ := fun o => hb.frozen (by show w.heap.size + 1 < _; omega)
  refine ⟨⟨(a _).trans ?_, (a _).trans ?_, (a _).trans ?_⟩, (b _).trans ?_, (b _).trans ?_, (b _).trans ?_⟩ <;> simp [go_sem]
def DoC (v : Value) (dn : Bool) (fu : Int) (c : Value) (fs fs2 : List Fl) (dn2 : Bool) (fu2 : Int) (r : Nat) : Prop :=
  ∀ w : World, Files w w.heap.size v fs → Calls Tryz.prog 129 #[.agg #[v, .bool dn, .int .i64 fu], c] w (DoIs w fs2 dn2 fu2 r)

set_option maxHeartbeats 1000000 in
theorem add_of (v : Value) (dn : Bool) (fu : Int) (fs fs2 : List Fl) (dn2 : Bool) (fu2 : Int) (r : Nat) (nm da : ByteArray) (H : DoC v dn fu (.agg #[.int .u8 0, .string nm, .string da, .int .i64 0, .string ByteArray.empty]) fs fs2 dn2 fu2 r) (w : World) (hv : Files w w.heap.size v fs) :
    Calls Tryz.prog 69 #[.agg #[v, .bool dn, .int .i64 fu], .string nm, .string da] w (DoIs w fs2 dn2 fu2 r) := by
  have HV := Lib.hid hv
  have HH := Lib.hid H
  clear H
  obtain ⟨a, c, rfl, -⟩ := hv
  have h1 := HH.out ((w.alloc (.cells #[.slice a fs.length c, .bool dn, .int .i64 fu] 110)).alloc (.cells #[.slice none 0 0, .bool false, .int .i64 0] 110)) ((HV.out.al _).al _)
  unfold DoIs at h1
  simp only [World.size_alloc] at h1
  unfold DoIs
  go_enter Tryz.func69, Tryz.ntmps69
  go_wp2_with (go_at_call 129; go_loud (refine h1.mono ?_; rintro e w1 ⟨v1, rfl, hown, hb⟩; obtain ⟨a5, c5, rfl⟩ := hown.slice; obtain ⟨⟨d0, d1, d2⟩, d3, d4, d5⟩ := box2 hb; have HB := Lib.hid hb; have HO := Lib.hid hown; clear hb hown))
  refine bodyPost_disk rfl (w.heap.size + 1) (.slice a5 fs2.length c5) dn2 fu2 rfl rfl ?_ ?_ ?_ ?_
  case refine_1 => go_simp
  case refine_2 => go_simp
  case refine_3 => go_simp
  case refine_4 =>
    refine ⟨_, rfl, Own.le (base := w.heap.size + 1 + 1) ?_ (by omega), ?_⟩
    · repeat (first | exact HO.out | refine Own.sb ?_ (show w.heap.size + 1 < w.heap.size + 1 + 1 by omega) _)
    · repeat (first | exact (((Below.refl _ _).alloc (Nat.le_refl _) _).alloc (by simp) _).trans (HB.out.mono (by omega)) | refine bset ?_ (show w.heap.size ≤ w.heap.size + 1 by omega) _)

end Dk
end Go.Proofs.YthbmnkeigmbbdaaGreat

/-
  Crash: what is left of each file.
-/
namespace Go.Proofs.YthbmnkeigmbbdaaGreat
open Go.RowKit Go.Lib Go.Sort
namespace Dk

end Dk
end Go.Proofs.YthbmnkeigmbbdaaGreat

/-
  lives: a disk that does what the document says.
-/
namespace Go.Proofs.YthbmnkeigmbbdaaGreat
open Go.RowKit Go.Lib Go.Sort
namespace Dk
theorem chk_one (f : Fl) (h : 0 ≤ f.sy ∧ f.sy ≤ f.da.size) : chkN [f] = 0 := by
  apply chk_good
  · simp
  · show okTo [f] 1 = true
    rw [okTo_succ]
    have : okAt [f] 0 = true := by rw [okAt_zero [f] (by simp)]; simp; omega
    rw [this]; rfl
theorem idx_one (f : Fl) (nm : ByteArray) (h : f.nm = nm) : idxN [f] nm = 0 := by unfold idxN; simp [List.findIdx_cons, h]
theorem fine_one (f : Fl) (h : f.da.size ≤ maxLen ∧ -9223372036854775808 ≤ f.sy ∧ f.sy ≤ 9223372036854775807) : Fine [f] := by
  intro x hx; simp at hx; subst hx; exact h
theorem ok_a : nmOk ⟨#[97]⟩ = true := by unfold nmOk; rw [Lib.toList_data]; rfl
theorem nil_files (w : World) : Files w w.heap.size (.slice none 0 0) [] := ⟨none, 0, rfl, by simp, by simp, by simp⟩
theorem chk_nil : chkN [] = 0 := by decide

/-- A file put onto nothing. -/
theorem add_first (v : Value) (fu : Int) (nm da : ByteArray) (hfu : fu ≠ 0) (hlo : -9223372036854775808 ≤ fu) (hhi : fu ≤ 9223372036854775807) (hn : nmOk nm = true) (hd : da.size ≤ 9223372036854775807) (w : World) (hv : Files w w.heap.size v []) :
    Calls Tryz.prog 69 #[.agg #[v, .bool false, .int .i64 fu], .string nm, .string da] w (DoIs w [⟨nm, da, 0⟩] false (if 0 < fu then fu - 1 else fu) 0) := by
  refine add_of v false fu [] _ false _ 0 nm da ?_ w hv
  intro w1 hf
  refine do_ok v [] _ fu 0 nm da 0 ByteArray.empty (by intro f h; simp at h) chk_nil hfu hlo hhi ?_ ?_ w1 hf
  · intro w2 v2 hf2
    have := refuse_add v2 [] nm da ByteArray.empty 0 w2 hf2 (by simp) (by decide)
    rw [show raN ([] : List Fl).length nm (hasN [] nm) = 0 by unfold raN; rw [hn]; rfl] at this
    exact this
  · intro base w2 v2 hb ho
    exact changed_add_end v2 [] nm da ByteArray.empty 0 base w2 hb ho (by intro f h; simp at h) (by simp) (by decide) (by simp) rfl hd
end Dk
end Go.Proofs.YthbmnkeigmbbdaaGreat

/-
  lives is true.
-/
namespace Go.Proofs.YthbmnkeigmbbdaaGreat
open Go.RowKit Go.Lib Go.Sort
namespace Dk
structure Dx (B : Nat) (w : World) (v : Value) (dn : Bool) (fu : Int) : Prop where
  d0 : w.cell? ⟨B, 0, none⟩ = some v
  d1 : w.cell? ⟨B, 1, none⟩ = some (.bool dn)
  d2 : w.cell? ⟨B, 2, none⟩ = some (.int .i64 fu)
  f0 : w.frozen? ⟨B, 0, none⟩ = false
  f1 : w.frozen? ⟨B, 1, none⟩ = false
  f2 : w.frozen? ⟨B, 2, none⟩ = false
theorem Dx.keep {B C : Nat} {w w' : World} {v : Value} {dn : Bool} {fu : Int} (h : Dx B w v dn fu) (hb : Below C w w') (hC : B < C) : Dx B w' v dn fu :=
  have a0 : ∀ o, w'.cell? ⟨B, o, none⟩ = w.cell? ⟨B, o, none⟩ := fun _ => hb.cell hC
  have b0 : ∀ o, w'.frozen? ⟨B, o, none⟩ = w.frozen? ⟨B, o, none⟩ := fun _ => hb.frozen hC
  ⟨(a0 _).trans h.d0, (a0 _).trans h.d1, (a0 _).trans h.d2, (b0 _).trans h.f0, (b0 _).trans h.f1, (b0 _).trans h.f2⟩
theorem Dx.made (w : World) (v : Value) (dn : Bool) (fu : Int) : Dx w.heap.size (w.alloc (.cells #[v, .bool dn, .int .i64 fu] 110)) v dn fu := by
  constructor <;> simp [go_sem]
/-- A variable at B holds a disk of these files. -/
structure St (w : World) (B : Nat) (x : World) (v : Value) (dn : Bool) (fu : Int) (fs : List Fl) : Prop where
  lo : w.heap.size ≤ B
  hi : B < x.heap.size
  below : Below w.heap.size w x
  dx : Dx B x v dn fu
  files : Files x x.heap.size v fs
theorem St.keep {w x x' : World} {B : Nat} {v : Value} {dn : Bool} {fu : Int} {fs : List Fl} (h : St w B x v dn fu fs) (hb : Below x.heap.size x x') : St w B x' v dn fu fs :=
  ⟨h.lo, Nat.lt_of_lt_of_le h.hi hb.size, h.below.trans (hb.mono h.below.size), h.dx.keep hb h.hi, h.files.on hb hb.size⟩
end Dk
end Go.Proofs.YthbmnkeigmbbdaaGreat

/-
  begins is true.
-/
namespace Go.Proofs.YthbmnkeigmbbdaaGreat
open Go.RowKit Go.Lib Go.Sort
namespace Dk
theorem crc_digits : PM.crc [49, 50, 51, 52, 53, 54, 55, 56, 57] = 10673 := by decide +kernel
def G1 : List Fl := [⟨⟨#[97]⟩, ⟨#[120]⟩, 0⟩]
theorem g1_fine : Fine G1 := fine_one _ (by decide)
theorem b1 (w : World) : Calls Tryz.prog 69 #[.agg #[.slice none 0 0, .bool false, .int .i64 (-1)], .string ⟨#[97]⟩, .string ⟨#[120]⟩] w (DoIs w G1 false (-1) 0) :=
  add_first (.slice none 0 0) (-1) ⟨#[97]⟩ ⟨#[120]⟩ (by omega) (by omega) (by omega) ok_a (by decide) w (nil_files w)
theorem b2 (v : Value) (w : World) (hv : Files w w.heap.size v G1) : Calls Tryz.prog 70 #[.agg #[v, .bool false, .int .i64 (-1)], .string ⟨#[97]⟩] w fun e w' => e = .returned (.tuple #[.string ⟨#[120]⟩, .int .i64 0]) ∧ Below w.heap.size w w' := by
  have h := read_own v false (-1) G1 ⟨#[97]⟩ w hv
  have hi : idxN G1 ⟨#[97]⟩ = 0 := idx_one _ _ rfl
  have hc : chkN G1 = 0 := chk_one _ (by decide)
  unfold ReadIs rdS rdE rdN at h
  rw [hc, hi] at h
  exact h

set_option maxRecDepth 100000 in
set_option maxHeartbeats 4000000 in
theorem begins_true (w : World) : Calls Tryz.prog 29 #[] w fun e w' => e = .returned (.bool true) ∧ Below w.heap.size w w' := by
  have h1 := b1 w
  have K := Lib.hid crc_digits
  go_enter Tryz.func29, Tryz.ntmps29
  go_wp2_with (go_at_call 69; go_loud (refine h1.mono ?_; rintro e w1 ⟨v1, rfl, hown, hb⟩; obtain ⟨a1, c1, rfl⟩ : ∃ a c, v1 = .slice a 1 c := hown.slice; have HS1 := Lib.hid (show St w w1.heap.size (w1.alloc (.cells #[.slice a1 1 c1, .bool false, .int .i64 (-1)] 110)) (.slice a1 1 c1) false (-1) G1 from ⟨hb.size, by simp, hb.alloc hb.size _, Dx.made _ _ _ _, (hown.files g1_fine (by decide)).al _⟩); clear hb hown))
  go_wp2_with (go_at_call 70; go_loud (refine (b2 _ _ HS1.out.files).mono ?_; rintro e w2 ⟨rfl, hb⟩; have HB2 := Lib.hid (HS1.out.keep hb).below; clear hb))
  go_wp2_with fail
  refine (PackSum.sum_own _ _ (by decide)).mono ?_
  rintro e w3 ⟨rfl, rfl⟩
  rw [show PM.crc _ = 10673 from K.out]
  go_wp2
  go_ret
  exact ⟨by rfl, HB2.out⟩
end Dk
end Go.Proofs.YthbmnkeigmbbdaaGreat
