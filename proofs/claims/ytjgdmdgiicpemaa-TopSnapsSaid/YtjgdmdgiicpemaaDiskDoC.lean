/-
  disk.do: one of its ways.
-/
import Derived.Test.YtjgdmdgiicpemaaDiskDoD
namespace Go.Proofs.Ytjgdmdgiicpemaa
open Go.RowKit Go.Lib Go.Sort
namespace Dk

set_option maxRecDepth 100000 in
set_option maxHeartbeats 4000000 in
theorem do_refused (v : Value) (fs : List Fl) (fu k : Int) (nm da : ByteArray) (sz : Int) (to : ByteArray) (r : Nat) (hr : r ≠ 0) (hf : Fine fs) (h0 : chkN fs = 0) (HR : Refuses fs k nm da sz to r) (w : World) (hv : Files w w.heap.size v fs) :
    Calls Try.prog 23 #[.agg #[v, .bool false, .int .i64 fu], .agg #[.int .u8 k, .string nm, .string da, .int .i64 sz, .string to]] w (DoIs w fs false fu r) := by
  have HV := Lib.hid hv
  obtain ⟨a, c, rfl, -⟩ := hv
  obtain ⟨W3, hW3⟩ : ∃ W3, W3 = ((w.alloc (.cells #[.slice a fs.length c, .bool false, .int .i64 fu] 27)).alloc (.cells #[.int .u8 k, .string nm, .string da, .int .i64 sz, .string to] 66)).alloc (.cells #[.slice none 0 0, .bool false, .int .i64 0] 27) := ⟨_, rfl⟩
  have hs3 : W3.heap.size = w.heap.size + 3 := by rw [hW3]; simp
  have hb3 : Below w.heap.size w W3 := by rw [hW3]; exact (((Below.refl _ _).alloc (Nat.le_refl _) _).alloc (by simp) _).alloc (by simp; omega) _
  have hx3 : Bx w.heap.size W3 (.slice a fs.length c) false fu k nm da sz to := by rw [hW3]; exact Bx.made _ _ _ _ _ _ _ _ _
  have h1 := own_ok (.slice a fs.length c) false fu fs W3 (HV.out.on hb3 (by omega)) h0
  rw [hs3] at h1
  have HW := Lib.hid hW3
  have HB3 := Lib.hid hb3
  have HX3 := Lib.hid hx3
  have HS3 := Lib.hid hs3
  clear hW3 hb3 hx3 hs3
  unfold DoIs
  have H4 := Lib.hid (chk_fine fs h0).1
  have HR' := Lib.hid HR
  have HF := Lib.hid hf
  clear HR hf
  · have t1 : ¬ ((r : Int) = 0) := by omega
    go_enter Try.func23, Try.ntmps23
    go_wp2_with (go_at_call 19; rw [← HW.out]; refine h1.mono ?_; rintro e w1 ⟨rfl, hb⟩; have HX1 := Lib.hid (HX3.out.keep hb (by omega)); obtain ⟨d0, d1, d2, d3, d4, d5, d6, d7, d8, d9, d10, d11, d12, d13, d14, d15, d16⟩ := HX1.out; have HB1 := Lib.hid hb; have HK := Lib.hid (show w.heap.size + 3 ≤ w1.heap.size by have h7 := hb.size; have h8 := HS3.out; omega); clear hb)
    go_wp2_with (go_at_call 20; refine (clone_own _ fs w1 (HV.out.on (HB3.out.trans (HB1.out.mono (by omega))) (by have := HK.out; omega)) H4.out).mono ?_; rintro e w2 ⟨v2, rfl, hown, hb⟩; obtain ⟨a2, c2, rfl⟩ := hown.slice; have HX2 := Lib.hid (HX1.out.keep hb HK.out); obtain ⟨d0, d1, d2, d3, d4, d5, d6, d7, d8, d9, d10, d11, d12, d13, d14, d15, d16⟩ := HX2.out; have HB2 := Lib.hid hb; have HO2 := Lib.hid hown; clear hb hown)
    go_wp2_with (go_at_call 45; refine (HR'.out _ (.slice a2 fs.length c2) ((HO2.out.sb (by have := HK.out; show w.heap.size < _; omega) _).files HF.out (by have := H4.out; omega))).mono ?_; rintro e w4 ⟨rfl, hb⟩; have HX4 := Lib.hid ((HX2.out.set (.slice a2 fs.length c2)).keep hb (by have := HB2.out.size; have := HK.out; simp; omega)); obtain ⟨d0, d1, d2, d3, d4, d5, d6, d7, d8, d9, d10, d11, d12, d13, d14, d15, d16⟩ := HX4.out; have HB4 := Lib.hid hb; clear hb)
    refine bodyPost_disk rfl (w.heap.size + 1 + 1) (.slice a2 fs.length c2) false fu rfl rfl ?_ ?_ ?_ ?_
    case refine_1 => go_simp
    case refine_2 => go_simp
    case refine_3 => go_simp
    case refine_4 =>
      have hk := HK.out
      refine ⟨_, rfl, Own.le (base := w1.heap.size) ?_ (by omega), ?_⟩
      · repeat (first | exact (HO2.out.sb (by show w.heap.size < w1.heap.size; omega) _).keep HB4.out | refine Own.sb ?_ (by first | exact (show w.heap.size < w1.heap.size by omega) | exact (show w.heap.size + 1 + 1 < w1.heap.size by omega)) _)
      · repeat (first | exact do_b4 hk HB3.out HB1.out HB2.out HB4.out | refine bset ?_ (by first | exact (show w.heap.size ≤ w.heap.size by omega) | exact (show w.heap.size ≤ w.heap.size + 1 + 1 by omega)) _)
end Dk
end Go.Proofs.Ytjgdmdgiicpemaa
