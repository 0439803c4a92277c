/-
  Read, the program's and the document's.
-/
import Derived.Test.YtjgdmdgiicpemaaDiskAsk
namespace Go.Proofs.Ytjgdmdgiicpemaa
open Go.RowKit Go.Lib Go.Sort
namespace Dk

set_option maxRecDepth 100000 in
set_option maxHeartbeats 2000000 in
theorem read_own (v : Value) (dn : Bool) (fu : Int) (fs : List Fl) (nm : ByteArray) (w : World) (hv : Files w w.heap.size v fs) :
    Calls Try.prog 10 #[.agg #[v, .bool dn, .int .i64 fu], .string nm] w fun e w' => ReadIs fs dn nm e ∧ Below w.heap.size w w' := by
  have HV := Lib.hid hv
  obtain ⟨a, c, rfl, hl, hs, hc⟩ := hv
  have HC := Lib.hid hc
  clear hs hc
  obtain ⟨o0, ho0⟩ : ∃ o0, o0 = Obj.cells #[.slice a fs.length c, .bool dn, .int .i64 fu] 27 := ⟨_, rfl⟩
  have h0 := ready_own (.slice a fs.length c) dn fu fs (w.alloc o0) (HV.out.al _)
  rw [World.size_alloc] at h0
  rw [ho0] at h0
  rcases rd_cases fs dn with ⟨hk, h⟩ | ⟨hk, rfl, h⟩ | ⟨hk, rfl, h⟩
  · have HN := Lib.hid (read_not fs dn nm 10 h (by omega))
    rw [h] at h0
    have h1 : Calls Try.prog 24 #[.agg #[.slice a fs.length c, .bool dn, .int .i64 fu]] (w.alloc (.cells #[.slice a fs.length c, .bool dn, .int .i64 fu] 27)) (fun e w' => e = .returned (.int .i64 10) ∧ Below (w.heap.size + 1) (w.alloc (.cells #[.slice a fs.length c, .bool dn, .int .i64 fu] 27)) w') := h0
    clear h0 h hk ho0
    go_enter Try.func10, Try.ntmps10
    go_wp2_with (go_at_call 24; refine h1.mono ?_; rintro e w' ⟨rfl, hb⟩; have HB := Lib.hid hb; clear hb)
    go_ret2
    exact ⟨HN.out, over HB.out⟩
  · have HN := Lib.hid (read_not fs true nm 8 h (by omega))
    rw [h] at h0
    have h1 : Calls Try.prog 24 #[.agg #[.slice a fs.length c, .bool true, .int .i64 fu]] (w.alloc (.cells #[.slice a fs.length c, .bool true, .int .i64 fu] 27)) (fun e w' => e = .returned (.int .i64 8) ∧ Below (w.heap.size + 1) (w.alloc (.cells #[.slice a fs.length c, .bool true, .int .i64 fu] 27)) w') := h0
    clear h0 h hk ho0
    go_enter Try.func10, Try.ntmps10
    go_wp2_with (go_at_call 24; refine h1.mono ?_; rintro e w' ⟨rfl, hb⟩; have HB := Lib.hid hb; clear hb)
    go_ret2
    exact ⟨HN.out, over HB.out⟩
  · rw [h] at h0
    have h1 : Calls Try.prog 24 #[.agg #[.slice a fs.length c, .bool false, .int .i64 fu]] (w.alloc (.cells #[.slice a fs.length c, .bool false, .int .i64 fu] 27)) (fun e w' => e = .returned (.int .i64 0) ∧ Below (w.heap.size + 1) (w.alloc (.cells #[.slice a fs.length c, .bool false, .int .i64 fu] 27)) w') := h0
    obtain ⟨h4, hok⟩ := chk_fine fs hk
    have HF : Hid (∀ w1 : World, Files w1 w1.heap.size (.slice a fs.length c) fs → Calls Try.prog 25 #[.slice a fs.length c, .string nm] w1 fun e w' => Found fs nm e ∧ Below w1.heap.size w1 w') := fun w1 hf => find_own _ fs nm w1 hf h4 hok
    by_cases hn : idxN fs nm < fs.length
    · have HN := Lib.hid (read_some fs false nm h hn)
      have HL := Lib.hid (lb_idx fs nm hok hn)
      have HH : Hid (hasN fs nm = true) := by show _ = _; unfold hasN; simpa using hn
      obtain ⟨b, off, rfl, hblt, hc⟩ := HC.out (by omega)
      have c2 := (hc _ hn).2.1
      have HC2 := Lib.hid c2
      have t1 : ((idxN fs nm : Nat) : Int) < (fs.length : Int) := by omega
      have t2 : (0 : Int) ≤ ((idxN fs nm : Nat) : Int) := by omega
      unfold Found at HF
      rw [HH.out, HL.out] at HF
      clear h0 h hk ho0 hok c2 hc HH HL
      generalize fs[idxN fs nm].da = y at *
      generalize idxN fs nm = k at *
      go_enter Try.func10, Try.ntmps10
      go_wp2_with (go_at_call 24; refine h1.mono ?_; rintro e w1 ⟨rfl, hb⟩; obtain ⟨d1, d2, d3⟩ := boxD hb; have HB := Lib.hid hb; clear hb)
      go_wp2_with (go_at_call 25; refine (HF.out w1 (HV.out.up HB.out)).mono ?_; rintro e w2 ⟨rfl, hb⟩; have e1 := (hb.cell (by have := HB.out.size; simp at this; show w.heap.size < _; omega)).trans d1; have e2 := (hb.cell (by have := HB.out.size; simp at this; show b < _; omega)).trans (((over HB.out).cell (by exact hblt)).trans HC2.out); have HB2 := Lib.hid hb; clear hb)
      go_ret2
      exact ⟨HN.out, (over HB.out).trans (HB2.out.mono (by have := HB.out.size; simp at this; omega))⟩
    · have HN := Lib.hid (read_none fs false nm h hn)
      have HH : Hid (hasN fs nm = false) := by show _ = _; unfold hasN; simpa using hn
      unfold Found at HF
      rw [HH.out] at HF
      clear h0 h hk ho0 hok HH
      generalize lbN fs nm = k at *
      go_enter Try.func10, Try.ntmps10
      go_wp2_with (go_at_call 24; refine h1.mono ?_; rintro e w1 ⟨rfl, hb⟩; obtain ⟨d1, d2, d3⟩ := boxD hb; have HB := Lib.hid hb; clear hb)
      go_wp2_with (go_at_call 25; refine (HF.out w1 (HV.out.up HB.out)).mono ?_; rintro e w2 ⟨rfl, hb⟩; have HB2 := Lib.hid hb; clear hb)
      go_ret2
      exact ⟨HN.out, (over HB.out).trans (HB2.out.mono (by have := HB.out.size; simp at this; omega))⟩

end Dk
end Go.Proofs.Ytjgdmdgiicpemaa
