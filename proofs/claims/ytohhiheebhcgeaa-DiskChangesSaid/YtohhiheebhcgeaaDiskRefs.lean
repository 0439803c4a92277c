/-
  disk.refuse at Cut and Drop.
-/
import Derived.Test.YtohhiheebhcgeaaDiskChg
namespace Go.Proofs.Ytohhiheebhcgeaa
open Go.RowKit Go.Lib Go.Sort
namespace Dk
set_option maxRecDepth 100000 in
set_option maxHeartbeats 2000000 in
theorem refuse_drop (v : Value) (fs : List Fl) (nm da to : ByteArray) (sz : Int) (w : World) (hv : Files w w.heap.size v fs) (h4 : fs.length ≤ 4096) (hok : okTo fs fs.length = true) :
    Calls Try.prog 44 #[v, .agg #[.int .u8 4, .string nm, .string da, .int .i64 sz, .string to]] w fun e w' => e = .returned (.int .i64 (rsN fs nm : Nat)) ∧ Below w.heap.size w w' := by
  have HV := Lib.hid hv
  obtain ⟨a, c, rfl, -⟩ := hv
  by_cases hn : idxN fs nm < fs.length
  · have h1 := find_hit (.slice a fs.length c) fs nm (w.alloc (.cells #[.int .u8 4, .string nm, .string da, .int .i64 sz, .string to] 53)) (HV.out.al _) h4 hok hn
    rw [World.size_alloc] at h1
    have HN : Hid (rsN fs nm = 0) := by show _ = _; unfold rsN; rw [if_pos hn]
    clear hn hok
    generalize idxN fs nm = k at *
    go_enter Try.func44, Try.ntmps44
    go_wp2_with (go_at_call 41; refine h1.mono ?_; rintro e w1 ⟨rfl, hb⟩; obtain ⟨d0, d1, d2, d3, d4⟩ := boxC hb; have HB := Lib.hid hb; clear hb)
    go_quiet (fail)
    go_wp2
    go_quiet (fail)
    go_wp2
    go_ret
    exact ⟨by rw [HN.out]; rfl, by first | exact bdN (over HB.out) _ | exact bdN (bdN (over HB.out) _) _⟩
  · have h1 := find_miss (.slice a fs.length c) fs nm (w.alloc (.cells #[.int .u8 4, .string nm, .string da, .int .i64 sz, .string to] 53)) (HV.out.al _) h4 hok hn
    rw [World.size_alloc] at h1
    have HN : Hid (rsN fs nm = 6) := by show _ = _; unfold rsN; rw [if_neg hn]
    clear hn hok
    generalize lbN fs nm = k at *
    go_enter Try.func44, Try.ntmps44
    go_wp2_with (go_at_call 41; refine h1.mono ?_; rintro e w1 ⟨rfl, hb⟩; obtain ⟨d0, d1, d2, d3, d4⟩ := boxC hb; have HB := Lib.hid hb; clear hb)
    go_ret
    exact ⟨by rw [HN.out]; rfl, over HB.out⟩

def rcN (fs : List Fl) (nm : ByteArray) (sz : Int) : Nat := match fs[idxN fs nm]? with | none => 6 | some f => if sz < 0 ∨ (f.da.size : Int) < sz then 1 else 0
set_option maxRecDepth 100000 in
set_option maxHeartbeats 2000000 in
theorem refuse_cut (v : Value) (fs : List Fl) (nm da to : ByteArray) (sz : Int) (w : World) (hv : Files w w.heap.size v fs) (h4 : fs.length ≤ 4096) (hok : okTo fs fs.length = true) :
    Calls Try.prog 44 #[v, .agg #[.int .u8 2, .string nm, .string da, .int .i64 sz, .string to]] w fun e w' => e = .returned (.int .i64 (rcN fs nm sz : Nat)) ∧ Below w.heap.size w w' := by
  have HV := Lib.hid hv
  obtain ⟨a, c, rfl, hl, hs, hc⟩ := hv
  have HC := Lib.hid hc
  have HS := Lib.hid hs
  clear hs hc
  by_cases hn : idxN fs nm < fs.length
  · have h1 := find_hit (.slice a fs.length c) fs nm (w.alloc (.cells #[.int .u8 2, .string nm, .string da, .int .i64 sz, .string to] 53)) (HV.out.al _) h4 hok hn
    rw [World.size_alloc] at h1
    have HR : Hid (rcN fs nm sz = if sz < 0 ∨ (fs[idxN fs nm].da.size : Int) < sz then 1 else 0) := by show _ = _; unfold rcN; rw [List.getElem?_eq_getElem hn]
    obtain ⟨b, off, rfl, hblt, hc⟩ := HC.out (by omega)
    obtain ⟨c1, c2, c3⟩ := hc _ hn
    obtain ⟨hz1, hz2, hz3⟩ := HS.out _ (List.getElem_mem hn)
    have HC2 := Lib.hid c2
    have t1 : ((idxN fs nm : Nat) : Int) < (fs.length : Int) := by omega
    have t2 : (0 : Int) ≤ ((idxN fs nm : Nat) : Int) := by omega
    clear hok c1 c2 c3 hc
    generalize rcN fs nm sz = r at *
    generalize fs[idxN fs nm] = f at *
    generalize idxN fs nm = k at *
    by_cases hw : sz < 0
    · have HN := Lib.hid (HR.out.trans (if_pos (.inl hw)))
      go_enter Try.func44, Try.ntmps44
      go_wp2_with (go_at_call 41; refine h1.mono ?_; rintro e w1 ⟨rfl, hb⟩; obtain ⟨d0, d1, d2, d3, d4⟩ := boxC hb; have HB := Lib.hid hb; clear hb; have f2 := ((over HB.out).cell (by exact hblt)).trans HC2.out)
      go_quiet (fail)
      go_wp2
      go_ret
      exact ⟨by rw [HN.out]; rfl, by first | exact bdN (over HB.out) _ | exact bdN (bdN (over HB.out) _) _⟩
    · have t3 : decide (sz < 0) = false := by simpa using hw
      by_cases hw2 : (f.da.size : Int) < sz
      · have HN := Lib.hid (HR.out.trans (if_pos (.inr hw2)))
        go_enter Try.func44, Try.ntmps44
        go_wp2_with (go_at_call 41; refine h1.mono ?_; rintro e w1 ⟨rfl, hb⟩; obtain ⟨d0, d1, d2, d3, d4⟩ := boxC hb; have HB := Lib.hid hb; clear hb; have f2 := ((over HB.out).cell (by exact hblt)).trans HC2.out)
        go_quiet (fail)
        go_wp2
        go_ret
        exact ⟨by rw [HN.out]; rfl, by first | exact bdN (over HB.out) _ | exact bdN (bdN (over HB.out) _) _⟩
      · have t4 : decide ((f.da.size : Int) < sz) = false := by simpa using hw2
        have HN := Lib.hid (HR.out.trans (if_neg (by omega)))
        go_enter Try.func44, Try.ntmps44
        go_wp2_with (go_at_call 41; refine h1.mono ?_; rintro e w1 ⟨rfl, hb⟩; obtain ⟨d0, d1, d2, d3, d4⟩ := boxC hb; have HB := Lib.hid hb; clear hb; have f2 := ((over HB.out).cell (by exact hblt)).trans HC2.out)
        go_quiet (fail)
        go_wp2
        go_quiet (fail)
        go_wp2
        go_ret
        exact ⟨by rw [HN.out]; rfl, by first | exact bdN (over HB.out) _ | exact bdN (bdN (over HB.out) _) _⟩
  · have h1 := find_miss (.slice a fs.length c) fs nm (w.alloc (.cells #[.int .u8 2, .string nm, .string da, .int .i64 sz, .string to] 53)) (HV.out.al _) h4 hok hn
    rw [World.size_alloc] at h1
    have HN : Hid (rcN fs nm sz = 6) := by show _ = _; unfold rcN; rw [List.getElem?_eq_none (by omega)]
    clear hn hok
    generalize lbN fs nm = k at *
    go_enter Try.func44, Try.ntmps44
    go_wp2_with (go_at_call 41; refine h1.mono ?_; rintro e w1 ⟨rfl, hb⟩; obtain ⟨d0, d1, d2, d3, d4⟩ := boxC hb; have HB := Lib.hid hb; clear hb)
    go_ret
    exact ⟨by rw [HN.out]; rfl, over HB.out⟩
end Dk
end Go.Proofs.Ytohhiheebhcgeaa
