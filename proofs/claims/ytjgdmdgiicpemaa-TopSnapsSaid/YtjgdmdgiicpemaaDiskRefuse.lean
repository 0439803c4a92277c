/-
  WHAT IS REFUSED: mayName, refuseAdd, refuse.
-/
import Derived.Test.YtjgdmdgiicpemaaDiskOwn
namespace Go.Proofs.Ytjgdmdgiicpemaa
open Go.RowKit Go.Lib Go.Sort
namespace Dk

def nmOk (nm : ByteArray) : Bool := !nm.toList.isEmpty && decide (nm.size ≤ 32)
set_option maxHeartbeats 1000000 in
theorem may_own (nm : ByteArray) (w : World) : Calls Try.prog 64 #[.string nm] w fun e w' => e = .returned (.bool (nmOk nm)) ∧ w' = w := by
  have he : decide ((nm.size : Int) ≤ 32) = decide (nm.size ≤ 32) := decide_eq_decide.2 (by omega)
  go_enter Try.func64, Try.ntmps64
  go_wp2
  · rename_i h
    go_ret
    refine ⟨?_, rfl⟩
    unfold nmOk
    rw [h]
    rfl
  · rename_i h
    go_ret
    refine ⟨?_, rfl⟩
    unfold nmOk
    rfl

def raN (n : Nat) (nm : ByteArray) (th : Bool) : Nat := if nmOk nm then (if th then 0 else if 4096 ≤ n then 11 else 0) else 5
set_option maxHeartbeats 1000000 in
theorem refuseAdd_own (a : Option Addr) (n c : Nat) (nm : ByteArray) (th : Bool) (w : World) :
    Calls Try.prog 63 #[.slice a n c, .string nm, .bool th] w fun e w' => e = .returned (.int .i64 (raN n nm th : Nat)) ∧ w' = w := by
  have hm := may_own nm w
  cases h : nmOk nm with
  | false =>
    rw [h] at hm
    have HN : Hid (raN n nm th = 5) := by show _ = _; unfold raN; rw [h]; rfl
    clear h
    go_enter Try.func63, Try.ntmps63
    go_wp2_with (go_at_call 64; refine hm.mono ?_; rintro e w' ⟨rfl, rfl⟩)
    go_ret
    exact ⟨by rw [HN.out]; rfl, rfl⟩
  | true =>
    rw [h] at hm
    cases th with
    | true =>
      have HN : Hid (raN n nm true = 0) := by show _ = _; unfold raN; rw [h]; rfl
      clear h
      go_enter Try.func63, Try.ntmps63
      go_wp2_with (go_at_call 64; refine hm.mono ?_; rintro e w' ⟨rfl, rfl⟩)
      go_ret
      exact ⟨by rw [HN.out]; rfl, rfl⟩
    | false =>
      by_cases h2 : 4096 ≤ n
      · have HN : Hid (raN n nm false = 11) := by show _ = _; unfold raN; rw [h]; simpa using h2
        have t1 : decide ((n : Int) < 4096) = false := by simp; omega
        have t2 : decide ((4096 : Int) ≤ (n : Int)) = true := by simp; omega
        clear h
        go_enter Try.func63, Try.ntmps63
        go_wp2_with (go_at_call 64; refine hm.mono ?_; rintro e w' ⟨rfl, rfl⟩)
        go_ret
        exact ⟨by rw [HN.out]; rfl, rfl⟩
      · have HN : Hid (raN n nm false = 0) := by show _ = _; unfold raN; rw [h]; simp; omega
        have t1 : decide ((n : Int) < 4096) = true := by simp; omega
        have t2 : decide ((4096 : Int) ≤ (n : Int)) = false := by simp; omega
        clear h
        go_enter Try.func63, Try.ntmps63
        go_wp2_with (go_at_call 64; refine hm.mono ?_; rintro e w' ⟨rfl, rfl⟩)
        go_ret
        exact ⟨by rw [HN.out]; rfl, rfl⟩

theorem boxC {w w' : World} {k : Int} {nm da to : ByteArray} {sz : Int} (hb : Below (w.heap.size + 1) (w.alloc (.cells #[.int .u8 k, .string nm, .string da, .int .i64 sz, .string to] 66)) w') :
    w'.cell? ⟨w.heap.size, 0, none⟩ = some (.int .u8 k) ∧ w'.cell? ⟨w.heap.size, 1, none⟩ = some (.string nm) ∧ w'.cell? ⟨w.heap.size, 2, none⟩ = some (.string da) ∧ w'.cell? ⟨w.heap.size, 3, none⟩ = some (.int .i64 sz) ∧ w'.cell? ⟨w.heap.size, 4, none⟩ = some (.string to) :=
  ⟨by rw [hb.cell (by simp)]; simp [go_sem], by rw [hb.cell (by simp)]; simp [go_sem], by rw [hb.cell (by simp)]; simp [go_sem], by rw [hb.cell (by simp)]; simp [go_sem], by rw [hb.cell (by simp)]; simp [go_sem]⟩

theorem find_hit (v : Value) (fs : List Fl) (nm : ByteArray) (w : World) (hv : Files w w.heap.size v fs) (h4k : fs.length ≤ 4096) (hok : okTo fs fs.length = true) (hn : idxN fs nm < fs.length) :
    Calls Try.prog 25 #[v, .string nm] w fun e w' => e = .returned (.tuple #[.int .i64 (idxN fs nm : Nat), .bool true]) ∧ Below w.heap.size w w' := by
  have := find_own v fs nm w hv h4k hok
  unfold Found at this
  rw [lb_idx fs nm hok hn, show hasN fs nm = true by unfold hasN; simpa using hn] at this
  exact this
theorem find_miss (v : Value) (fs : List Fl) (nm : ByteArray) (w : World) (hv : Files w w.heap.size v fs) (h4k : fs.length ≤ 4096) (hok : okTo fs fs.length = true) (hn : ¬ idxN fs nm < fs.length) :
    Calls Try.prog 25 #[v, .string nm] w fun e w' => e = .returned (.tuple #[.int .i64 (lbN fs nm : Nat), .bool false]) ∧ Below w.heap.size w w' := by
  have := find_own v fs nm w hv h4k hok
  unfold Found at this
  rw [show hasN fs nm = false by unfold hasN; simpa using hn] at this
  exact this

set_option maxRecDepth 100000 in
set_option maxHeartbeats 2000000 in
theorem refuse_add (v : Value) (fs : List Fl) (nm da to : ByteArray) (sz : Int) (w : World) (hv : Files w w.heap.size v fs) (h4 : fs.length ≤ 4096) (hok : okTo fs fs.length = true) :
    Calls Try.prog 45 #[v, .agg #[.int .u8 0, .string nm, .string da, .int .i64 sz, .string to]] w fun e w' => e = .returned (.int .i64 (raN fs.length nm (hasN fs nm) : Nat)) ∧ Below w.heap.size w w' := by
  have HV := Lib.hid hv
  obtain ⟨a, c, rfl, -⟩ := hv
  by_cases hn : idxN fs nm < fs.length
  · have h1 := find_hit (.slice a fs.length c) fs nm (w.alloc (.cells #[.int .u8 0, .string nm, .string da, .int .i64 sz, .string to] 66)) (HV.out.al _) h4 hok hn
    rw [World.size_alloc] at h1
    rw [show hasN fs nm = true by unfold hasN; simpa using hn]
    clear hn hok
    generalize idxN fs nm = k at *
    have HR := Lib.hid (refuseAdd_own a fs.length c nm true)
    generalize raN fs.length nm true = r at *
    go_enter Try.func45, Try.ntmps45
    go_wp2_with (go_at_call 25; refine h1.mono ?_; rintro e w1 ⟨rfl, hb⟩; obtain ⟨d0, d1, d2, d3, d4⟩ := boxC hb; have HB := Lib.hid hb; clear hb)
    go_wp2_with (go_at_call 63; refine (HR.out _).mono ?_; rintro e w2 ⟨rfl, rfl⟩)
    go_ret
    exact ⟨rfl, over HB.out⟩
  · have h1 := find_miss (.slice a fs.length c) fs nm (w.alloc (.cells #[.int .u8 0, .string nm, .string da, .int .i64 sz, .string to] 66)) (HV.out.al _) h4 hok hn
    rw [World.size_alloc] at h1
    rw [show hasN fs nm = false by unfold hasN; simpa using hn]
    clear hn hok
    generalize lbN fs nm = k at *
    have HR := Lib.hid (refuseAdd_own a fs.length c nm false)
    generalize raN fs.length nm false = r at *
    go_enter Try.func45, Try.ntmps45
    go_wp2_with (go_at_call 25; refine h1.mono ?_; rintro e w1 ⟨rfl, hb⟩; obtain ⟨d0, d1, d2, d3, d4⟩ := boxC hb; have HB := Lib.hid hb; clear hb)
    go_wp2_with (go_at_call 63; refine (HR.out _).mono ?_; rintro e w2 ⟨rfl, rfl⟩)
    go_ret
    exact ⟨rfl, over HB.out⟩

def rsN (fs : List Fl) (nm : ByteArray) : Nat := if idxN fs nm < fs.length then 0 else 6
set_option maxRecDepth 100000 in
set_option maxHeartbeats 2000000 in
theorem refuse_sync (v : Value) (fs : List Fl) (nm da to : ByteArray) (sz : Int) (w : World) (hv : Files w w.heap.size v fs) (h4 : fs.length ≤ 4096) (hok : okTo fs fs.length = true) :
    Calls Try.prog 45 #[v, .agg #[.int .u8 1, .string nm, .string da, .int .i64 sz, .string to]] w fun e w' => e = .returned (.int .i64 (rsN fs nm : Nat)) ∧ Below w.heap.size w w' := by
  have HV := Lib.hid hv
  obtain ⟨a, c, rfl, -⟩ := hv
  by_cases hn : idxN fs nm < fs.length
  · have h1 := find_hit (.slice a fs.length c) fs nm (w.alloc (.cells #[.int .u8 1, .string nm, .string da, .int .i64 sz, .string to] 66)) (HV.out.al _) h4 hok hn
    rw [World.size_alloc] at h1
    have HN : Hid (rsN fs nm = 0) := by show _ = _; unfold rsN; rw [if_pos hn]
    clear hn hok
    generalize idxN fs nm = k at *
    go_enter Try.func45, Try.ntmps45
    go_wp2_with (go_at_call 25; refine h1.mono ?_; rintro e w1 ⟨rfl, hb⟩; obtain ⟨d0, d1, d2, d3, d4⟩ := boxC hb; have HB := Lib.hid hb; clear hb)
    go_quiet (fail)
    go_wp2
    go_quiet (fail)
    go_wp2
    go_ret
    exact ⟨by rw [HN.out]; rfl, by first | exact bdN (over HB.out) _ | exact bdN (bdN (over HB.out) _) _⟩
  · have h1 := find_miss (.slice a fs.length c) fs nm (w.alloc (.cells #[.int .u8 1, .string nm, .string da, .int .i64 sz, .string to] 66)) (HV.out.al _) h4 hok hn
    rw [World.size_alloc] at h1
    have HN : Hid (rsN fs nm = 6) := by show _ = _; unfold rsN; rw [if_neg hn]
    clear hn hok
    generalize lbN fs nm = k at *
    go_enter Try.func45, Try.ntmps45
    go_wp2_with (go_at_call 25; refine h1.mono ?_; rintro e w1 ⟨rfl, hb⟩; obtain ⟨d0, d1, d2, d3, d4⟩ := boxC hb; have HB := Lib.hid hb; clear hb)
    go_ret
    exact ⟨by rw [HN.out]; rfl, over HB.out⟩

def rwN (fs : List Fl) (nm to : ByteArray) : Nat := match fs[idxN fs nm]? with | none => 6 | some f => if f.sy < f.da.size then 9 else if nmOk to then 0 else 5
set_option maxRecDepth 100000 in
set_option maxHeartbeats 2000000 in
theorem refuse_swap (v : Value) (fs : List Fl) (nm da to : ByteArray) (sz : Int) (w : World) (hv : Files w w.heap.size v fs) (h4 : fs.length ≤ 4096) (hok : okTo fs fs.length = true) :
    Calls Try.prog 45 #[v, .agg #[.int .u8 3, .string nm, .string da, .int .i64 sz, .string to]] w fun e w' => e = .returned (.int .i64 (rwN fs nm to : Nat)) ∧ Below w.heap.size w w' := by
  have HV := Lib.hid hv
  obtain ⟨a, c, rfl, hl, hs, hc⟩ := hv
  have HC := Lib.hid hc
  have HS := Lib.hid hs
  clear hs hc
  by_cases hn : idxN fs nm < fs.length
  · have h1 := find_hit (.slice a fs.length c) fs nm (w.alloc (.cells #[.int .u8 3, .string nm, .string da, .int .i64 sz, .string to] 66)) (HV.out.al _) h4 hok hn
    rw [World.size_alloc] at h1
    have HR : Hid (rwN fs nm to = if fs[idxN fs nm].sy < fs[idxN fs nm].da.size then 9 else if nmOk to then 0 else 5) := by show _ = _; unfold rwN; rw [List.getElem?_eq_getElem hn]
    obtain ⟨b, off, rfl, hblt, hc⟩ := HC.out (by omega)
    obtain ⟨c1, c2, c3⟩ := hc _ hn
    obtain ⟨hz1, hz2, hz3⟩ := HS.out _ (List.getElem_mem hn)
    have HC2 := Lib.hid c2
    have HC3 := Lib.hid c3
    have t1 : ((idxN fs nm : Nat) : Int) < (fs.length : Int) := by omega
    have t2 : (0 : Int) ≤ ((idxN fs nm : Nat) : Int) := by omega
    clear hok c1 c2 c3 hc
    generalize rwN fs nm to = r at *
    generalize fs[idxN fs nm] = f at *
    generalize idxN fs nm = k at *
    by_cases hw : f.sy < (f.da.size : Int)
    · have HN := Lib.hid (HR.out.trans (if_pos hw))
      go_enter Try.func45, Try.ntmps45
      go_wp2_with (go_at_call 25; refine h1.mono ?_; rintro e w1 ⟨rfl, hb⟩; obtain ⟨d0, d1, d2, d3, d4⟩ := boxC hb; have HB := Lib.hid hb; clear hb; have f2 := ((over HB.out).cell (by exact hblt)).trans HC2.out; have f3 := ((over HB.out).cell (by exact hblt)).trans HC3.out)
      go_quiet (fail)
      go_wp2
      go_quiet (fail)
      go_wp2
      go_ret
      exact ⟨by rw [HN.out]; rfl, by first | exact bdN (over HB.out) _ | exact bdN (bdN (over HB.out) _) _⟩
    · have t3 : decide (f.sy < (f.da.size : Int)) = false := by simpa using hw
      have HM := Lib.hid (fun w => may_own to w)
      have HN := Lib.hid (HR.out.trans (if_neg hw))
      cases hm : nmOk to with
      | true =>
        rw [hm] at HN HM
        go_enter Try.func45, Try.ntmps45
        go_wp2_with (go_at_call 25; refine h1.mono ?_; rintro e w1 ⟨rfl, hb⟩; obtain ⟨d0, d1, d2, d3, d4⟩ := boxC hb; have HB := Lib.hid hb; clear hb; have f2 := ((over HB.out).cell (by exact hblt)).trans HC2.out; have f3 := ((over HB.out).cell (by exact hblt)).trans HC3.out)
        go_quiet (fail)
        go_wp2
        go_quiet (fail)
        go_wp2_with (go_at_call 64; refine (HM.out _).mono ?_; rintro e w2 ⟨rfl, rfl⟩)
        go_ret
        exact ⟨by rw [HN.out]; rfl, by first | exact bdN (over HB.out) _ | exact bdN (bdN (over HB.out) _) _⟩
      | false =>
        rw [hm] at HN HM
        go_enter Try.func45, Try.ntmps45
        go_wp2_with (go_at_call 25; refine h1.mono ?_; rintro e w1 ⟨rfl, hb⟩; obtain ⟨d0, d1, d2, d3, d4⟩ := boxC hb; have HB := Lib.hid hb; clear hb; have f2 := ((over HB.out).cell (by exact hblt)).trans HC2.out; have f3 := ((over HB.out).cell (by exact hblt)).trans HC3.out)
        go_quiet (fail)
        go_wp2
        go_quiet (fail)
        go_wp2_with (go_at_call 64; refine (HM.out _).mono ?_; rintro e w2 ⟨rfl, rfl⟩)
        go_ret
        exact ⟨by rw [HN.out]; rfl, by first | exact bdN (over HB.out) _ | exact bdN (bdN (over HB.out) _) _⟩
  · have h1 := find_miss (.slice a fs.length c) fs nm (w.alloc (.cells #[.int .u8 3, .string nm, .string da, .int .i64 sz, .string to] 66)) (HV.out.al _) h4 hok hn
    rw [World.size_alloc] at h1
    have HN : Hid (rwN fs nm to = 6) := by show _ = _; unfold rwN; rw [List.getElem?_eq_none (by omega)]
    clear hn hok
    generalize lbN fs nm = k at *
    go_enter Try.func45, Try.ntmps45
    go_wp2_with (go_at_call 25; refine h1.mono ?_; rintro e w1 ⟨rfl, hb⟩; obtain ⟨d0, d1, d2, d3, d4⟩ := boxC hb; have HB := Lib.hid hb; clear hb)
    go_ret
    exact ⟨by rw [HN.out]; rfl, over HB.out⟩
end Dk
end Go.Proofs.Ytjgdmdgiicpemaa
