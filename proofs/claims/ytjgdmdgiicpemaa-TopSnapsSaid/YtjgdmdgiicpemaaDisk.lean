/-
  DISKS as lists of files: a slice of files in memory; which disks are right.
-/
import Derived.Test.YtjgdmdgiicpemaaRows
import Derived.WalkKit
import Derived.WalkLawsBesides
import Derived.WalkSpells
import Derived.Lib.Hide
import Derived.Deep.LoopGhost
import Derived.Deep.QuietTactic
import Derived.BigQuiet
namespace Go.Proofs.Ytjgdmdgiicpemaa
open Go.RowKit
namespace Dk

theorem bdN {B : Nat} {a w : World} (h : Below B a w) (n : Nat) : Below B a (w.drewN n) := ⟨h.os, h.tape, h.output, h.size, h.block⟩

structure Fl where
  nm : ByteArray
  da : ByteArray
  sy : Int

/-- v is a slice of the files fs, in memory below block B. -/
def Files (w : World) (B : Nat) (v : Value) (fs : List Fl) : Prop :=
  ∃ a c, v = .slice a fs.length c ∧ fs.length ≤ 4611686018427387904 ∧ (∀ f ∈ fs, f.da.size ≤ maxLen ∧ -9223372036854775808 ≤ f.sy ∧ f.sy ≤ 9223372036854775807) ∧
    (0 < fs.length → ∃ b off, a = some ⟨b, off, none⟩ ∧ b < B ∧ ∀ i (h : i < fs.length),
      w.cell? ⟨b, off + i * 3, none⟩ = some (.string fs[i].nm) ∧ w.cell? ⟨b, off + i * 3 + 1, none⟩ = some (.string fs[i].da) ∧ w.cell? ⟨b, off + i * 3 + 2, none⟩ = some (.int .i64 fs[i].sy))
theorem Files.keep {w w' : World} {B : Nat} {v : Value} {fs : List Fl} (h : Files w B v fs) (hb : Below B w w') : Files w' B v fs := by
  obtain ⟨a, c, rfl, h1, h2, h3⟩ := h
  refine ⟨a, c, rfl, h1, h2, fun hp => ?_⟩
  obtain ⟨b, off, rfl, hlt, hc⟩ := h3 hp
  exact ⟨b, off, rfl, hlt, fun i hi => ⟨(hb.cell (by exact hlt)).trans (hc i hi).1, (hb.cell (by exact hlt)).trans (hc i hi).2.1, (hb.cell (by exact hlt)).trans (hc i hi).2.2⟩⟩
theorem Files.more {w : World} {B B' : Nat} {v : Value} {fs : List Fl} (h : Files w B v fs) (hb : B ≤ B') : Files w B' v fs := by
  obtain ⟨a, c, rfl, h1, h2, h3⟩ := h
  refine ⟨a, c, rfl, h1, h2, fun hp => ?_⟩
  obtain ⟨b, off, rfl, hlt, hc⟩ := h3 hp
  exact ⟨b, off, rfl, by omega, hc⟩

/-- Whether file i is right where it stands. -/
def okAt (fs : List Fl) (i : Nat) : Bool :=
  match fs[i]? with
  | none => true
  | some f => (match i with
      | 0 => true
      | j + 1 => match fs[j]? with
        | none => true
        | some g => Op.bytesLess g.nm.toList f.nm.toList) && !(decide (f.sy < 0)) && !(decide ((f.da.size : Int) < f.sy))
def okTo (fs : List Fl) (k : Nat) : Bool := (List.range k).all (okAt fs)
/-- The error of a disk that has these files. -/
def chkN (fs : List Fl) : Nat := if 4096 < fs.length then 10 else if okTo fs fs.length = true then 0 else 10
theorem okTo_succ (fs : List Fl) (k : Nat) : okTo fs (k + 1) = (okTo fs k && okAt fs k) := by
  unfold okTo; rw [List.range_succ, List.all_append]; simp
theorem okTo_le (fs : List Fl) (k j : Nat) (h : k ≤ j) (hj : okTo fs j = true) : okTo fs k = true := by
  unfold okTo at *
  rw [List.all_eq_true] at *
  intro i hi
  exact hj i (List.mem_range.2 (by have := List.mem_range.1 hi; omega))
theorem chk_bad (fs : List Fl) (k : Nat) (h : k < fs.length) (hk : okAt fs k = false) : chkN fs = 10 := by
  unfold chkN
  split
  · rfl
  · rw [if_neg]
    intro he
    have := okTo_le fs (k + 1) _ (by omega) he
    rw [okTo_succ, hk] at this
    simp at this
theorem chk_good (fs : List Fl) (h : ¬ 4096 < fs.length) (hk : okTo fs fs.length = true) : chkN fs = 0 := by
  unfold chkN; rw [if_neg h, if_pos hk]
theorem okAt_zero (fs : List Fl) (h : 0 < fs.length) : okAt fs 0 = (!(decide (fs[0].sy < 0)) && !(decide ((fs[0].da.size : Int) < fs[0].sy))) := by
  unfold okAt
  rw [List.getElem?_eq_getElem h]
  simp
theorem okAt_succ (fs : List Fl) (j : Nat) (h : j + 1 < fs.length) : okAt fs (j + 1) = (Op.bytesLess fs[j].nm.toList fs[j + 1].nm.toList && !(decide (fs[j + 1].sy < 0)) && !(decide ((fs[j + 1].da.size : Int) < fs[j + 1].sy))) := by
  unfold okAt
  rw [List.getElem?_eq_getElem h]
  simp only
  rw [List.getElem?_eq_getElem (by omega)]

set_option maxRecDepth 100000 in
set_option maxHeartbeats 1000000 in
theorem check_own (v : Value) (dn : Bool) (fu : Int) (fs : List Fl) (w : World) (hv : Files w w.heap.size v fs) :
    Calls Try.prog 19 #[.agg #[v, .bool dn, .int .i64 fu]] w fun e w' => e = .returned (.int .i64 (chkN fs : Nat)) ∧ Below w.heap.size w w' := by
  obtain ⟨a, c, rfl, hl, hs, hc⟩ := hv
  have HS := Lib.hid hs
  have HC := Lib.hid hc
  clear hs hc
  by_cases hbig : 4096 < fs.length
  · have HN : Hid (chkN fs = 10) := by show _ = _; unfold chkN; rw [if_pos hbig]
    have t1 : (4096 : Int) < (fs.length : Int) := by omega
    go_enter Try.func19, Try.ntmps19
    go_wp2
    go_ret
    exact ⟨by rw [HN.out]; rfl, (Below.refl _ _).alloc (Nat.le_refl _) _⟩
  · have t1 : (fs.length : Int) ≤ 4096 := by omega
    go_enter Try.func19, Try.ntmps19
    have FB : ∀ {wx : World}, Below (w.heap.size + 1) (w.alloc (.cells #[.slice a fs.length c, .bool dn, .int .i64 fu] 27)) wx → Below w.heap.size w wx :=
      fun h => ((Below.refl _ _).alloc (Nat.le_refl _) _).trans (h.mono (by omega))
    go_wp2
    go_loopg [12] fs.length (fun g i wx => ∃ k : Nat, k + g = fs.length ∧ i = .int .i64 k ∧ Aside (okTo fs k = true) ∧ Below (w.heap.size + 1) (w.alloc (.cells #[.slice a fs.length c, .bool dn, .int .i64 fu] 27)) wx)
    case atStart => exact ⟨0, by omega, rfl, rfl, Below.refl _ _⟩
    case round =>
      obtain ⟨k, hkg, rfl, HO, hbx⟩ := hrel
      cases gk with
      | zero =>
        obtain rfl : k = fs.length := by omega
        have HN := Lib.hid (chk_good fs hbig HO.out)
        have HX := Lib.hid hbx
        clear hkg hbx
        go_wp2
        go_ret
        exact ⟨by rw [HN.out]; rfl, ((Below.refl _ _).alloc (Nat.le_refl _) _).trans (HX.out.mono (by omega))⟩
      | succ g =>
        have hlk : k < fs.length := by omega
        have HG := Lib.hid hkg
        clear hkg
        obtain ⟨b, off, rfl, hblt, hc⟩ := HC.out (by omega)
        have hd0 : wr.cell? ⟨w.heap.size, 0, none⟩ = some (.slice (some ⟨b, off, none⟩) fs.length c) := by rw [hbx.cell (by simp)]; simp [go_sem]
        have keep : ∀ o u, w.cell? ⟨b, o, none⟩ = some u → wr.cell? ⟨b, o, none⟩ = some u := by
          intro o u hu
          rw [hbx.cell (by simp; omega), World.cell?_alloc_lt _ _ _ (by exact hblt)]
          exact hu
        obtain ⟨c1, c2, c3⟩ := hc k hlk
        have hc1 := keep _ _ c1
        have hc2 := keep _ _ c2
        have hc3 := keep _ _ c3
        have hsz := hbx.size
        simp at hsz
        obtain ⟨hda, hs1, hs2⟩ := HS.out fs[k] (List.getElem_mem hlk)
        have hne : b ≠ wr.heap.size := by omega
        have HX := Lib.hid hbx
        have HKeep := Lib.hid keep
        have HCC := Lib.hid hc
        clear hbx keep hc c1 c2 c3
        by_cases hk0 : k = 0
        · subst hk0
          have HA := Lib.hid (okAt_zero fs hlk)
          simp only [Nat.zero_mul, Nat.add_zero] at hc1 hc2 hc3
          generalize fs[0] = f at *
          have t3 : decide ((0 : Int) < 0) = false := by simp
          by_cases hs0 : f.sy < 0
          · have HN := Lib.hid (chk_bad fs 0 hlk (by rw [HA.out]; simp [hs0]))
            go_wp2
            go_quiet (fail)
            go_wp2
            go_ret
            exact ⟨by rw [HN.out]; rfl, bdN (((FB HX.out).alloc (by omega) _)) _⟩
          · by_cases hs3 : (f.da.size : Int) < f.sy
            · have HN := Lib.hid (chk_bad fs 0 hlk (by rw [HA.out]; simp [hs3]))
              have t4 : decide (f.sy < 0) = false := by simpa using hs0
              go_wp2
              go_quiet (fail)
              go_wp2
              go_ret
              exact ⟨by rw [HN.out]; rfl, bdN (((FB HX.out).alloc (by omega) _)) _⟩
            · have HN := Lib.hid (show okAt fs 0 = true by rw [HA.out]; simp; omega)
              have t4 : decide (f.sy < 0) = false := by simpa using hs0
              have t5 : decide ((f.da.size : Int) < f.sy) = false := by simpa using hs3
              go_wp2
              go_quiet (fail)
              go_wp2
              go_roundg g
              case measure => omega
              case rel => exact ⟨1, by have := HG.out; omega, rfl, by show _ = _; rw [okTo_succ, HO.out, HN.out]; rfl, bdN ((HX.out.alloc (by omega) _)) _⟩
        · obtain ⟨j, rfl⟩ : ∃ j, k = j + 1 := ⟨k - 1, by omega⟩
          have HA := Lib.hid (okAt_succ fs j hlk)
          obtain ⟨d1, d2, d3⟩ := HCC.out j (by omega)
          have hp1 := HKeep.out _ _ d1
          clear d1 d2 d3 hk0
          generalize fs[j + 1] = f at *
          generalize fs[j] = p at *
          have t2 : (0 : Int) < (j : Int) + 1 := by omega
          have hA0 : ∀ o, (wr.alloc o).cell? ⟨w.heap.size, 0, none⟩ = some (.slice (some ⟨b, off, none⟩) fs.length c) := fun o => by rw [World.cell?_alloc_lt _ _ _ (by show w.heap.size < _; omega)]; exact hd0
          have hA1 : ∀ o, (wr.alloc o).cell? ⟨b, off + j * 3, none⟩ = some (.string p.nm) := fun o => by rw [World.cell?_alloc_lt _ _ _ (by show b < _; omega)]; exact hp1
          have t6 : IntKind.i64.wrap ((j : Int) + 1 - 1) = (j : Int) := by rw [IntKind.wrap_i64]; omega
          have t7 : (0 : Int) ≤ (j : Int) := by omega
          have t8 : (j : Int) < (fs.length : Int) := by omega
          cases hB : Op.bytesLess p.nm.toList f.nm.toList
          · have HN := Lib.hid (chk_bad fs (j + 1) hlk (by rw [HA.out, hB]; simp))
            go_wp2
            go_quiet (fail)
            go_wp2
            go_ret
            exact ⟨by rw [HN.out]; rfl, bdN (((FB HX.out).alloc (by omega) _)) _⟩
          · by_cases hs0 : f.sy < 0
            · have HN := Lib.hid (chk_bad fs (j + 1) hlk (by rw [HA.out]; simp [hs0]))
              go_wp2
              go_quiet (fail)
              go_wp2
              go_ret
              exact ⟨by rw [HN.out]; rfl, bdN (((FB HX.out).alloc (by omega) _)) _⟩
            · by_cases hs3 : (f.da.size : Int) < f.sy
              · have HN := Lib.hid (chk_bad fs (j + 1) hlk (by rw [HA.out]; simp [hs3]))
                have t4 : decide (f.sy < 0) = false := by simpa using hs0
                go_wp2
                go_quiet (fail)
                go_wp2
                go_ret
                exact ⟨by rw [HN.out]; rfl, bdN (((FB HX.out).alloc (by omega) _)) _⟩
              · have HN := Lib.hid (show okAt fs (j + 1) = true by rw [HA.out, hB]; simp; omega)
                have t4 : decide (f.sy < 0) = false := by simpa using hs0
                have t5 : decide ((f.da.size : Int) < f.sy) = false := by simpa using hs3
                go_wp2
                go_quiet (fail)
                go_wp2
                go_roundg g
                case measure => omega
                case rel => exact ⟨j + 2, by have := HG.out; omega, by go_num, by show _ = _; rw [okTo_succ, HO.out, HN.out]; rfl, bdN ((HX.out.alloc (by omega) _)) _⟩
end Dk
end Go.Proofs.Ytjgdmdgiicpemaa
