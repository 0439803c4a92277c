/-
  Merged: Disk, DiskRef, DiskFind, DiskAsk, DiskRead, DiskOwn, DiskRefuse, DiskChanged, DiskInsert, DiskDo, DiskRet, DiskDoD, PackMath, PackSum.
-/
import Derived.Test.YthbmnkeigmbbdaaGreatRows
import Derived.WalkKit
import Derived.WalkLawsBesides
import Derived.WalkSpells
import Derived.Lib.Hide
import Derived.Deep.LoopGhost
import Derived.Deep.QuietTactic
import Derived.BigQuiet
import Derived.Shelf.SlSorted.Search
import Derived.Laws.OwnMore
import Derived.Deep.OwnRows
import Derived.Lib.SmallJoins
import Derived.RegionTactic
import Derived.Laws.ResultCell
import Derived.Test.YthbmnkeigmbbdaaGreatPkQ
import Derived.Laws.BitsAllLaws
import Derived.Laws.BitsLemmas
/-
  DISKS as lists of files: a slice of files in memory; which disks are right.
-/
namespace Go.Proofs.YthbmnkeigmbbdaaGreat
open Go.RowKit
namespace Dk

theorem bdN {B : Nat} {a w : World} (h : Below B a w) (n : Nat) : Below B a (w.drewN n) := ⟨h.os, h.tape, h.output, h.size, h.block⟩

structure Fl where
  nm : ByteArray
  da : ByteArray
  sy : Int

/-- v is a slice of the files fs, in memory below block B. -/
def Files (w : World) (B : Nat) (v : Value) (fs : List Fl) : Prop :=
  ∃ a c, v = .slice a fs.length c ∧ fs.length ≤ 4611686018427387904 ∧ (∀ f ∈ fs, f.da.size ≤ maxLen ∧ -9223372036854775808 ≤ f.sy ∧ f.sy ≤ 9223372036854775807) ∧
    (0 < fs.length → ∃ b off, a = some ⟨b, off, none⟩ ∧ b < B ∧ ∀ i (h : i < fs.length),
      w.cell? ⟨b, off + i * 3, none⟩ = some (.string fs[i].nm) ∧ w.cell? ⟨b, off + i * 3 + 1, none⟩ = some (.string fs[i].da) ∧ w.cell? ⟨b, off + i * 3 + 2, none⟩ = some (.int .i64 fs[i].sy))
theorem Files.keep {w w' : World} {B : Nat} {v : Value} {fs : List Fl} (h : Files w B v fs) (hb : Below B w w') : Files w' B v fs := by
  obtain ⟨a, c, rfl, h1, h2, h3⟩ := h
  refine ⟨a, c, rfl, h1, h2, fun hp => ?_⟩
  obtain ⟨b, off, rfl, hlt, hc⟩ := h3 hp
  exact ⟨b, off, rfl, hlt, fun i hi => ⟨(hb.cell (by exact hlt)).trans (hc i hi).1, (hb.cell (by exact hlt)).trans (hc i hi).2.1, (hb.cell (by exact hlt)).trans (hc i hi).2.2⟩⟩
theorem Files.more {w : World} {B B' : Nat} {v : Value} {fs : List Fl} (h : Files w B v fs) (hb : B ≤ B') : Files w B' v fs := by
  obtain ⟨a, c, rfl, h1, h2, h3⟩ := h
  refine ⟨a, c, rfl, h1, h2, fun hp => ?_⟩
  obtain ⟨b, off, rfl, hlt, hc⟩ := h3 hp
  exact ⟨b, off, rfl, by omega, hc⟩

/-- Whether file i is right where it stands. -/
def okAt (fs : List Fl) (i : Nat) : Bool :=
  match fs[i]? with
  | none => true
  | some f => (match i with
      | 0 => true
      | j + 1 => match fs[j]? with
        | none => true
        | some g => Op.bytesLess g.nm.toList f.nm.toList) && !(decide (f.sy < 0)) && !(decide ((f.da.size : Int) < f.sy))
def okTo (fs : List Fl) (k : Nat) : Bool := (List.range k).all (okAt fs)
/-- The error of a disk that has these files. -/
def chkN (fs : List Fl) : Nat := if 4096 < fs.length then 10 else if okTo fs fs.length = true then 0 else 10
theorem okTo_succ (fs : List Fl) (k : Nat) : okTo fs (k + 1) = (okTo fs k && okAt fs k) := by
  unfold okTo; rw [List.range_succ, List.all_append]; simp
theorem okTo_le (fs : List Fl) (k j : Nat) (h : k ≤ j) (hj : okTo fs j = true) : okTo fs k = true := by
  unfold okTo at *
  rw [List.all_eq_true] at *
  intro i hi
  exact hj i (List.mem_range.2 (by have := List.mem_range.1 hi; omega))
theorem chk_bad (fs : List Fl) (k : Nat) (h : k < fs.length) (hk : okAt fs k = false) : chkN fs = 10 := by
  unfold chkN
  split
  · rfl
  · rw [if_neg]
    intro he
    have := okTo_le fs (k + 1) _ (by omega) he
    rw [okTo_succ, hk] at this
    simp at this
theorem chk_good (fs : List Fl) (h : ¬ 4096 < fs.length) (hk : okTo fs fs.length = true) : chkN fs = 0 := by
  unfold chkN; rw [if_neg h, if_pos hk]
theorem okAt_zero (fs : List Fl) (h : 0 < fs.length) : okAt fs 0 = (!(decide (fs[0].sy < 0)) && !(decide ((fs[0].da.size : Int) < fs[0].sy))) := by
  unfold okAt
  rw [List.getElem?_eq_getElem h]
  simp
theorem okAt_succ (fs : List Fl) (j : Nat) (h : j + 1 < fs.length) : okAt fs (j + 1) = (Op.bytesLess fs[j].nm.toList fs[j + 1].nm.toList && !(decide (fs[j + 1].sy < 0)) && !(decide ((fs[j + 1].da.size : Int) < fs[j + 1].sy))) := by
  unfold okAt
  rw [List.getElem?_eq_getElem h]
  simp only
  rw [List.getElem?_eq_getElem (by omega)]

set_option maxRecDepth 100000 in
set_option maxHeartbeats 1000000 in
theorem check_own (v : Value) (dn : Bool) (fu : Int) (fs : List Fl) (w : World) (hv : Files w w.heap.size v fs) :
    Calls Tryz.prog 186 #[.agg #[v, .bool dn, .int .i64 fu]] w fun e w' => e = .returned (.int .i64 (chkN fs : Nat)) ∧ Below w.heap.size w w' := by
  obtain ⟨a, c, rfl, hl, hs, hc⟩ := hv
  have HS := Lib.hid hs
  have HC := Lib.hid hc
  clear hs hc
  by_cases hbig : 4096 < fs.length
  · have HN : Hid (chkN fs = 10) := by show _ = _; unfold chkN; rw [if_pos hbig]
    have t1 : (4096 : Int) < (fs.length : Int) := by omega
    go_enter Tryz.func186, Tryz.ntmps186
    go_wp2
    go_ret
    exact ⟨by rw [HN.out]; rfl, (Below.refl _ _).alloc (Nat.le_refl _) _⟩
  · have t1 : (fs.length : Int) ≤ 4096 := by omega
    go_enter Tryz.func186, Tryz.ntmps186
    have FB : ∀ {wx : World}, Below (w.heap.size + 1) (w.alloc (.cells #[.slice a fs.length c, .bool dn, .int .i64 fu] 110)) wx → Below w.heap.size w wx :=
      fun h => ((Below.refl _ _).alloc (Nat.le_refl _) _).trans (h.mono (by omega))
    go_wp2
    go_loopg [12] fs.length (fun g i wx => ∃ k : Nat, k + g = fs.length ∧ i = .int .i64 k ∧ Aside (okTo fs k = true) ∧ Below (w.heap.size + 1) (w.alloc (.cells #[.slice a fs.length c, .bool dn, .int .i64 fu] 110)) wx)
    case atStart => exact ⟨0, by omega, rfl, rfl, Below.refl _ _⟩
    case round =>
      obtain ⟨k, hkg, rfl, HO, hbx⟩ := hrel
      cases gk with
      | zero =>
        obtain rfl : k = fs.length := by omega
        have HN := Lib.hid (chk_good fs hbig HO.out)
        have HX := Lib.hid hbx
        clear hkg hbx
        go_wp2
        go_ret
        exact ⟨by rw [HN.out]; rfl, ((Below.refl _ _).alloc (Nat.le_refl _) _).trans (HX.out.mono (by omega))⟩
      | succ g =>
        have hlk : k < fs.length := by omega
        have HG := Lib.hid hkg
        clear hkg
        obtain ⟨b, off, rfl, hblt, hc⟩ := HC.out (by omega)
        have hd0 : wr.cell? ⟨w.heap.size, 0, none⟩ = some (.slice (some ⟨b, off, none⟩) fs.length c) := by rw [hbx.cell (by simp)]; simp [go_sem]
        have keep : ∀ o u, w.cell? ⟨b, o, none⟩ = some u → wr.cell? ⟨b, o, none⟩ = some u := by
          intro o u hu
          rw [hbx.cell (by simp; omega), World.cell?_alloc_lt _ _ _ (by exact hblt)]
          exact hu
        obtain ⟨c1, c2, c3⟩ := hc k hlk
        have hc1 := keep _ _ c1
        have hc2 := keep _ _ c2
        have hc3 := keep _ _ c3
        have hsz := hbx.size
        simp at hsz
        obtain ⟨hda, hs1, hs2⟩ := HS.out fs[k] (List.getElem_mem hlk)
        have hne : b ≠ wr.heap.size := by omega
        have HX := Lib.hid hbx
        have HKeep := Lib.hid keep
        have HCC := Lib.hid hc
        clear hbx keep hc c1 c2 c3
        by_cases hk0 : k = 0
        · subst hk0
          have HA := Lib.hid (okAt_zero fs hlk)
          simp only [Nat.zero_mul, Nat.add_zero] at hc1 hc2 hc3
          generalize fs[0] = f at *
          have t3 : decide ((0 : Int) < 0) = false := by simp
          by_cases hs0 : f.sy < 0
          · have HN := Lib.hid (chk_bad fs 0 hlk (by rw [HA.out]; simp [hs0]))
            go_wp2
            go_quiet (fail)
            go_wp2
            go_ret
            exact ⟨by rw [HN.out]; rfl, bdN (((FB HX.out).alloc (by omega) _)) _⟩
          · by_cases hs3 : (f.da.size : Int) < f.sy
            · have HN := Lib.hid (chk_bad fs 0 hlk (by rw [HA.out]; simp [hs3]))
              have t4 : decide (f.sy < 0) = false := by simpa using hs0
              go_wp2
              go_quiet (fail)
              go_wp2
              go_ret
              exact ⟨by rw [HN.out]; rfl, bdN (((FB HX.out).alloc (by omega) _)) _⟩
            · have HN := Lib.hid (show okAt fs 0 = true by rw [HA.out]; simp; omega)
              have t4 : decide (f.sy < 0) = false := by simpa using hs0
              have t5 : decide ((f.da.size : Int) < f.sy) = false := by simpa using hs3
              go_wp2
              go_quiet (fail)
              go_wp2
              go_roundg g
              case measure => omega
              case rel => exact ⟨1, by have := HG.out; omega, rfl, by show _ = _; rw [okTo_succ, HO.out, HN.out]; rfl, bdN ((HX.out.alloc (by omega) _)) _⟩
        · obtain ⟨j, rfl⟩ : ∃ j, k = j + 1 := ⟨k - 1, by omega⟩
          have HA := Lib.hid (okAt_succ fs j hlk)
          obtain ⟨d1, d2, d3⟩ := HCC.out j (by omega)
          have hp1 := HKeep.out _ _ d1
          clear d1 d2 d3 hk0
          generalize fs[j + 1] = f at *
          generalize fs[j] = p at *
          have t2 : (0 : Int) < (j : Int) + 1 := by omega
          have hA0 : ∀ o, (wr.alloc o).cell? ⟨w.heap.size, 0, none⟩ = some (.slice (some ⟨b, off, none⟩) fs.length c) := fun o => by rw [World.cell?_alloc_lt _ _ _ (by show w.heap.size < _; omega)]; exact hd0
          have hA1 : ∀ o, (wr.alloc o).cell? ⟨b, off + j * 3, none⟩ = some (.string p.nm) := fun o => by rw [World.cell?_alloc_lt _ _ _ (by show b < _; omega)]; exact hp1
          have t6 : IntKind.i64.wrap ((j : Int) + 1 - 1) = (j : Int) := by rw [IntKind.wrap_i64]; omega
          have t7 : (0 : Int) ≤ (j : Int) := by omega
          have t8 : (j : Int) < (fs.length : Int) := by omega
          cases hB : Op.bytesLess p.nm.toList f.nm.toList
          · have HN := Lib.hid (chk_bad fs (j + 1) hlk (by rw [HA.out, hB]; simp))
            go_wp2
            go_quiet (fail)
            go_wp2
            go_ret
            exact ⟨by rw [HN.out]; rfl, bdN (((FB HX.out).alloc (by omega) _)) _⟩
          · by_cases hs0 : f.sy < 0
            · have HN := Lib.hid (chk_bad fs (j + 1) hlk (by rw [HA.out]; simp [hs0]))
              go_wp2
              go_quiet (fail)
              go_wp2
              go_ret
              exact ⟨by rw [HN.out]; rfl, bdN (((FB HX.out).alloc (by omega) _)) _⟩
            · by_cases hs3 : (f.da.size : Int) < f.sy
              · have HN := Lib.hid (chk_bad fs (j + 1) hlk (by rw [HA.out]; simp [hs3]))
                have t4 : decide (f.sy < 0) = false := by simpa using hs0
                go_wp2
                go_quiet (fail)
                go_wp2
                go_ret
                exact ⟨by rw [HN.out]; rfl, bdN (((FB HX.out).alloc (by omega) _)) _⟩
              · have HN := Lib.hid (show okAt fs (j + 1) = true by rw [HA.out, hB]; simp; omega)
                have t4 : decide (f.sy < 0) = false := by simpa using hs0
                have t5 : decide ((f.da.size : Int) < f.sy) = false := by simpa using hs3
                go_wp2
                go_quiet (fail)
                go_wp2
                go_roundg g
                case measure => omega
                case rel => exact ⟨j + 2, by have := HG.out; omega, by go_num, by show _ = _; rw [okTo_succ, HO.out, HN.out]; rfl, bdN ((HX.out.alloc (by omega) _)) _⟩
end Dk
end Go.Proofs.YthbmnkeigmbbdaaGreat

/-
  CONTRACT: the document's own Check.
-/
namespace Go.Proofs.YthbmnkeigmbbdaaGreat
open Go.RowKit
namespace Dk

end Dk
end Go.Proofs.YthbmnkeigmbbdaaGreat

/-
  WHERE A FILE IS: disk.find (sort.Search with a closure), and the place that the first file of that name has.
-/
namespace Go.Proofs.YthbmnkeigmbbdaaGreat
open Go.RowKit Go.Lib Go.Sort
namespace Dk
def search_ren : Go.Shelf.Ren := ⟨fun | 16 => 190 | n => n, fun | 3 => 3 | 4 => 4 | 35 => 188 | 38 => 126 | n => n, fun n => n⟩
theorem search : SlLaysO.n16 Tryz.prog search_ren :=
  { mixed := by kernel_rfl
    f16 := Tryz.func190.trans (congrArg some (by kernel_rfl))
    t3 := Tryz.underlying3
    a3 := Tryz.isAgg3
    z3 := Tryz.sizeOf3
    v3 := Tryz.zeroValue3
    t4 := Tryz.underlying4
    a4 := Tryz.isAgg4
    z4 := Tryz.sizeOf4
    v4 := Tryz.zeroValue4
    t35 := Tryz.underlying188
    a35 := Tryz.isAgg188
    z35 := Tryz.sizeOf188
    v35 := Tryz.zeroValue188
    t38 := Tryz.underlying126
    a38 := Tryz.isAgg126
    z38 := Tryz.sizeOf126
    v38 := Tryz.zeroValue126 }

def geA (fs : List Fl) (nm : ByteArray) (i : Nat) : Bool := match fs[i]? with | none => true | some f => !(Op.bytesLess f.nm.toList nm.toList)
def lbN (fs : List Fl) (nm : ByteArray) : Nat := (List.range fs.length).countP (fun i => !(geA fs nm i))
def idxN (fs : List Fl) (nm : ByteArray) : Nat := fs.findIdx (fun f => f.nm.toList == nm.toList)
def hasN (fs : List Fl) (nm : ByteArray) : Bool := decide (idxN fs nm < fs.length)

theorem first_spec (p : Nat → Bool) (n : Nat) (hm : ∀ a b, a ≤ b → b < n → p a = true → p b = true) :
    (List.range n).countP (fun i => !(p i)) ≤ n ∧ (∀ i, i < (List.range n).countP (fun i => !(p i)) → p i = false) ∧ (∀ i, (List.range n).countP (fun i => !(p i)) ≤ i → i < n → p i = true) := by
  induction n with
  | zero => simp
  | succ n ih =>
    obtain ⟨h1, h2, h3⟩ := ih (fun a b hab hb => hm a b hab (by omega))
    rw [List.range_succ, List.countP_append]
    cases hp : p n with
    | true =>
      have e : List.countP (fun i => !(p i)) [n] = 0 := by simp [hp]
      rw [e, Nat.add_zero]
      refine ⟨by omega, h2, fun i hi hin => ?_⟩
      by_cases he : i = n
      · rw [he]; exact hp
      · exact h3 i hi (by omega)
    | false =>
      have e : List.countP (fun i => !(p i)) [n] = 1 := by simp [hp]
      have hk : (List.range n).countP (fun i => !(p i)) = n := by
        by_cases hlt : (List.range n).countP (fun i => !(p i)) < n
        · have := hm (n - 1) n (by omega) (by omega) (h3 _ (by omega) (by omega))
          rw [hp] at this; cases this
        · omega
      rw [e, hk]
      refine ⟨by omega, fun i hi => ?_, fun i hi hin => by omega⟩
      by_cases he : i = n
      · rw [he]; exact hp
      · exact h2 i (by omega)

theorem lt_trans' (a b c : List UInt8) (h : Op.bytesLess a b = true) (h2 : Op.bytesLess b c = true) : Op.bytesLess a c = true := by
  rw [Go.Proofs.bytesLess_eq] at *
  simp only [decide_eq_true_eq] at *
  exact List.lt_trans h h2
theorem lt_irrefl' (a : List UInt8) : Op.bytesLess a a = false := by
  rw [Go.Proofs.bytesLess_eq]; simp [List.lt_irrefl]
theorem okAt_of (fs : List Fl) (h : okTo fs fs.length = true) (i : Nat) (hi : i < fs.length) : okAt fs i = true := by
  unfold okTo at h
  rw [List.all_eq_true] at h
  exact h i (List.mem_range.2 hi)
theorem step_lt (fs : List Fl) (h : okTo fs fs.length = true) (i : Nat) (hi : i + 1 < fs.length) : Op.bytesLess fs[i].nm.toList fs[i + 1].nm.toList = true := by
  have := okAt_of fs h (i + 1) hi
  rw [okAt_succ fs i hi] at this
  simp only [Bool.and_eq_true] at this
  exact this.1.1
theorem rise (fs : List Fl) (h : okTo fs fs.length = true) (i : Nat) : ∀ j (hij : i < j) (hj : j < fs.length), Op.bytesLess fs[i].nm.toList fs[j].nm.toList = true
  | 0, hij, _ => by omega
  | j + 1, hij, hj => by
    have hs := step_lt fs h j hj
    by_cases he : i = j
    · subst he; exact hs
    · exact lt_trans' _ _ _ (rise fs h i j (by omega) (by omega)) hs
theorem geA_some (fs : List Fl) (nm : ByteArray) (i : Nat) (hi : i < fs.length) : geA fs nm i = !(Op.bytesLess fs[i].nm.toList nm.toList) := by
  unfold geA; rw [List.getElem?_eq_getElem hi]
theorem geA_mono (fs : List Fl) (nm : ByteArray) (h : okTo fs fs.length = true) (a b : Nat) (hab : a ≤ b) (hb : b < fs.length) (hp : geA fs nm a = true) : geA fs nm b = true := by
  by_cases he : a = b
  · rw [← he]; exact hp
  · have hr := rise fs h a b (by omega) hb
    rw [geA_some fs nm a (by omega)] at hp
    rw [geA_some fs nm b hb]
    cases hx : Op.bytesLess fs[b].nm.toList nm.toList with
    | false => rfl
    | true =>
      have := lt_trans' _ _ _ hr hx
      rw [this] at hp; cases hp
theorem lb_spec (fs : List Fl) (nm : ByteArray) (h : okTo fs fs.length = true) :
    lbN fs nm ≤ fs.length ∧ (∀ i (hi : i < fs.length), i < lbN fs nm → Op.bytesLess fs[i].nm.toList nm.toList = true) ∧ (∀ i (hi : i < fs.length), lbN fs nm ≤ i → Op.bytesLess fs[i].nm.toList nm.toList = false) := by
  obtain ⟨h1, h2, h3⟩ := first_spec (geA fs nm) fs.length (fun a b => geA_mono fs nm h a b)
  refine ⟨h1, fun i hi hl => ?_, fun i hi hl => ?_⟩
  · have := h2 i hl
    rw [geA_some fs nm i hi] at this
    simpa using this
  · have := h3 i hl hi
    rw [geA_some fs nm i hi] at this
    simpa using this
theorem idx_at (fs : List Fl) (nm : ByteArray) (h : idxN fs nm < fs.length) : fs[idxN fs nm].nm.toList = nm.toList := by
  have := List.findIdx_getElem (p := fun f : Fl => f.nm.toList == nm.toList) (xs := fs) (w := h)
  exact eq_of_beq this
theorem idx_lt (fs : List Fl) (nm : ByteArray) (i : Nat) (hi : i < fs.length) (he : fs[i].nm.toList = nm.toList) : idxN fs nm < fs.length := by
  unfold idxN
  exact List.findIdx_lt_length_of_exists ⟨fs[i], List.getElem_mem hi, by rw [he]; simp⟩
theorem lb_idx (fs : List Fl) (nm : ByteArray) (h : okTo fs fs.length = true) (hi : idxN fs nm < fs.length) : lbN fs nm = idxN fs nm := by
  obtain ⟨h1, h2, h3⟩ := lb_spec fs nm h
  have ha := idx_at fs nm hi
  by_cases hl : idxN fs nm < lbN fs nm
  · have := h2 _ hi hl
    rw [ha, lt_irrefl'] at this; cases this
  · by_cases hg : lbN fs nm < idxN fs nm
    · have hr := rise fs h _ _ hg hi
      rw [ha, h3 _ (by omega) (Nat.le_refl _)] at hr; cases hr
    · omega
theorem has_lb (fs : List Fl) (nm : ByteArray) (h : okTo fs fs.length = true) (hl : lbN fs nm < fs.length) : hasN fs nm = (fs[lbN fs nm].nm.toList == nm.toList) := by
  unfold hasN
  cases hb : (fs[lbN fs nm].nm.toList == nm.toList) with
  | true => rw [decide_eq_true_eq]; exact idx_lt fs nm _ hl (eq_of_beq hb)
  | false =>
    rw [decide_eq_false_iff_not]
    intro hi
    have e := lb_idx fs nm h hi
    have ha := idx_at fs nm hi
    simp only [← e] at ha
    rw [ha] at hb
    simp at hb
theorem has_none (fs : List Fl) (nm : ByteArray) (h : okTo fs fs.length = true) (hl : ¬ lbN fs nm < fs.length) : hasN fs nm = false := by
  unfold hasN
  rw [decide_eq_false_iff_not]
  intro hi
  have e := lb_idx fs nm h hi
  omega

set_option maxHeartbeats 2000000 in
theorem closure (ba bx b off n c : Nat) (nm y : ByteArray) (i : Nat) (W : World) (hi : i < n)
    (ha : W.cell? ⟨ba, 0, none⟩ = some (.slice (some ⟨b, off, none⟩) n c)) (hx : W.cell? ⟨bx, 0, none⟩ = some (.string nm)) (hc : W.cell? ⟨b, off + i * 3, none⟩ = some (.string y)) :
    Calls Tryz.prog 191 (#[.int .i64 i] ++ #[.pointer (some ⟨ba, 0, none⟩), .pointer (some ⟨bx, 0, none⟩)]) W fun e w' => e = .returned (.bool (!(Op.bytesLess y.toList nm.toList))) ∧ ∃ q, w' = W.drewN q := by
  have hiz : (i : Int) < (n : Int) := by omega
  have hi0 : (0 : Int) ≤ (i : Int) := by omega
  go_enter Tryz.func191, Tryz.ntmps191
  go_wp2
  go_quiet (fail)
  go_wp2
  go_ret
  exact ⟨rfl, _, rfl⟩

def Found (fs : List Fl) (nm : ByteArray) (e : Ending) : Prop := e = .returned (.tuple #[.int .i64 (lbN fs nm : Nat), .bool (hasN fs nm)])

set_option maxRecDepth 100000 in
set_option maxHeartbeats 2000000 in
theorem find_own (v : Value) (fs : List Fl) (nm : ByteArray) (w : World) (hv : Files w w.heap.size v fs) (h4k : fs.length ≤ 4096) (hok : okTo fs fs.length = true) :
    Calls Tryz.prog 131 #[v, .string nm] w fun e w' => Found fs nm e ∧ Below w.heap.size w w' := by
  obtain ⟨a, c, rfl, hl, hs, hc⟩ := hv
  have HH : Hid (lbN fs nm < fs.length → ∃ y, hasN fs nm = (y.toList == nm.toList) ∧ ∃ b off, a = some ⟨b, off, none⟩ ∧ b < w.heap.size ∧ w.cell? ⟨b, off + lbN fs nm * 3, none⟩ = some (.string y)) := by
    intro h
    obtain ⟨b, off, rfl, hb, hcc⟩ := hc (by omega)
    exact ⟨_, has_lb fs nm hok h, b, off, rfl, hb, (hcc _ h).1⟩
  have HN := Lib.hid (has_none fs nm hok)
  obtain ⟨W0, hW0⟩ : ∃ W0, W0 = (w.alloc (.cells #[.slice a fs.length c] 108)).alloc (.cells #[.string nm] 9) := ⟨_, rfl⟩
  have hsize : W0.heap.size = w.heap.size + 1 + 1 := by rw [hW0]; simp
  have ca : W0.cell? ⟨w.heap.size, 0, none⟩ = some (.slice a fs.length c) := by rw [hW0]; exact cell_alloc_sl _ (cell_new_sl w _ _)
  have cx : W0.cell? ⟨w.heap.size + 1, 0, none⟩ = some (.string nm) := by rw [hW0]; have := cell_new_sl (w.alloc (.cells #[.slice a fs.length c] 108)) (.string nm) 9; rwa [World.size_alloc] at this
  have keep : ∀ b o u, b < w.heap.size → w.cell? ⟨b, o, none⟩ = some u → W0.cell? ⟨b, o, none⟩ = some u := fun b o u hb hu => by rw [hW0]; exact cell_alloc_sl _ (cell_alloc_sl _ hu)
  have eg : ∀ args w, (callFunc 191 args).run Tryz.prog w = .ok (.enter 191 args) w := enters_of Tryz.func191 (by kernel_rfl) rfl
  have hS := Any.sort_Search search 191 #[.pointer (some ⟨w.heap.size, 0, none⟩), .pointer (some ⟨w.heap.size + 1, 0, none⟩)] fs.length (geA fs nm) W0 eg (by omega)
    (fun m os i hi => by
      obtain ⟨b, off, ha, hb, hcc⟩ := hc (by omega)
      rw [geA_some fs nm i hi]
      refine (closure w.heap.size (w.heap.size + 1) b off fs.length c nm fs[i].nm i _ hi (cell_grown (by show w.heap.size < W0.heap.size; omega) (by rw [← ha]; exact ca) m os) (cell_grown (by show w.heap.size + 1 < W0.heap.size; omega) cx m os) (cell_grown (by show b < W0.heap.size; omega) (keep b _ _ hb (hcc i hi).1) m os)).mono ?_
      rintro e w' ⟨he, q, hq⟩
      exact ⟨he, q, #[], by rw [hq, grow_empty]⟩)
    (fun a b hab hb h => geA_mono fs nm hok a b hab hb h)
  change Calls Tryz.prog 190 _ _ _ at hS
  have hS' : Calls Tryz.prog 190 #[.int .i64 fs.length, .func (.func 191) #[] #[.pointer (some ⟨w.heap.size, 0, none⟩), .pointer (some ⟨w.heap.size + 1, 0, none⟩)]] W0 (fun e w' => e = .returned (.int .i64 (lbN fs nm : Nat)) ∧ ∃ q os, w' = grow (W0.drewN q) os) := hS
  have HK := Lib.hid keep
  have hB0 : Below w.heap.size w W0 := by rw [hW0]; exact ((Below.refl _ w).alloc (Nat.le_refl _) _).alloc (by simp) _
  have HB0 := Lib.hid hB0
  have HS1 := Lib.hid hsize
  have hlb := (lb_spec fs nm hok).1
  unfold Found
  have HW := Lib.hid hW0
  clear hS hs hc keep hok hB0 hW0 hsize
  by_cases hlt : lbN fs nm < fs.length
  · obtain ⟨y, hy, b, off, rfl, hb, hcy⟩ := HH.out hlt
    have HY := Lib.hid hy
    generalize lbN fs nm = k at *
    generalize hasN fs nm = hv at *
    have c1 := HK.out b _ _ hb hcy
    have HCA := Lib.hid ca
    have HCX := Lib.hid cx
    have HC1 := Lib.hid c1
    clear c1 ca cx hcy hy
    have t1 : decide ((k : Int) < (fs.length : Int)) = true := by simpa using hlt
    have t2 : (k : Int) < (fs.length : Int) := by omega
    have t3 : (0 : Int) ≤ (k : Int) := by omega
    go_enter Tryz.func131, Tryz.ntmps131
    go_wp2_with (go_at_call 190; rw [← HW.out]; refine hS'.mono ?_; rintro e w' ⟨rfl, q, os, rfl⟩; have d1 := cell_grown (by rw [HS1.out]; show w.heap.size < _; omega) HCA.out q os; have d2 := cell_grown (by rw [HS1.out]; show w.heap.size + 1 < _; omega) HCX.out q os; have d3 := cell_grown (by rw [HS1.out]; show b < _; omega) HC1.out q os)
    go_quiet (fail)
    go_wp2
    go_ret2
    exact ⟨by rw [HY.out]; rfl, bdN (HB0.out.trans ((below_grown_sl w.heap.size W0 q os (by rw [HS1.out]; omega)))) _⟩
  · have HY := Lib.hid (HN.out hlt)
    generalize lbN fs nm = k at *
    generalize hasN fs nm = hv at *
    have HCA := Lib.hid ca
    have HCX := Lib.hid cx
    clear ca cx
    have t1 : decide ((k : Int) < (fs.length : Int)) = false := by simpa using hlt
    go_enter Tryz.func131, Tryz.ntmps131
    go_wp2_with (go_at_call 190; rw [← HW.out]; refine hS'.mono ?_; rintro e w' ⟨rfl, q, os, rfl⟩; have d1 := cell_grown (by rw [HS1.out]; show w.heap.size < _; omega) HCA.out q os; have d2 := cell_grown (by rw [HS1.out]; show w.heap.size + 1 < _; omega) HCX.out q os)
    go_quiet (fail)
    go_wp2
    go_ret2
    exact ⟨by rw [HY.out]; rfl, bdN (HB0.out.trans ((below_grown_sl w.heap.size W0 q os (by rw [HS1.out]; omega)))) _⟩

end Dk
end Go.Proofs.YthbmnkeigmbbdaaGreat

/-
  WHAT IS ASKED OF A DISK: whether it is ready, where a file is (the document's own search), what is read.
-/
namespace Go.Proofs.YthbmnkeigmbbdaaGreat
open Go.RowKit Go.Lib Go.Sort
namespace Dk

theorem Files.on {w w' : World} {B : Nat} {v : Value} {fs : List Fl} (h : Files w B v fs) (hb : Below B w w') (hB : B ≤ w'.heap.size) : Files w' w'.heap.size v fs := (h.keep hb).more hB
theorem Files.al {w : World} {v : Value} {fs : List Fl} (h : Files w w.heap.size v fs) (o : Obj) : Files (w.alloc o) (w.alloc o).heap.size v fs := h.on ((Below.refl _ _).alloc (Nat.le_refl _) _) (by simp)
theorem chk_two (fs : List Fl) : chkN fs = 0 ∨ chkN fs = 10 := by unfold chkN; split <;> (try split) <;> simp
theorem chk_fine (fs : List Fl) (h : chkN fs = 0) : fs.length ≤ 4096 ∧ okTo fs fs.length = true := by
  unfold chkN at h
  split at h
  · omega
  · split at h
    · exact ⟨by omega, by assumption⟩
    · omega
/-- Why one does not do what it is asked. -/
def rdN (fs : List Fl) (dn : Bool) : Nat := if chkN fs = 0 then (if dn then 8 else 0) else 10

theorem own_ok (v : Value) (dn : Bool) (fu : Int) (fs : List Fl) (w : World) (hv : Files w w.heap.size v fs) (h : chkN fs = 0) :
    Calls Tryz.prog 186 #[.agg #[v, .bool dn, .int .i64 fu]] w fun e w' => e = .returned (.int .i64 0) ∧ Below w.heap.size w w' := by
  have := check_own v dn fu fs w hv; rw [h] at this; exact this
theorem own_bad (v : Value) (dn : Bool) (fu : Int) (fs : List Fl) (w : World) (hv : Files w w.heap.size v fs) (h : chkN fs = 10) :
    Calls Tryz.prog 186 #[.agg #[v, .bool dn, .int .i64 fu]] w fun e w' => e = .returned (.int .i64 10) ∧ Below w.heap.size w w' := by
  have := check_own v dn fu fs w hv; rw [h] at this; exact this
theorem boxD {w w' : World} {v : Value} {dn : Bool} {fu : Int} (hb : Below (w.heap.size + 1) (w.alloc (.cells #[v, .bool dn, .int .i64 fu] 110)) w') :
    w'.cell? ⟨w.heap.size, 0, none⟩ = some v ∧ w'.cell? ⟨w.heap.size, 1, none⟩ = some (.bool dn) ∧ w'.cell? ⟨w.heap.size, 2, none⟩ = some (.int .i64 fu) :=
  ⟨by rw [hb.cell (by simp)]; simp [go_sem], by rw [hb.cell (by simp)]; simp [go_sem], by rw [hb.cell (by simp)]; simp [go_sem]⟩
theorem over {w w' : World} {o : Obj} (hb : Below (w.heap.size + 1) (w.alloc o) w') : Below w.heap.size w w' := ((Below.refl _ _).alloc (Nat.le_refl _) _).trans (hb.mono (by omega))
theorem Files.up {w w' : World} {o : Obj} {v : Value} {fs : List Fl} (h : Files w w.heap.size v fs) (hb : Below (w.heap.size + 1) (w.alloc o) w') : Files w' w'.heap.size v fs :=
  h.on (over hb) (by have := hb.size; simp at this; omega)

set_option maxHeartbeats 1000000 in
theorem ready_own (v : Value) (dn : Bool) (fu : Int) (fs : List Fl) (w : World) (hv : Files w w.heap.size v fs) :
    Calls Tryz.prog 130 #[.agg #[v, .bool dn, .int .i64 fu]] w fun e w' => e = .returned (.int .i64 (rdN fs dn : Nat)) ∧ Below w.heap.size w w' := by
  have HV := Lib.hid hv
  obtain ⟨a, c, rfl, -⟩ := hv
  rcases chk_two fs with h | h
  · have h0 := own_ok (.slice a fs.length c) dn fu fs (w.alloc (.cells #[.slice a fs.length c, .bool dn, .int .i64 fu] 110)) (HV.out.al _) h
    rw [World.size_alloc] at h0
    cases dn
    · have HN : Hid (rdN fs false = 0) := by show _ = _; unfold rdN; rw [if_pos h]; rfl
      clear h
      go_enter Tryz.func130, Tryz.ntmps130
      go_wp2_with (go_at_call 186; refine h0.mono ?_; rintro e w' ⟨rfl, hb⟩; obtain ⟨d1, d2, d3⟩ := boxD hb; have HB := Lib.hid hb; clear hb)
      go_ret
      exact ⟨by rw [HN.out]; rfl, over HB.out⟩
    · have HN : Hid (rdN fs true = 8) := by show _ = _; unfold rdN; rw [if_pos h]; rfl
      clear h
      go_enter Tryz.func130, Tryz.ntmps130
      go_wp2_with (go_at_call 186; refine h0.mono ?_; rintro e w' ⟨rfl, hb⟩; obtain ⟨d1, d2, d3⟩ := boxD hb; have HB := Lib.hid hb; clear hb)
      go_ret
      exact ⟨by rw [HN.out]; rfl, over HB.out⟩
  · have h0 := own_bad (.slice a fs.length c) dn fu fs (w.alloc (.cells #[.slice a fs.length c, .bool dn, .int .i64 fu] 110)) (HV.out.al _) h
    rw [World.size_alloc] at h0
    have HN : Hid (rdN fs dn = 10) := by show _ = _; unfold rdN; rw [if_neg (by omega)]
    clear h
    go_enter Tryz.func130, Tryz.ntmps130
    go_wp2_with (go_at_call 186; refine h0.mono ?_; rintro e w' ⟨rfl, hb⟩; obtain ⟨d1, d2, d3⟩ := boxD hb; have HB := Lib.hid hb; clear hb)
    go_ret
    exact ⟨by rw [HN.out]; rfl, over HB.out⟩

/-- What is read, and why not. -/
def rdS (fs : List Fl) (dn : Bool) (nm : ByteArray) : ByteArray := if rdN fs dn = 0 then (match fs[idxN fs nm]? with | none => ⟨#[]⟩ | some f => f.da) else ⟨#[]⟩
def rdE (fs : List Fl) (dn : Bool) (nm : ByteArray) : Nat := if rdN fs dn = 0 then (if idxN fs nm < fs.length then 0 else 6) else rdN fs dn
def ReadIs (fs : List Fl) (dn : Bool) (nm : ByteArray) (e : Ending) : Prop := e = .returned (.tuple #[.string (rdS fs dn nm), .int .i64 (rdE fs dn nm : Nat)])
theorem read_not (fs : List Fl) (dn : Bool) (nm : ByteArray) (k : Nat) (h : rdN fs dn = k) (h0 : k ≠ 0) : ReadIs fs dn nm (.returned (.tuple #[.string ⟨#[]⟩, .int .i64 k])) := by
  unfold ReadIs rdS rdE; rw [h, if_neg h0, if_neg h0]
theorem read_none (fs : List Fl) (dn : Bool) (nm : ByteArray) (h : rdN fs dn = 0) (hn : ¬ idxN fs nm < fs.length) : ReadIs fs dn nm (.returned (.tuple #[.string ⟨#[]⟩, .int .i64 6])) := by
  unfold ReadIs rdS rdE; rw [h, if_pos rfl, if_pos rfl, List.getElem?_eq_none (by omega), if_neg hn]; rfl
theorem read_some (fs : List Fl) (dn : Bool) (nm : ByteArray) (h : rdN fs dn = 0) (hn : idxN fs nm < fs.length) : ReadIs fs dn nm (.returned (.tuple #[.string fs[idxN fs nm].da, .int .i64 0])) := by
  unfold ReadIs rdS rdE; rw [h, if_pos rfl, if_pos rfl, List.getElem?_eq_getElem hn, if_pos hn]; rfl
theorem rd_cases (fs : List Fl) (dn : Bool) : (chkN fs = 10 ∧ rdN fs dn = 10) ∨ (chkN fs = 0 ∧ dn = true ∧ rdN fs dn = 8) ∨ (chkN fs = 0 ∧ dn = false ∧ rdN fs dn = 0) := by
  unfold rdN
  rcases chk_two fs with h | h <;> cases dn <;> simp [h]
end Dk
end Go.Proofs.YthbmnkeigmbbdaaGreat

/-
  Read, the program's and the document's.
-/
namespace Go.Proofs.YthbmnkeigmbbdaaGreat
open Go.RowKit Go.Lib Go.Sort
namespace Dk

set_option maxRecDepth 100000 in
set_option maxHeartbeats 2000000 in
theorem read_own (v : Value) (dn : Bool) (fu : Int) (fs : List Fl) (nm : ByteArray) (w : World) (hv : Files w w.heap.size v fs) :
    Calls Tryz.prog 70 #[.agg #[v, .bool dn, .int .i64 fu], .string nm] w fun e w' => ReadIs fs dn nm e ∧ Below w.heap.size w w' := by
  have HV := Lib.hid hv
  obtain ⟨a, c, rfl, hl, hs, hc⟩ := hv
  have HC := Lib.hid hc
  clear hs hc
  obtain ⟨o0, ho0⟩ : ∃ o0, o0 = Obj.cells #[.slice a fs.length c, .bool dn, .int .i64 fu] 110 := ⟨_, rfl⟩
  have h0 := ready_own (.slice a fs.length c) dn fu fs (w.alloc o0) (HV.out.al _)
  rw [World.size_alloc] at h0
  rw [ho0] at h0
  rcases rd_cases fs dn with ⟨hk, h⟩ | ⟨hk, rfl, h⟩ | ⟨hk, rfl, h⟩
  · have HN := Lib.hid (read_not fs dn nm 10 h (by omega))
    rw [h] at h0
    have h1 : Calls Tryz.prog 130 #[.agg #[.slice a fs.length c, .bool dn, .int .i64 fu]] (w.alloc (.cells #[.slice a fs.length c, .bool dn, .int .i64 fu] 110)) (fun e w' => e = .returned (.int .i64 10) ∧ Below (w.heap.size + 1) (w.alloc (.cells #[.slice a fs.length c, .bool dn, .int .i64 fu] 110)) w') := h0
    clear h0 h hk ho0
    go_enter Tryz.func70, Tryz.ntmps70
    go_wp2_with (go_at_call 130; refine h1.mono ?_; rintro e w' ⟨rfl, hb⟩; have HB := Lib.hid hb; clear hb)
    go_ret2
    exact ⟨HN.out, over HB.out⟩
  · have HN := Lib.hid (read_not fs true nm 8 h (by omega))
    rw [h] at h0
    have h1 : Calls Tryz.prog 130 #[.agg #[.slice a fs.length c, .bool true, .int .i64 fu]] (w.alloc (.cells #[.slice a fs.length c, .bool true, .int .i64 fu] 110)) (fun e w' => e = .returned (.int .i64 8) ∧ Below (w.heap.size + 1) (w.alloc (.cells #[.slice a fs.length c, .bool true, .int .i64 fu] 110)) w') := h0
    clear h0 h hk ho0
    go_enter Tryz.func70, Tryz.ntmps70
    go_wp2_with (go_at_call 130; refine h1.mono ?_; rintro e w' ⟨rfl, hb⟩; have HB := Lib.hid hb; clear hb)
    go_ret2
    exact ⟨HN.out, over HB.out⟩
  · rw [h] at h0
    have h1 : Calls Tryz.prog 130 #[.agg #[.slice a fs.length c, .bool false, .int .i64 fu]] (w.alloc (.cells #[.slice a fs.length c, .bool false, .int .i64 fu] 110)) (fun e w' => e = .returned (.int .i64 0) ∧ Below (w.heap.size + 1) (w.alloc (.cells #[.slice a fs.length c, .bool false, .int .i64 fu] 110)) w') := h0
    obtain ⟨h4, hok⟩ := chk_fine fs hk
    have HF : Hid (∀ w1 : World, Files w1 w1.heap.size (.slice a fs.length c) fs → Calls Tryz.prog 131 #[.slice a fs.length c, .string nm] w1 fun e w' => Found fs nm e ∧ Below w1.heap.size w1 w') := fun w1 hf => find_own _ fs nm w1 hf h4 hok
    by_cases hn : idxN fs nm < fs.length
    · have HN := Lib.hid (read_some fs false nm h hn)
      have HL := Lib.hid (lb_idx fs nm hok hn)
      have HH : Hid (hasN fs nm = true) := by show _ = _; unfold hasN; simpa using hn
      obtain ⟨b, off, rfl, hblt, hc⟩ := HC.out (by omega)
      have c2 := (hc _ hn).2.1
      have HC2 := Lib.hid c2
      have t1 : ((idxN fs nm : Nat) : Int) < (fs.length : Int) := by omega
      have t2 : (0 : Int) ≤ ((idxN fs nm : Nat) : Int) := by omega
      unfold Found at HF
      rw [HH.out, HL.out] at HF
      clear h0 h hk ho0 hok c2 hc HH HL
      generalize fs[idxN fs nm].da = y at *
      generalize idxN fs nm = k at *
      go_enter Tryz.func70, Tryz.ntmps70
      go_wp2_with (go_at_call 130; refine h1.mono ?_; rintro e w1 ⟨rfl, hb⟩; obtain ⟨d1, d2, d3⟩ := boxD hb; have HB := Lib.hid hb; clear hb)
      go_wp2_with (go_at_call 131; refine (HF.out w1 (HV.out.up HB.out)).mono ?_; rintro e w2 ⟨rfl, hb⟩; have e1 := (hb.cell (by have := HB.out.size; simp at this; show w.heap.size < _; omega)).trans d1; have e2 := (hb.cell (by have := HB.out.size; simp at this; show b < _; omega)).trans (((over HB.out).cell (by exact hblt)).trans HC2.out); have HB2 := Lib.hid hb; clear hb)
      go_ret2
      exact ⟨HN.out, (over HB.out).trans (HB2.out.mono (by have := HB.out.size; simp at this; omega))⟩
    · have HN := Lib.hid (read_none fs false nm h hn)
      have HH : Hid (hasN fs nm = false) := by show _ = _; unfold hasN; simpa using hn
      unfold Found at HF
      rw [HH.out] at HF
      clear h0 h hk ho0 hok HH
      generalize lbN fs nm = k at *
      go_enter Tryz.func70, Tryz.ntmps70
      go_wp2_with (go_at_call 130; refine h1.mono ?_; rintro e w1 ⟨rfl, hb⟩; obtain ⟨d1, d2, d3⟩ := boxD hb; have HB := Lib.hid hb; clear hb)
      go_wp2_with (go_at_call 131; refine (HF.out w1 (HV.out.up HB.out)).mono ?_; rintro e w2 ⟨rfl, hb⟩; have HB2 := Lib.hid hb; clear hb)
      go_ret2
      exact ⟨HN.out, (over HB.out).trans (HB2.out.mono (by have := HB.out.size; simp at this; omega))⟩

end Dk
end Go.Proofs.YthbmnkeigmbbdaaGreat

/-
  FILES OF THE CALL's OWN: a row that the call made holds the files fs; slices.Clone.
-/
namespace Go.Proofs.YthbmnkeigmbbdaaGreat
open Go.RowKit Go.Lib Go.Sort
namespace Dk

def encF (f : Fl) : List Value := [.string f.nm, .string f.da, .int .i64 f.sy]
def flat : List Fl → List Value
  | [] => []
  | f :: r => encF f ++ flat r
theorem flat_len (fs : List Fl) : (flat fs).length = fs.length * 3 := by
  induction fs with
  | nil => rfl
  | cons f r ih => simp [flat, encF, ih]; omega
theorem flat_app (a b : List Fl) : flat (a ++ b) = flat a ++ flat b := by
  induction a with
  | nil => rfl
  | cons f r ih => simp [flat, ih]
theorem flat_at (fs : List Fl) : ∀ i (h : i < fs.length), (flat fs)[i * 3]? = some (.string fs[i].nm) ∧ (flat fs)[i * 3 + 1]? = some (.string fs[i].da) ∧ (flat fs)[i * 3 + 2]? = some (.int .i64 fs[i].sy) := by
  induction fs with
  | nil => intro i h; simp at h
  | cons f r ih =>
    intro i h
    cases i with
    | zero => simp [flat, encF]
    | succ i =>
      have := ih i (by simpa using h)
      have e1 : (i + 1) * 3 = i * 3 + 3 := by omega
      simp only [flat, encF, e1, List.cons_append, List.nil_append, List.getElem?_cons_succ, List.getElem_cons_succ]
      exact this
theorem flat_one (fs : List Fl) : ∀ u ∈ flat fs, u.oneCell' = true := by
  induction fs with
  | nil => simp [flat]
  | cons f r ih =>
    intro u hu
    simp only [flat, encF, List.mem_append, List.mem_cons, List.not_mem_nil, or_false] at hu
    rcases hu with (rfl | rfl | rfl) | hu
    · rfl
    · rfl
    · rfl
    · exact ih u hu
theorem flat_set1 (fs : List Fl) : ∀ i (h : i < fs.length) (s : ByteArray), (flat fs).set (i * 3 + 1) (.string s) = flat (fs.set i { fs[i] with da := s }) := by
  induction fs with
  | nil => intro i h; simp at h
  | cons f r ih =>
    intro i h s
    cases i with
    | zero => simp [flat, encF]
    | succ i =>
      have := ih i (by simpa using h) s
      have e1 : (i + 1) * 3 + 1 = (i * 3 + 1) + 3 := by omega
      simp only [flat, encF, e1, List.cons_append, List.nil_append, List.set_cons_succ, List.getElem_cons_succ]
      rw [this]
/-- What a list of files must bear tu be in memory at all. -/
def Fine (fs : List Fl) : Prop := ∀ f ∈ fs, f.da.size ≤ maxLen ∧ -9223372036854775808 ≤ f.sy ∧ f.sy ≤ 9223372036854775807
def Own (w : World) (base : Nat) (v : Value) (fs : List Fl) : Prop := w.ownsRow base 170 3 v fs.length (flat fs)
theorem Own.form {w : World} {base : Nat} {v : Value} {fs : List Fl} (h : Own w base v fs) (hn : 0 < fs.length) : ∃ g cap, v = .slice (some ⟨g, 0, none⟩) fs.length cap ∧ base ≤ g ∧ g < w.heap.size ∧
    (∀ i (hi : i < fs.length), w.cell? ⟨g, i * 3, none⟩ = some (.string fs[i].nm) ∧ w.cell? ⟨g, i * 3 + 1, none⟩ = some (.string fs[i].da) ∧ w.cell? ⟨g, i * 3 + 2, none⟩ = some (.int .i64 fs[i].sy)) ∧ (∀ j, w.frozen? ⟨g, j, none⟩ = false) := by
  have h' := h
  rcases h.2 with ⟨_, h0⟩ | ⟨g, cap, cur, rfl, hb, hg, h1, h2, h3, h4⟩
  · omega
  · refine ⟨g, cap, rfl, hb, (Array.getElem?_eq_some_iff.1 hg).1, fun i hi => ?_, fun j => frozen_of_row w g j cur _ hg⟩
    obtain ⟨f1, f2, f3⟩ := flat_at fs i hi
    have key : ∀ j u, j < fs.length * 3 → (flat fs)[j]? = some u → w.cell? ⟨g, j, none⟩ = some u := by
      intro j u hj hu
      rw [cell_of_row w g j cur _ (0, 0) hg]
      rw [← h4, List.getElem?_take, if_pos hj] at hu
      simpa using hu
    exact ⟨key _ _ (by omega) f1, key _ _ (by omega) f2, key _ _ (by omega) f3⟩
theorem Own.files {w : World} {base : Nat} {v : Value} {fs : List Fl} (h : Own w base v fs) (hf : Fine fs) (hl : fs.length ≤ 4611686018427387904) : Files w w.heap.size v fs := by
  by_cases hn : 0 < fs.length
  · obtain ⟨g, cap, rfl, hb, hg, hc, _⟩ := h.form hn
    refine ⟨_, _, rfl, hl, hf, fun _ => ⟨g, 0, rfl, hg, fun i hi => ?_⟩⟩
    rw [Nat.zero_add]; exact hc i hi
  · have h0 : fs = [] := List.eq_nil_of_length_eq_zero (by omega)
    subst h0
    rcases h.2 with ⟨rfl, _⟩ | ⟨g, cap, cur, rfl, _⟩
    · exact ⟨none, 0, rfl, hl, hf, fun h => absurd h hn⟩
    · exact ⟨_, _, rfl, hl, hf, fun h => absurd h hn⟩
theorem Own.le {w : World} {base base' : Nat} {v : Value} {fs : List Fl} (h : Own w base v fs) (hb : base' ≤ base) : Own w base' v fs := ⟨h.1, h.2.elim Or.inl (fun ⟨g, cap, cur, hv, hg, r⟩ => Or.inr ⟨g, cap, cur, hv, Nat.le_trans hb hg, r⟩)⟩

theorem info_file : (Tryz.prog.info? 170).map (fun i => (i.zero, i.size, i.bytes)) = some (some (.agg #[.string ByteArray.empty, .string ByteArray.empty, .int .i64 0]), 3, 40) := by kernel_rfl

theorem file_cells (w : World) (a : Option Addr) (fs : List Fl) (B : Nat)
    (hc : 0 < fs.length → ∃ b off, a = some ⟨b, off, none⟩ ∧ b < B ∧ ∀ i (h : i < fs.length),
      w.cell? ⟨b, off + i * 3, none⟩ = some (.string fs[i].nm) ∧ w.cell? ⟨b, off + i * 3 + 1, none⟩ = some (.string fs[i].da) ∧ w.cell? ⟨b, off + i * 3 + 2, none⟩ = some (.int .i64 fs[i].sy))
    (ad : Addr) (ha : a = some ad) : ∀ j u, (flat fs)[j]? = some u → w.cell? (ad.add j) = some u := by
  intro j u hu
  have hj : j < fs.length * 3 := by
    have := (List.getElem?_eq_some_iff.1 hu).1
    rwa [flat_len] at this
  obtain ⟨b, off, he, _, hcc⟩ := hc (by omega)
  rw [ha] at he
  cases he
  rw [Addr.add_lit]
  obtain ⟨f1, f2, f3⟩ := flat_at fs (j / 3) (by omega)
  obtain ⟨c1, c2, c3⟩ := hcc (j / 3) (by omega)
  have hm : j = j / 3 * 3 ∨ j = j / 3 * 3 + 1 ∨ j = j / 3 * 3 + 2 := by omega
  rcases hm with h | h | h
  · rw [h] at hu ⊢; rw [f1] at hu; cases hu; exact c1
  · rw [h] at hu ⊢; rw [f2] at hu; cases hu; exact c2
  · rw [h] at hu ⊢; rw [f3] at hu; cases hu; exact c3

set_option maxHeartbeats 1000000 in
theorem clone_own (v : Value) (fs : List Fl) (w : World) (hv : Files w w.heap.size v fs) (h4 : fs.length ≤ 4096) :
    Calls Tryz.prog 187 #[v] w fun e w' => ∃ v', e = .returned v' ∧ Own w' w.heap.size v' fs ∧ Below w.heap.size w w' := by
  obtain ⟨a, c, rfl, hl, hs, hc⟩ := hv
  have q22 : ∀ (w : World) (a : Option Addr) (n c n' c' : Nat), (binOp .eql 108 (.slice a n c) (.slice none n' c')).run Tryz.prog w = .ok (.bool a.isNone) w := fun w a n c n' c' => Lib.run_eql_slice_nil w _ _ a n c n' c' Tryz.underlying108
  cases a with
  | none =>
    have h0 : fs = [] := by
      by_cases hn : 0 < fs.length
      · obtain ⟨b, off, he, _⟩ := hc hn; cases he
      · exact List.eq_nil_of_length_eq_zero (by omega)
    subst h0
    clear hc hs
    go_enter Tryz.func187, Tryz.ntmps187
    go_wp2
    go_ret
    exact ⟨_, rfl, World.ownsRow_nil _ _ _ _, Below.refl _ _⟩
  | some ad =>
    obtain ⟨i0, hi, hz0, hz1, hz2⟩ := info_parts info_file
    have A := Lib.hid (file_cells w (some ad) fs w.heap.size hc ad rfl)
    have hmx : fs.length ≤ maxLen := by simp only [maxLen]; omega
    have hl3 := flat_len fs
    have h1 := flat_one fs
    clear hc hs
    have H3 := Lib.hid hl3
    have H1 := Lib.hid h1
    clear hl3 h1
    generalize hx : flat fs = xs at A H3 H1
    have HX := Lib.hid hx
    clear hx
    go_enter Tryz.func187, Tryz.ntmps187
    go_wp2_with (at_builtin; refine wpList_append_own _ rfl _ _ 108 rfl w.heap.size 170 i0 _ 3 40 Tryz.underlying108 hi hz0 hz1 hz2 rfl (by omega) _ _ _ rfl (World.ownsRow_made w #[] 0 (Nat.le_refl _) (Nat.zero_le _) (by simp)) ad fs.length c xs rfl H3.out (fun j u hj => Lib.cell?_alloc_some _ (A.out j u hj)) H1.out (by rw [Nat.zero_add]; exact hmx) (by rw [Nat.zero_add]; omega) (by simp) ?_; intro v' w1 hown hgrow hnil)
    go_ret
    refine ⟨v', rfl, ?_, ?_⟩
    · unfold Own; rw [HX.out]; simpa using hown
    · exact ((Below.refl _ w).alloc (Nat.le_refl _) _).grown hgrow (by simp) (fun k hk => Nat.le_of_eq (Option.some.inj hk))
end Dk
end Go.Proofs.YthbmnkeigmbbdaaGreat

/-
  WHAT IS REFUSED: mayName, refuseAdd, refuse.
-/
namespace Go.Proofs.YthbmnkeigmbbdaaGreat
open Go.RowKit Go.Lib Go.Sort
namespace Dk

def nmOk (nm : ByteArray) : Bool := !nm.toList.isEmpty && decide (nm.size ≤ 32)
set_option maxHeartbeats 1000000 in
theorem may_own (nm : ByteArray) (w : World) : Calls Tryz.prog 211 #[.string nm] w fun e w' => e = .returned (.bool (nmOk nm)) ∧ w' = w := by
  have he : decide ((nm.size : Int) ≤ 32) = decide (nm.size ≤ 32) := decide_eq_decide.2 (by omega)
  go_enter Tryz.func211, Tryz.ntmps211
  go_wp2
  · rename_i h
    go_ret
    refine ⟨?_, rfl⟩
    unfold nmOk
    rw [h]
    rfl
  · rename_i h
    go_ret
    refine ⟨?_, rfl⟩
    unfold nmOk
    rfl

def raN (n : Nat) (nm : ByteArray) (th : Bool) : Nat := if nmOk nm then (if th then 0 else if 4096 ≤ n then 11 else 0) else 5
set_option maxHeartbeats 1000000 in
theorem refuseAdd_own (a : Option Addr) (n c : Nat) (nm : ByteArray) (th : Bool) (w : World) :
    Calls Tryz.prog 210 #[.slice a n c, .string nm, .bool th] w fun e w' => e = .returned (.int .i64 (raN n nm th : Nat)) ∧ w' = w := by
  have hm := may_own nm w
  cases h : nmOk nm with
  | false =>
    rw [h] at hm
    have HN : Hid (raN n nm th = 5) := by show _ = _; unfold raN; rw [h]; rfl
    clear h
    go_enter Tryz.func210, Tryz.ntmps210
    go_wp2_with (go_at_call 211; refine hm.mono ?_; rintro e w' ⟨rfl, rfl⟩)
    go_ret
    exact ⟨by rw [HN.out]; rfl, rfl⟩
  | true =>
    rw [h] at hm
    cases th with
    | true =>
      have HN : Hid (raN n nm true = 0) := by show _ = _; unfold raN; rw [h]; rfl
      clear h
      go_enter Tryz.func210, Tryz.ntmps210
      go_wp2_with (go_at_call 211; refine hm.mono ?_; rintro e w' ⟨rfl, rfl⟩)
      go_ret
      exact ⟨by rw [HN.out]; rfl, rfl⟩
    | false =>
      by_cases h2 : 4096 ≤ n
      · have HN : Hid (raN n nm false = 11) := by show _ = _; unfold raN; rw [h]; simpa using h2
        have t1 : decide ((n : Int) < 4096) = false := by simp; omega
        have t2 : decide ((4096 : Int) ≤ (n : Int)) = true := by simp; omega
        clear h
        go_enter Tryz.func210, Tryz.ntmps210
        go_wp2_with (go_at_call 211; refine hm.mono ?_; rintro e w' ⟨rfl, rfl⟩)
        go_ret
        exact ⟨by rw [HN.out]; rfl, rfl⟩
      · have HN : Hid (raN n nm false = 0) := by show _ = _; unfold raN; rw [h]; simp; omega
        have t1 : decide ((n : Int) < 4096) = true := by simp; omega
        have t2 : decide ((4096 : Int) ≤ (n : Int)) = false := by simp; omega
        clear h
        go_enter Tryz.func210, Tryz.ntmps210
        go_wp2_with (go_at_call 211; refine hm.mono ?_; rintro e w' ⟨rfl, rfl⟩)
        go_ret
        exact ⟨by rw [HN.out]; rfl, rfl⟩

theorem boxC {w w' : World} {k : Int} {nm da tu : ByteArray} {sz : Int} (hb : Below (w.heap.size + 1) (w.alloc (.cells #[.int .u8 k, .string nm, .string da, .int .i64 sz, .string tu] 166)) w') :
    w'.cell? ⟨w.heap.size, 0, none⟩ = some (.int .u8 k) ∧ w'.cell? ⟨w.heap.size, 1, none⟩ = some (.string nm) ∧ w'.cell? ⟨w.heap.size, 2, none⟩ = some (.string da) ∧ w'.cell? ⟨w.heap.size, 3, none⟩ = some (.int .i64 sz) ∧ w'.cell? ⟨w.heap.size, 4, none⟩ = some (.string tu) :=
  ⟨by rw [hb.cell (by simp)]; simp [go_sem], by rw [hb.cell (by simp)]; simp [go_sem], by rw [hb.cell (by simp)]; simp [go_sem], by rw [hb.cell (by simp)]; simp [go_sem], by rw [hb.cell (by simp)]; simp [go_sem]⟩

theorem find_hit (v : Value) (fs : List Fl) (nm : ByteArray) (w : World) (hv : Files w w.heap.size v fs) (h4k : fs.length ≤ 4096) (hok : okTo fs fs.length = true) (hn : idxN fs nm < fs.length) :
    Calls Tryz.prog 131 #[v, .string nm] w fun e w' => e = .returned (.tuple #[.int .i64 (idxN fs nm : Nat), .bool true]) ∧ Below w.heap.size w w' := by
  have := find_own v fs nm w hv h4k hok
  unfold Found at this
  rw [lb_idx fs nm hok hn, show hasN fs nm = true by unfold hasN; simpa using hn] at this
  exact this
theorem find_miss (v : Value) (fs : List Fl) (nm : ByteArray) (w : World) (hv : Files w w.heap.size v fs) (h4k : fs.length ≤ 4096) (hok : okTo fs fs.length = true) (hn : ¬ idxN fs nm < fs.length) :
    Calls Tryz.prog 131 #[v, .string nm] w fun e w' => e = .returned (.tuple #[.int .i64 (lbN fs nm : Nat), .bool false]) ∧ Below w.heap.size w w' := by
  have := find_own v fs nm w hv h4k hok
  unfold Found at this
  rw [show hasN fs nm = false by unfold hasN; simpa using hn] at this
  exact this

set_option maxRecDepth 100000 in
set_option maxHeartbeats 2000000 in
theorem refuse_add (v : Value) (fs : List Fl) (nm da tu : ByteArray) (sz : Int) (w : World) (hv : Files w w.heap.size v fs) (h4 : fs.length ≤ 4096) (hok : okTo fs fs.length = true) :
    Calls Tryz.prog 188 #[v, .agg #[.int .u8 0, .string nm, .string da, .int .i64 sz, .string tu]] w fun e w' => e = .returned (.int .i64 (raN fs.length nm (hasN fs nm) : Nat)) ∧ Below w.heap.size w w' := by
  have HV := Lib.hid hv
  obtain ⟨a, c, rfl, -⟩ := hv
  by_cases hn : idxN fs nm < fs.length
  · have h1 := find_hit (.slice a fs.length c) fs nm (w.alloc (.cells #[.int .u8 0, .string nm, .string da, .int .i64 sz, .string tu] 166)) (HV.out.al _) h4 hok hn
    rw [World.size_alloc] at h1
    rw [show hasN fs nm = true by unfold hasN; simpa using hn]
    clear hn hok
    generalize idxN fs nm = k at *
    have HR := Lib.hid (refuseAdd_own a fs.length c nm true)
    generalize raN fs.length nm true = r at *
    go_enter Tryz.func188, Tryz.ntmps188
    go_wp2_with (go_at_call 131; refine h1.mono ?_; rintro e w1 ⟨rfl, hb⟩; obtain ⟨d0, d1, d2, d3, d4⟩ := boxC hb; have HB := Lib.hid hb; clear hb)
    go_wp2_with (go_at_call 210; refine (HR.out _).mono ?_; rintro e w2 ⟨rfl, rfl⟩)
    go_ret
    exact ⟨rfl, over HB.out⟩
  · have h1 := find_miss (.slice a fs.length c) fs nm (w.alloc (.cells #[.int .u8 0, .string nm, .string da, .int .i64 sz, .string tu] 166)) (HV.out.al _) h4 hok hn
    rw [World.size_alloc] at h1
    rw [show hasN fs nm = false by unfold hasN; simpa using hn]
    clear hn hok
    generalize lbN fs nm = k at *
    have HR := Lib.hid (refuseAdd_own a fs.length c nm false)
    generalize raN fs.length nm false = r at *
    go_enter Tryz.func188, Tryz.ntmps188
    go_wp2_with (go_at_call 131; refine h1.mono ?_; rintro e w1 ⟨rfl, hb⟩; obtain ⟨d0, d1, d2, d3, d4⟩ := boxC hb; have HB := Lib.hid hb; clear hb)
    go_wp2_with (go_at_call 210; refine (HR.out _).mono ?_; rintro e w2 ⟨rfl, rfl⟩)
    go_ret
    exact ⟨rfl, over HB.out⟩

end Dk
end Go.Proofs.YthbmnkeigmbbdaaGreat

/-
  WHAT IS CHANGED: disk.changed at the kinds Add and Sync, where the file is there, and at Add where it comes last.
-/
namespace Go.Proofs.YthbmnkeigmbbdaaGreat
open Go.RowKit Go.Lib Go.Sort
namespace Dk

theorem Own.keep {w w' : World} {base : Nat} {v : Value} {fs : List Fl} (h : Own w base v fs) (hb : Below w.heap.size w w') : Own w' base v fs := by
  refine ⟨h.1, ?_⟩
  rcases h.2 with h0 | ⟨g, cap, cur, hv, hg, hh, r⟩
  · exact .inl h0
  · exact .inr ⟨g, cap, cur, hv, hg, (hb.block g (Array.getElem?_eq_some_iff.1 hh).1).trans hh, r⟩
theorem Own.drew {w : World} {base : Nat} {v : Value} {fs : List Fl} (h : Own w base v fs) (n : Nat) : Own (w.drewN n) base v fs := h
theorem Own.set1 {w : World} {base g cap : Nat} {fs : List Fl} (h : Own w base (.slice (some ⟨g, 0, none⟩) fs.length cap) fs) (i : Nat) (hi : i < fs.length) (s : ByteArray) :
    Own (w.setCell ⟨g, i * 3 + 1, none⟩ (.string s)) base (.slice (some ⟨g, 0, none⟩) fs.length cap) (fs.set i { fs[i] with da := s }) ∧ w.grownBy (w.setCell ⟨g, i * 3 + 1, none⟩ (.string s)) (some g) := by
  obtain ⟨h1, h2⟩ := World.ownsRow.stored h (i * 3 + 1) (.string s)
  refine ⟨?_, h2⟩
  unfold Own
  rw [List.length_set, ← flat_set1 fs i hi s]
  exact h1
end Dk
end Go.Proofs.YthbmnkeigmbbdaaGreat

/-
  A FILE PUT LAST: slices.Insert at the end; disk.changed at Add where the file was not there and comes last.
-/
namespace Go.Proofs.YthbmnkeigmbbdaaGreat
open Go.RowKit Go.Lib Go.Sort
namespace Dk

theorem encF_len (f : Fl) : (encF f).length = 1 * 3 := rfl
theorem encF_one (f : Fl) : ∀ u ∈ encF f, u.oneCell' = true := by
  intro u hu
  have : encF f = flat [f] := by simp [flat]
  rw [this] at hu
  exact flat_one [f] u hu
theorem Own.forms {w : World} {base : Nat} {v : Value} {fs : List Fl} (h : Own w base v fs) : (v = .slice none 0 0 ∧ fs = []) ∨ ∃ g cap, v = .slice (some ⟨g, 0, none⟩) fs.length cap ∧ base ≤ g ∧ g < w.heap.size ∧ fs.length ≤ cap ∧ cap ≤ maxLen := by
  rcases h.2 with ⟨h1, h0⟩ | ⟨g, cap, cur, rfl, hb, hg, h1, h2, h3, h4⟩
  · exact .inl ⟨h1, List.eq_nil_of_length_eq_zero h0⟩
  · exact .inr ⟨g, cap, rfl, hb, (Array.getElem?_eq_some_iff.1 hg).1, h1, h2⟩

set_option maxRecDepth 100000 in
set_option maxHeartbeats 2000000 in
theorem insert_end (v : Value) (fs : List Fl) (f : Fl) (g2 : Nat) (base : Nat) (w : World) (hbs : base ≤ w.heap.size) (ho : Own w base v fs) (h4 : fs.length ≤ 4096)
    (hg : ∀ j u, (encF f)[j]? = some u → w.cell? ⟨g2, j, none⟩ = some u) :
    Calls Tryz.prog 212 #[v, .int .i64 fs.length, .slice (some ⟨g2, 0, none⟩) 1 1] w fun e w' => ∃ v', e = .returned v' ∧ Own w' base v' (fs ++ [f]) ∧ w.grownBy w' v.ownBlock := by
  have HG : Hid (∀ j u, (encF f)[j]? = some u → w.cell? ((⟨g2, 0, none⟩ : Addr).add j) = some u) := by
    intro j u hu
    rw [Addr.add_lit, Nat.zero_add]
    exact hg j u hu
  have HL := Lib.hid (encF_len f)
  have H1 := Lib.hid (encF_one f)
  obtain ⟨i0, hi, hz0, hz1, hz2⟩ := info_parts info_file
  have HE : Hid (∀ w' v', w'.ownsRow base 170 3 v' (fs.length + 1) (flat fs ++ encF f) → Own w' base v' (fs ++ [f])) := by
    intro w' v' h
    unfold Own
    rw [flat_app, List.length_append]
    simpa [flat] using h
  have hmx : fs.length + 1 ≤ maxLen := by simp only [maxLen]; omega
  have HM := Lib.hid hmx
  have HO := Lib.hid ho
  have HX : Hid (flat fs = flat fs) := rfl
  clear hg hmx
  rcases ho.forms with ⟨rfl, rfl⟩ | ⟨g, cap, rfl, hbg, hgl, hcap, hcm⟩
  · clear ho
    go_enter Tryz.func212, Tryz.ntmps212
    go_wp2_with (at_builtin; refine wpList_append_own _ rfl _ _ 108 rfl base 170 i0 _ 3 40 Tryz.underlying108 hi hz0 hz1 hz2 rfl (by omega) (.slice none 0 0) 0 [] rfl (World.ownsRow_nil _ _ _ _) ⟨g2, 0, none⟩ 1 1 (encF f) rfl HL.out HG.out H1.out (by simp [maxLen]) (by omega) hbs ?_; intro v' w1 hown hgrow hnil)
    go_ret
    exact ⟨v', rfl, HE.out _ _ (by simpa [flat] using hown), hgrow⟩
  · generalize hx : flat fs = xs at *
    have hox : w.ownsRow base 170 3 (.slice (some ⟨g, 0, none⟩) fs.length cap) fs.length xs := by rw [← hx]; exact ho
    have HOX := Lib.hid hox
    clear ho hox hx
    have t1 : (fs.length : Int) ≤ (cap : Int) := by omega
    go_enter Tryz.func212, Tryz.ntmps212
    go_wp2_with (at_builtin; refine wpList_append_own _ rfl _ _ 108 rfl base 170 i0 _ 3 40 Tryz.underlying108 hi hz0 hz1 hz2 rfl (by omega) (.slice (some ⟨g, 0, none⟩) fs.length cap) fs.length xs rfl HOX.out ⟨g2, 0, none⟩ 1 1 (encF f) rfl HL.out HG.out H1.out HM.out (by omega) hbs ?_; intro v' w1 hown hgrow hnil)
    all_goals go_ret
    all_goals exact ⟨v', rfl, HE.out _ _ hown, hgrow⟩

set_option maxRecDepth 100000 in
set_option maxHeartbeats 2000000 in
theorem changed_add_end (v : Value) (fs : List Fl) (nm da tu : ByteArray) (sz : Int) (base : Nat) (w : World) (hbs : base ≤ w.heap.size) (ho : Own w base v fs) (hf : Fine fs) (h4 : fs.length ≤ 4096) (hok : okTo fs fs.length = true) (hn : ¬ idxN fs nm < fs.length) (hlast : lbN fs nm = fs.length) (hz : da.size ≤ 9223372036854775807) :
    Calls Tryz.prog 189 #[v, .agg #[.int .u8 0, .string nm, .string da, .int .i64 sz, .string tu]] w fun e w' => ∃ v', e = .returned v' ∧ Own w' base v' (fs ++ [⟨nm, da, 0⟩]) ∧ Below base w w' := by
  have HV := Lib.hid (ho.files hf (by omega))
  have h0 := find_miss v fs nm (w.alloc (.cells #[.int .u8 0, .string nm, .string da, .int .i64 sz, .string tu] 166)) (HV.out.al _) h4 hok hn
  rw [World.size_alloc, hlast] at h0
  have HO := Lib.hid ho
  have hne : some w.heap.size ≠ v.ownBlock := fun e => by have := (World.ownsRow.lt ho) _ e.symm; omega
  have HNE := Lib.hid hne
  have HI : Hid (∀ w1 : World, Below w.heap.size w w1 → Calls Tryz.prog 212 #[v, .int .i64 fs.length, .slice (some ⟨w1.heap.size, 0, none⟩) 1 1] (w1.alloc (.cells #[.string nm, .string ByteArray.empty, .int .i64 0] 170)) fun e w' => ∃ v', e = .returned v' ∧ Own w' base v' (fs ++ [⟨nm, ByteArray.empty, 0⟩]) ∧ (w1.alloc (.cells #[.string nm, .string ByteArray.empty, .int .i64 0] 170)).grownBy w' v.ownBlock) := by
    intro w1 hb
    refine insert_end v fs ⟨nm, ByteArray.empty, 0⟩ w1.heap.size base _ (by have := hb.size; simp; omega) ((HO.out.keep hb).keep ((Below.refl _ _).alloc (Nat.le_refl _) _)) h4 ?_
    intro j u hu
    rw [World.cell?_alloc_at _ _ _ _ (by simp)]
    match j, hu with
    | 0, hu => simpa [encF] using hu
    | 1, hu => simpa [encF] using hu
    | 2, hu => simpa [encF] using hu
    | j + 3, hu => simp [encF] at hu
  have HB1 : Hid (∀ w1 w3 : World, Below w.heap.size w w1 → (w1.alloc (.cells #[.string nm, .string ByteArray.empty, .int .i64 0] 170)).grownBy w3 v.ownBlock → Below base w w3 ∧ (∀ o u, w1.cell? ⟨w.heap.size, o, none⟩ = some u → w3.cell? ⟨w.heap.size, o, none⟩ = some u)) := by
    intro w1 w3 hb hg
    refine ⟨((hb.mono hbs).alloc (Nat.le_trans hbs hb.size) _).grown hg (by have := hb.size; simp; omega) (fun k hk => ((World.ownsRow.lt HO.out) k hk).1), fun o u hu => ?_⟩
    exact hg.cell (Lib.cell?_alloc_some _ hu) HNE.out
  have HS : Hid (∀ (w3 : World) v', Below base w w3 → Own w3 base v' (fs ++ [⟨nm, ByteArray.empty, 0⟩]) → ∃ g cap, v' = .slice (some ⟨g, 0, none⟩) (fs.length + 1) cap ∧ w3.cell? ⟨g, fs.length * 3 + 1, none⟩ = some (.string ByteArray.empty) ∧ w3.frozen? ⟨g, fs.length * 3 + 1, none⟩ = false ∧
      ∀ n, Own ((w3.drewN n).setCell ⟨g, fs.length * 3 + 1, none⟩ (.string (ByteArray.empty ++ da))) base v' (fs ++ [⟨nm, da, 0⟩]) ∧ Below base w ((w3.drewN n).setCell ⟨g, fs.length * 3 + 1, none⟩ (.string (ByteArray.empty ++ da)))) := by
    intro w3 v' hb hown
    obtain ⟨g, cap, rfl, hbg, hgl, hc, hfr⟩ := hown.form (by simp)
    have hlt : fs.length < (fs ++ [(⟨nm, ByteArray.empty, 0⟩ : Fl)]).length := by simp
    refine ⟨g, cap, by simp, ?_, hfr _, fun n => ?_⟩
    · have := (hc fs.length hlt).2.1
      simpa using this
    · obtain ⟨h1, h2⟩ := (hown.drew n).set1 fs.length hlt (ByteArray.empty ++ da)
      refine ⟨?_, (bdN hb n).grown h2 (Nat.le_trans hbs hb.size) (fun k hk => by cases hk; exact hbg)⟩
      have e : (fs ++ [(⟨nm, ByteArray.empty, 0⟩ : Fl)]).set fs.length { (fs ++ [(⟨nm, ByteArray.empty, 0⟩ : Fl)])[fs.length] with da := ByteArray.empty ++ da } = fs ++ [⟨nm, da, 0⟩] := by
        simp
      rw [e] at h1
      have e2 : (fs ++ [(⟨nm, ByteArray.empty, 0⟩ : Fl)]).length = fs.length + 1 := by simp
      exact h1
  have t1 : (fs.length : Int) < ((fs.length + 1 : Nat) : Int) := by omega
  have t2 : (0 : Int) ≤ (fs.length : Int) := by omega
  have t3 : ¬ (9223372036854775807 < ByteArray.empty.size + da.size) := by simp; omega
  have t4 : (fs.length : Int) < (fs.length : Int) + 1 := by omega
  clear hok hn hlast hne hf
  rcases ho.forms with ⟨rfl, hfs⟩ | ⟨g, cap, rfl, hbg, hgl, hcap, hcm⟩
  · have HFS := Lib.hid hfs
    clear ho hfs
    go_enter Tryz.func189, Tryz.ntmps189
    go_wp2_with (go_at_call 131; refine h0.mono ?_; rintro e w1 ⟨rfl, hb⟩; obtain ⟨d0, d1, d2, d3, d4⟩ := boxC hb; have HB := Lib.hid (over hb); clear hb)
    go_wp2_with (go_at_call 212; refine (HI.out w1 HB.out).mono ?_; rintro e w3 ⟨v', rfl, hown, hgrow⟩; obtain ⟨b1, b2⟩ := HB1.out w1 w3 HB.out hgrow; obtain ⟨g3, cap3, rfl, s1, s2, s3⟩ := HS.out w3 v' b1 hown; have e2 := b2 _ _ d2; have H3 := Lib.hid s3; clear s3 b2 hgrow hown)
    go_region
    all_goals go_wp2
    all_goals go_ret
    all_goals exact ⟨_, rfl, by first | exact (H3.out 0).1 | exact (H3.out _).1, by first | exact (H3.out 0).2 | exact (H3.out _).2 | exact bdN (H3.out 0).2 _⟩
  · clear ho
    go_enter Tryz.func189, Tryz.ntmps189
    go_wp2_with (go_at_call 131; refine h0.mono ?_; rintro e w1 ⟨rfl, hb⟩; obtain ⟨d0, d1, d2, d3, d4⟩ := boxC hb; have HB := Lib.hid (over hb); clear hb)
    go_wp2_with (go_at_call 212; refine (HI.out w1 HB.out).mono ?_; rintro e w3 ⟨v', rfl, hown, hgrow⟩; obtain ⟨b1, b2⟩ := HB1.out w1 w3 HB.out hgrow; obtain ⟨g3, cap3, rfl, s1, s2, s3⟩ := HS.out w3 v' b1 hown; have e2 := b2 _ _ d2; have H3 := Lib.hid s3; clear s3 b2 hgrow hown)
    go_region
    all_goals go_wp2
    all_goals go_ret
    all_goals exact ⟨_, rfl, by first | exact (H3.out 0).1 | exact (H3.out _).1, by first | exact (H3.out 0).2 | exact (H3.out _).2 | exact bdN (H3.out 0).2 _⟩
end Dk
end Go.Proofs.YthbmnkeigmbbdaaGreat

/-
  disk.do: what comes back, by what refuse and changed say.
-/
namespace Go.Proofs.YthbmnkeigmbbdaaGreat
open Go.RowKit Go.Lib Go.Sort
namespace Dk

/-- do's own variables: the disk's box at B, the change's at B + 1, the result's at B + 2. -/
structure Bx (B : Nat) (w : World) (v : Value) (dn : Bool) (fu : Int) (k : Int) (nm da : ByteArray) (sz : Int) (tu : ByteArray) : Prop where
  d0 : w.cell? ⟨B, 0, none⟩ = some v
  d1 : w.cell? ⟨B, 1, none⟩ = some (.bool dn)
  d2 : w.cell? ⟨B, 2, none⟩ = some (.int .i64 fu)
  c0 : w.cell? ⟨B + 1, 0, none⟩ = some (.int .u8 k)
  c1 : w.cell? ⟨B + 1, 1, none⟩ = some (.string nm)
  c2 : w.cell? ⟨B + 1, 2, none⟩ = some (.string da)
  c3 : w.cell? ⟨B + 1, 3, none⟩ = some (.int .i64 sz)
  c4 : w.cell? ⟨B + 1, 4, none⟩ = some (.string tu)
  r0 : w.cell? ⟨B + 1 + 1, 0, none⟩ = some (.slice none 0 0)
  r1 : w.cell? ⟨B + 1 + 1, 1, none⟩ = some (.bool false)
  r2 : w.cell? ⟨B + 1 + 1, 2, none⟩ = some (.int .i64 0)
  f0 : w.frozen? ⟨B, 0, none⟩ = false
  f1 : w.frozen? ⟨B, 1, none⟩ = false
  f2 : w.frozen? ⟨B, 2, none⟩ = false
  g0 : w.frozen? ⟨B + 1 + 1, 0, none⟩ = false
  g1 : w.frozen? ⟨B + 1 + 1, 1, none⟩ = false
  g2 : w.frozen? ⟨B + 1 + 1, 2, none⟩ = false
theorem Bx.keep {B C : Nat} {w w' : World} {v : Value} {dn : Bool} {fu k : Int} {nm da : ByteArray} {sz : Int} {tu : ByteArray} (h : Bx B w v dn fu k nm da sz tu) (hb : Below C w w') (hC : B + 3 ≤ C) : Bx B w' v dn fu k nm da sz tu :=
  have a0 : ∀ o, w'.cell? ⟨B, o, none⟩ = w.cell? ⟨B, o, none⟩ := fun o => hb.cell (by show B < C; omega)
  have a1 : ∀ o, w'.cell? ⟨B + 1, o, none⟩ = w.cell? ⟨B + 1, o, none⟩ := fun o => hb.cell (by show B + 1 < C; omega)
  have a2 : ∀ o, w'.cell? ⟨B + 1 + 1, o, none⟩ = w.cell? ⟨B + 1 + 1, o, none⟩ := fun o => hb.cell (by show B + 1 + 1 < C; omega)
  have b0 : ∀ o, w'.frozen? ⟨B, o, none⟩ = w.frozen? ⟨B, o, none⟩ := fun o => hb.frozen (by show B < C; omega)
  have b2 : ∀ o, w'.frozen? ⟨B + 1 + 1, o, none⟩ = w.frozen? ⟨B + 1 + 1, o, none⟩ := fun o => hb.frozen (by show B + 1 + 1 < C; omega)
  ⟨(a0 _).trans h.d0, (a0 _).trans h.d1, (a0 _).trans h.d2, (a1 _).trans h.c0, (a1 _).trans h.c1, (a1 _).trans h.c2, (a1 _).trans h.c3, (a1 _).trans h.c4, (a2 _).trans h.r0, (a2 _).trans h.r1, (a2 _).trans h.r2,
    (b0 _).trans h.f0, (b0 _).trans h.f1, (b0 _).trans h.f2, (b2 _).trans h.g0, (b2 _).trans h.g1, (b2 _).trans h.g2⟩
theorem Bx.made (w : World) (v : Value) (dn : Bool) (fu k : Int) (nm da : ByteArray) (sz : Int) (tu : ByteArray) :
    Bx w.heap.size (((w.alloc (.cells #[v, .bool dn, .int .i64 fu] 110)).alloc (.cells #[.int .u8 k, .string nm, .string da, .int .i64 sz, .string tu] 166)).alloc (.cells #[.slice none 0 0, .bool false, .int .i64 0] 110)) v dn fu k nm da sz tu := by
  constructor <;> simp [go_sem]
theorem Bx.set {B : Nat} {w : World} {v : Value} {dn : Bool} {fu k : Int} {nm da : ByteArray} {sz : Int} {tu : ByteArray} (h : Bx B w v dn fu k nm da sz tu) (u : Value) : Bx B (w.setCell ⟨B, 0, none⟩ u) u dn fu k nm da sz tu := by
  have a : ∀ x, x ≠ (⟨B, 0, none⟩ : Addr) → (w.setCell ⟨B, 0, none⟩ u).cell? x = w.cell? x := fun x hx => World.cell?_setCell_other _ _ _ _ (fun e => hx e.symm)
  have b : ∀ x, (w.setCell ⟨B, 0, none⟩ u).frozen? x = w.frozen? x := fun x => World.frozen?_setCell _ _ _ _
  exact ⟨World.cell?_setCell_same _ _ _ h.d0, (a _ (by simp)).trans h.d1, (a _ (by simp)).trans h.d2, (a _ (by simp)).trans h.c0, (a _ (by simp)).trans h.c1, (a _ (by simp)).trans h.c2, (a _ (by simp)).trans h.c3, (a _ (by simp)).trans h.c4,
    (a _ (by simp)).trans h.r0, (a _ (by simp)).trans h.r1, (a _ (by simp)).trans h.r2, (b _).trans h.f0, (b _).trans h.f1, (b _).trans h.f2, (b _).trans h.g0, (b _).trans h.g1, (b _).trans h.g2⟩
theorem Own.sb {w : World} {base : Nat} {v : Value} {fs : List Fl} (h : Own w base v fs) {a : Addr} (ha : a.block < base) (u : Value) : Own (w.setCell a u) base v fs := ownsRow_setCell_below h ha u
theorem bset {B : Nat} {w w' : World} (h : Below B w w') {a : Addr} (ha : B ≤ a.block) (u : Value) : Below B w (w'.setCell a u) :=
  ⟨h.os, h.tape, h.output, by simpa using h.size, fun i hi => (Below.heap_setCell _ _ _ _ (by omega)).trans (h.block i hi)⟩
theorem Own.slice {w : World} {base : Nat} {v : Value} {fs : List Fl} (h : Own w base v fs) : ∃ a c, v = .slice a fs.length c := by
  rcases h.forms with ⟨rfl, rfl⟩ | ⟨g, cap, rfl, _⟩
  · exact ⟨none, 0, rfl⟩
  · exact ⟨_, _, rfl⟩
end Dk
end Go.Proofs.YthbmnkeigmbbdaaGreat

/-
  A function that hands back a disk (out of its own box) and an error.
-/
namespace Go.Proofs.YthbmnkeigmbbdaaGreat
open Go.RowKit Go.Lib Go.Sort
namespace Dk
theorem load_disk (w : World) (B : Nat) (v : Value) (dn : Bool) (fu : Int) (h0 : w.cell? ⟨B, 0, none⟩ = some v) (h1 : w.cell? ⟨B, 1, none⟩ = some (.bool dn)) (h2 : w.cell? ⟨B, 2, none⟩ = some (.int .i64 fu)) :
    (loadVar 110 ⟨B, 0, none⟩).run Tryz.prog w = .ok (.agg #[v, .bool dn, .int .i64 fu]) w := by
  have a := Tryz.isAgg110 w
  have b := Tryz.sizeOf110 w
  go_simp
theorem bodyPost_disk {fn : Func} {p u : Tmp} (h : fn.results = #[.cell p 110, .tmp u]) {R : Ending → World → Prop} {a : Act} {w : World} (B : Nat) (v : Value) (dn : Bool) (fu : Int) (hd : a.defers = [])
    (hp : a.tmps.getD p undef = .pointer (some ⟨B, 0, none⟩)) (h0 : w.cell? ⟨B, 0, none⟩ = some v) (h1 : w.cell? ⟨B, 1, none⟩ = some (.bool dn)) (h2 : w.cell? ⟨B, 2, none⟩ = some (.int .i64 fu))
    (hR : R (.returned (.tuple #[.agg #[v, .bool dn, .int .i64 fu], a.tmps.getD u undef])) w) : bodyPost Tryz.prog fn R .ret a w := by
  refine bodyPost_ret ?_ hd hR
  rw [results_cell_tmp h, hp]
  have := load_disk w B v dn fu h0 h1 h2
  simp [asAddr, this, Result.andThen]
end Dk
end Go.Proofs.YthbmnkeigmbbdaaGreat

/-
  disk.do: a change that is done; one that is refused; a disk that is down, or whose fuse is out, or that is not right.
-/
namespace Go.Proofs.YthbmnkeigmbbdaaGreat
open Go.RowKit Go.Lib Go.Sort
namespace Dk

/-- What refuse says of whatever holds these files. -/
def Refuses (fs : List Fl) (k : Int) (nm da : ByteArray) (sz : Int) (tu : ByteArray) (r : Nat) : Prop :=
  ∀ (w1 : World) (v : Value), Files w1 w1.heap.size v fs → Calls Tryz.prog 188 #[v, .agg #[.int .u8 k, .string nm, .string da, .int .i64 sz, .string tu]] w1 fun e w' => e = .returned (.int .i64 (r : Nat)) ∧ Below w1.heap.size w1 w'
/-- What changed makes of the call's own. -/
def Changes (fs fs2 : List Fl) (k : Int) (nm da : ByteArray) (sz : Int) (tu : ByteArray) : Prop :=
  ∀ (base : Nat) (w1 : World) (v : Value), base ≤ w1.heap.size → Own w1 base v fs → Calls Tryz.prog 189 #[v, .agg #[.int .u8 k, .string nm, .string da, .int .i64 sz, .string tu]] w1 fun e w' => ∃ v', e = .returned v' ∧ Own w' base v' fs2 ∧ Below base w1 w'
/-- A disk of memory of the call's own, and an error. -/
def DoIs (w : World) (fs2 : List Fl) (dn : Bool) (fu : Int) (r : Nat) (e : Ending) (w' : World) : Prop :=
  ∃ v', e = .returned (.tuple #[.agg #[v', .bool dn, .int .i64 fu], .int .i64 (r : Nat)]) ∧ Own w' w.heap.size v' fs2 ∧ Below w.heap.size w w'
theorem do_b2 {w W3 w1 w2 : World} (hk : w.heap.size + 3 ≤ w1.heap.size) (h3 : Below w.heap.size w W3) (h1 : Below (w.heap.size + 3) W3 w1) (h2 : Below w1.heap.size w1 w2) : Below w.heap.size w w2 :=
  (h3.trans (h1.mono (by omega))).trans (h2.mono (by omega))
theorem do_b4 {w W3 w1 w2 w4 : World} {u : Value} (hk : w.heap.size + 3 ≤ w1.heap.size) (h3 : Below w.heap.size w W3) (h1 : Below (w.heap.size + 3) W3 w1) (h2 : Below w1.heap.size w1 w2) (h4 : Below (w2.setCell ⟨w.heap.size, 0, none⟩ u).heap.size (w2.setCell ⟨w.heap.size, 0, none⟩ u) w4) : Below w.heap.size w w4 :=
  (bset (do_b2 hk h3 h1 h2) (Nat.le_refl _) u).trans (h4.mono (by have := h2.size; simp; omega))
theorem do_b5 {w W3 w1 w2 w4 w5 : World} {u : Value} (hk : w.heap.size + 3 ≤ w1.heap.size) (h3 : Below w.heap.size w W3) (h1 : Below (w.heap.size + 3) W3 w1) (h2 : Below w1.heap.size w1 w2) (h4 : Below (w2.setCell ⟨w.heap.size, 0, none⟩ u).heap.size (w2.setCell ⟨w.heap.size, 0, none⟩ u) w4) (h5 : Below w1.heap.size w4 w5) : Below w.heap.size w w5 :=
  (do_b4 hk h3 h1 h2 h4).trans (h5.mono (by omega))
end Dk
end Go.Proofs.YthbmnkeigmbbdaaGreat

/-
  PLAIN NUMBERS FOR PACKAGE pack: the check of bytes, a number's bytes. Nothing of the program is named here.
-/
namespace Go.Proofs.YthbmnkeigmbbdaaGreat
namespace PM

theorem xor_lt (a b : Nat) (ha : a < 65536) (hb : b < 65536) : a ^^^ b < 65536 := Nat.xor_lt_two_pow (n := 16) ha hb
theorem crcBits_zero_from (k j c : Nat) (h : crcBits k c = 0) (hj : k ≤ j) : crcBits j c = 0 := by
  induction j with
  | zero => have : k = 0 := by omega
            subst this; exact h
  | succ j ih =>
    by_cases e : k = j + 1
    · subst e; exact h
    · show crcBit (crcBits j c) = 0
      rw [ih (by omega)]; rfl
theorem crc_snoc (l : List UInt8) (b : UInt8) : crc (l ++ [b]) = crcByte (crc l) b.toNat := by
  simp only [crc, crcFrom, List.foldl_append, List.foldl_cons, List.foldl_nil]
theorem take_snoc (s : ByteArray) (k : Nat) (h : k < s.size) : s.data.toList.take (k + 1) = s.data.toList.take k ++ [s[k]] := by
  rw [List.take_succ_eq_append_getElem (by simpa using h)]; rfl
theorem take_all (s : ByteArray) (k : Nat) (h : s.size ≤ k) : s.data.toList.take k = s.data.toList :=
  List.take_of_length_le (by simpa using h)
end PM
end Go.Proofs.YthbmnkeigmbbdaaGreat

/-
  CONTRACTS: pack.Sum and the document's own Sum hand back the check of any bytes; the world is as it was.
-/
namespace Go.Proofs.YthbmnkeigmbbdaaGreat
open Go.RowKit
namespace PackSum
open PM

theorem ref_hi (d : Nat) (h : 32768 ≤ d) : crcBit d = (2 * d - 65536) ^^^ 4129 := by unfold crcBit; rw [if_pos h]
theorem ref_lo (d : Nat) (h : ¬ 32768 ≤ d) : crcBit d = 2 * d := by unfold crcBit; rw [if_neg h]

theorem own_in (c b : Nat) (hc : c < 65536) (hb : b < 256) : bits .xor .u16 (c : Int) ((b : Int) * 256) = ((c ^^^ b * 256 : Nat) : Int) := by
  have e : ((b : Int) * 256) = ((b * 256 : Nat) : Int) := by omega
  rw [e]; exact u16_xor_nat c (b * 256) (by omega) (by omega)
theorem and_top (c : Nat) (h : c < 65536) : c &&& 32768 = if 32768 ≤ c then 32768 else 0 := by
  have e : (32768 : Nat) = 2 ^ 15 := rfl
  apply Nat.eq_of_testBit_eq
  intro i
  rw [Nat.testBit_and, e, Nat.testBit_two_pow]
  by_cases g : 15 = i
  · subst g
    rw [Nat.testBit_eq_decide_div_mod_eq]
    by_cases g2 : 2 ^ 15 ≤ c
    · have : c / 2 ^ 15 % 2 = 1 := by omega
      rw [if_pos g2, Nat.testBit_two_pow]; simp [this]
    · have : c / 2 ^ 15 % 2 = 0 := by omega
      rw [if_neg g2]; simp [this]
  · split
    · rw [Nat.testBit_two_pow]; simp [g]
    · simp [g]
theorem own_top (c : Nat) (h : c < 65536) : bits .and .u16 (c : Int) 32768 = if 32768 ≤ c then 32768 else 0 := by
  have h1 := u16_and_nat c 32768 h (by omega)
  rw [show ((32768 : Nat) : Int) = 32768 from rfl] at h1
  rw [h1]
  have h2 : c &&& 32768 = if 32768 ≤ c then 32768 else 0 := and_top c h
  rw [h2]; split <;> rfl

set_option maxRecDepth 100000 in
set_option maxHeartbeats 400000 in
theorem sum_own (s : ByteArray) (w : World) (hs : s.size ≤ maxLen) :
    Calls Tryz.prog 71 #[.string s] w fun e w' => e = .returned (.int .u16 (crc s.data.toList : Nat)) ∧ w = w' := by
  unfold maxLen at hs
  go_enter Tryz.func71, Tryz.ntmps71
  go_wp2
  go_step3
  go_wp2
  go_step3
  go_wp2
  go_loopg [3, 8] s.size (fun g c i wx => wx = w ∧ ∃ (k d : Nat), k + g = s.size ∧ i = .int .i64 k ∧ c = .int .u16 (d : Nat) ∧ d < 65536 ∧ Aside (d = crc (s.data.toList.take k)))
  case atStart => exact ⟨rfl, 0, 65535, by omega, rfl, rfl, by omega, rfl⟩
  case round =>
    obtain ⟨rfl, k, d, hkg, rfl, rfl, hd, HA⟩ := hrel
    cases gk with
    | zero =>
      have hlk : s.size ≤ k := by omega
      have hlk2 : k ≤ s.size := by omega
      clear hkg
      go_wp2
      rw [Exit.noGoto_ret]
      go_ret
      have e := HA.out
      rw [take_all s k hlk] at e
      subst e
      exact ⟨rfl, rfl⟩
    | succ g =>
      have hlk : k < s.size := by omega
      have HG := Lib.hid hkg
      clear hkg
      have hb := s[k].toNat_lt
      have HS := HA.out
      have HT : Aside (crcBits 8 (d ^^^ s[k].toNat * 256) = crc (s.data.toList.take (k + 1))) := by
        show _ = _
        rw [take_snoc s k hlk, crc_snoc, ← HS]; rfl
      clear HS
      have HI := Lib.hid (own_in d s[k].toNat hd hb)
      have hx := xor_lt d (s[k].toNat * 256) hd (by omega)
      go_wp2
      rw [HI.out]
      clear HI hb
      generalize d ^^^ (s[k].toNat * 256) = c0 at *
      go_loopg [3, 18] 8 (fun g2 c i wy => wy = wr ∧ ∃ j c1 : Nat, j + g2 = 8 ∧ i = .int .i64 j ∧ c = .int .u16 (c1 : Nat) ∧ c1 < 65536 ∧ Aside (c1 = crcBits j c0))
      case atStart => exact ⟨rfl, 0, c0, by omega, rfl, rfl, hx, rfl⟩
      case round =>
        obtain ⟨rfl, j, c1, hjg, rfl, rfl, h1, HJ⟩ := hrel
        cases gk with
        | zero =>
          have t1 : (8 : Int) ≤ j := by omega
          obtain rfl : j = 8 := by omega
          clear hjg
          go_wp2
          go_roundg g
          case measure => omega
          case rel => exact ⟨rfl, k + 1, c1, by have := HG.out; omega, by go_num, rfl, h1, by show _ = _; rw [← HT.out]; exact HJ.out⟩
        | succ g2 =>
          have t1 : (j : Int) < 8 := by omega
          have HG2 := Lib.hid hjg
          have HJ8 := Lib.hid (show j ≤ 8 from by omega)
          clear hjg
          by_cases h0 : c1 = 0
          · subst h0
            go_wp2
            go_roundg g
            case measure => omega
            case rel => exact ⟨rfl, k + 1, 0, by have := HG.out; omega, by go_num, rfl, by omega, by show _ = _; rw [← HT.out]; exact (crcBits_zero_from j 8 c0 HJ.out.symm HJ8.out).symm⟩
          · have t0 : ((c1 : Int) == 0) = false := by simp; omega
            clear h0
            by_cases h3 : 32768 ≤ c1
            · have t2 : bits BinOp.and IntKind.u16 (c1 : Int) 32768 = 32768 := by rw [own_top c1 h1, if_pos h3]
              have HX := Lib.hid (u16_xor_nat (2 * c1 - 65536) 4129 (by omega) (by omega))
              go_wp2
              go_roundg g2
              case measure => omega
              case rel =>
                refine ⟨rfl, j + 1, (2 * c1 - 65536) ^^^ 4129, by have := HG2.out; omega, by go_num, ?_, xor_lt _ _ (by omega) (by omega), by show _ = crcBit _; rw [← HJ.out, ref_hi _ h3]⟩
                rw [← HX.out, show ((2 * c1 - 65536 : Nat) : Int) = (c1 : Int) * 2 % 65536 from by omega]
                rfl
            · have t2 : bits BinOp.and IntKind.u16 (c1 : Int) 32768 = 0 := by rw [own_top c1 h1, if_neg h3]
              go_wp2
              go_roundg g2
              case measure => omega
              case rel => exact ⟨rfl, j + 1, c1 * 2, by have := HG2.out; omega, by go_num, by go_num, by omega, by show _ = crcBit _; rw [← HJ.out, ref_lo _ h3]; omega⟩
end PackSum
end Go.Proofs.YthbmnkeigmbbdaaGreat
