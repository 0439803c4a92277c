/-
  Merged: RigName, RigBear, RigUpto, RigArrEq, RigArg, RigCmp, RigAmt.
-/
import Derived.Test.YthbmnkeigmbbdaaGreatRows
import Derived.WalkKit
import Derived.WalkLawsBesides
import Derived.WalkSpells
import Derived.Lib.Hide
import Derived.Deep.LoopGhost
import Derived.Deep.QuietTactic
import Derived.BigQuiet
import Derived.Deep.RegionHeld3
import Derived.IntWalk
import Derived.Laws.StructEq
import Derived.ProofKit
import Derived.SliceStrings
import Derived.SizedLaws
import Derived.Deep.Strs
import Derived.OpenShut
import Derived.Laws.IdiomArrays
import Derived.StillTailTactics
import Derived.Sort.Walk0
/-
  NAMES: which texts are names, of the program and of the document.
-/
namespace Go.Proofs.YthbmnkeigmbbdaaGreat
open Go.RowKit
namespace Rg

theorem bdN {B : Nat} {a w : World} (h : Below B a w) (n : Nat) : Below B a (w.drewN n) := ⟨h.os, h.tape, h.output, h.size, h.block⟩
/-- A byte that may stand in a name. -/
def nmC (c : UInt8) : Bool := decide ((97 ≤ c.toNat ∧ c.toNat ≤ 122) ∨ (48 ≤ c.toNat ∧ c.toNat ≤ 57) ∨ c.toNat = 45)
def nmTo (s : ByteArray) (k : Nat) : Bool := (s.data.toList.take k).all nmC
def nameB (s : ByteArray) : Bool := decide (0 < s.size) && decide (s.size ≤ 32) && s.data.toList.all nmC
theorem nm_snoc (s : ByteArray) (k : Nat) (h : k < s.size) : nmTo s (k + 1) = (nmTo s k && nmC s[k]) := by
  unfold nmTo
  rw [List.take_succ_eq_append_getElem (by simpa using h), List.all_append]
  simp; rfl
theorem nm_all (s : ByteArray) (k : Nat) (h : s.size ≤ k) : nmTo s k = s.data.toList.all nmC := by
  unfold nmTo
  rw [List.take_of_length_le (by simpa using h)]
theorem nm_bad (s : ByteArray) (k : Nat) (h : k < s.size) (hc : nmC s[k] = false) : s.data.toList.all nmC = false := by
  rw [← Bool.not_eq_true, List.all_eq_true]
  intro ha
  have := ha s[k] (by rw [show s[k] = s.data.toList[k]'(by simpa using h) from rfl]; exact List.getElem_mem _)
  rw [hc] at this; cases this
theorem nmC_eq (c : UInt8) : nmC c = decide ((97 ≤ (c.toNat : Int) ∧ (c.toNat : Int) ≤ 122) ∨ (48 ≤ (c.toNat : Int) ∧ (c.toNat : Int) ≤ 57) ∨ (c.toNat : Int) = 45) := by
  unfold nmC
  rw [Bool.eq_iff_iff]; simp; omega

set_option maxHeartbeats 400000 in
theorem may_any (c : UInt8) (w : World) :
    Calls Tryz.prog 180 #[.int .u8 (c.toNat : Int)] w fun e w' => e = .returned (.bool (nmC c)) ∧ w = w' := by
  have H := Lib.hid (nmC_eq c)
  generalize nmC c = r at *
  generalize (c.toNat : Int) = n at *
  by_cases h1 : (97 : Int) ≤ n
  · by_cases h2 : n ≤ 122
    · have HR := Lib.hid (show r = true by rw [H.out]; simp; omega)
      go_enter Tryz.func180, Tryz.ntmps180
      go_wp2
      go_ret
      exact ⟨by rw [HR.out]; rfl, rfl⟩
    · have HR := Lib.hid (show r = false by rw [H.out]; simp; omega)
      have h3 : ¬ n ≤ 57 := by omega
      have h4 : (48 : Int) ≤ n := by omega
      have h5 : ¬ n = 45 := by omega
      go_enter Tryz.func180, Tryz.ntmps180
      go_wp2
      go_ret
      exact ⟨by rw [HR.out]; simp; omega, rfl⟩
  · by_cases h3 : (48 : Int) ≤ n
    · by_cases h4 : n ≤ 57
      · have HR := Lib.hid (show r = true by rw [H.out]; simp; omega)
        go_enter Tryz.func180, Tryz.ntmps180
        go_wp2
        go_ret
        exact ⟨by rw [HR.out]; rfl, rfl⟩
      · have HR := Lib.hid (show r = false by rw [H.out]; simp; omega)
        have h5 : ¬ n = 45 := by omega
        go_enter Tryz.func180, Tryz.ntmps180
        go_wp2
        go_ret
        exact ⟨by rw [HR.out]; simp; omega, rfl⟩
    · have HR := Lib.hid (show r = decide (n = 45) by rw [H.out]; rw [decide_eq_decide]; omega)
      go_enter Tryz.func180, Tryz.ntmps180
      go_wp2
      go_ret
      exact ⟨by rw [HR.out]; simp; rfl, rfl⟩

set_option maxHeartbeats 400000 in
theorem name_any (s : ByteArray) (w : World) (hs : s.size ≤ maxLen) :
    Calls Tryz.prog 117 #[.string s] w fun e w' => e = .returned (.bool (nameB s)) ∧ w = w' := by
  unfold maxLen at hs
  by_cases h0 : s.size = 0
  · have HN := Lib.hid (show nameB s = false by unfold nameB; simp [h0])
    have hz : s.toList = [] := by
      rw [ByteArray.toList_eq]
      exact List.eq_nil_of_length_eq_zero (by simpa using h0)
    go_enter Tryz.func117, Tryz.ntmps117
    go_wp2
    go_ret
    exact ⟨by rw [HN.out]; rfl, rfl⟩
  · have hz : s.toList.isEmpty = false := by
      rw [ByteArray.toList_eq, ← Bool.not_eq_true, List.isEmpty_iff]
      intro he
      exact h0 (by have := congrArg List.length he; simpa using this)
    have hz2 : ¬ s.toList = [] := by simpa using hz
    by_cases h32 : (32 : Int) < (s.size : Int)
    · have HN := Lib.hid (show nameB s = false by unfold nameB; simp; omega)
      clear h0
      go_enter Tryz.func117, Tryz.ntmps117
      go_wp2
      go_ret
      exact ⟨by rw [HN.out]; rfl, rfl⟩
    · have HN := Lib.hid (show nameB s = s.data.toList.all nmC by unfold nameB; simp; omega)
      clear h0
      go_enter Tryz.func117, Tryz.ntmps117
      go_wp2
      go_loopg [13] s.size (fun g i wx => wx = w ∧ ∃ k : Nat, k + g = s.size ∧ i = .int .i64 k ∧ Aside (nmTo s k = true))
      case atStart => exact ⟨rfl, 0, by omega, rfl, by show _ = _; rfl⟩
      case round =>
        obtain ⟨rfl, k, hkg, rfl, HA⟩ := hrel
        cases gk with
        | zero =>
          have hlk : s.size ≤ k := by omega
          have HR := Lib.hid (nm_all s k hlk)
          obtain rfl : k = s.size := by omega
          clear hkg
          go_wp2
          go_ret
          exact ⟨by rw [HN.out, ← HR.out, HA.out]; rfl, rfl⟩
        | succ g =>
          have hlk : k < s.size := by omega
          have HG := Lib.hid hkg
          have HS := Lib.hid (nm_snoc s k hlk)
          have HB := Lib.hid (nm_bad s k hlk)
          have hm := fun w => may_any s[k] w
          clear hkg
          cases hc : nmC s[k]
          · rw [hc] at hm
            have HC := Lib.hid hc
            have HM := Lib.hid hm
            clear hc hm
            go_wp2_with (go_at_call 180; refine (HM.out _).mono ?_; rintro e w' ⟨rfl, rfl⟩)
            go_ret
            exact ⟨by rw [HN.out, HB.out HC.out]; rfl, rfl⟩
          · rw [hc] at hm
            have HC := Lib.hid hc
            have HM := Lib.hid hm
            clear hc hm
            go_wp2_with (go_at_call 180; refine (HM.out _).mono ?_; rintro e w' ⟨rfl, rfl⟩)
            go_roundg g
            case measure => omega
            case rel => exact ⟨rfl, k + 1, by have := HG.out; omega, by go_num, by show _ = _; rw [HS.out, HA.out, HC.out]; rfl⟩

set_option maxHeartbeats 800000 in
theorem name_ref (s : ByteArray) (w : World) (hs : s.size ≤ maxLen) :
    Calls Tryz.prog 197 #[.string s] w fun e w' => e = .returned (.bool (nameB s)) ∧ w = w' := by
  unfold maxLen at hs
  go_enter Tryz.func197, Tryz.ntmps197
  go_wp2
  go_loopg [3] s.size (fun g i wx => wx = w ∧ ∃ k : Nat, k + g = s.size ∧ i = .int .i64 k ∧ Aside (nmTo s k = true))
  case atStart => exact ⟨rfl, 0, by omega, rfl, by show _ = _; rfl⟩
  case round =>
    obtain ⟨rfl, k, hkg, rfl, HA⟩ := hrel
    cases gk with
    | zero =>
      have hlk : s.size ≤ k := by omega
      have HR := Lib.hid (nm_all s k hlk)
      obtain rfl : k = s.size := by omega
      have HN : Hid (nameB s = (decide (0 < s.size) && decide (s.size ≤ 32))) := by
        show _ = _
        unfold nameB
        rw [← HR.out, HA.out, Bool.and_true]
      clear hkg hlk
      by_cases h0 : s.size = 0
      · have hz : s.toList = [] := by
          rw [ByteArray.toList_eq]
          exact List.eq_nil_of_length_eq_zero (by simpa using h0)
        have HZ := Lib.hid h0
        clear h0
        go_wp2
        go_ret
        exact ⟨by rw [HN.out, HZ.out]; rfl, rfl⟩
      · have hz : s.toList.isEmpty = false := by
          rw [ByteArray.toList_eq, ← Bool.not_eq_true, List.isEmpty_iff]
          intro he
          exact h0 (by have := congrArg List.length he; simpa using this)
        have hz2 : ¬ s.toList = [] := by simpa using hz
        have hp : 0 < s.size := by omega
        clear h0
        by_cases h32 : (s.size : Int) ≤ 32
        · go_wp2
          go_ret
          exact ⟨by rw [HN.out]; simp; omega, rfl⟩
        · go_wp2
          go_ret
          exact ⟨by rw [HN.out]; simp; omega, rfl⟩
    | succ g =>
      have hlk : k < s.size := by omega
      have HG := Lib.hid hkg
      have HS := Lib.hid (nm_snoc s k hlk)
      have HB := Lib.hid (nm_bad s k hlk)
      have H := Lib.hid (nmC_eq s[k])
      have HU : Hid (nameB s = false ∨ s.data.toList.all nmC = true) := by
        show _ ∨ _
        unfold nameB
        cases s.data.toList.all nmC <;> simp
      clear hkg
      cases hc : nmC s[k]
      · rw [hc] at H HS
        have HC := Lib.hid hc
        have HF : Hid (nameB s = false) := by
          have h1 := HB.out hc
          show _ = _
          rcases HU.out with h | h
          · exact h
          · rw [h1] at h; cases h
        have hd := H.out
        clear hc
        simp at hd
        have d1 : ¬ (s[k].toNat : Int) = 45 := by omega
        have d5 : ((s[k].toNat : Int) == 45) = false := by simp; omega
        by_cases h1 : (97 : Int) ≤ (s[k].toNat : Int)
        · have d2 : ¬ (s[k].toNat : Int) ≤ 122 := by omega
          have d3 : ¬ (s[k].toNat : Int) ≤ 57 := by omega
          have d4 : (48 : Int) ≤ (s[k].toNat : Int) := by omega
          clear hd
          go_wp2
          go_ret
          exact ⟨by rw [HF.out]; rfl, rfl⟩
        · by_cases h3 : (48 : Int) ≤ (s[k].toNat : Int)
          · have d3 : ¬ (s[k].toNat : Int) ≤ 57 := by omega
            clear hd
            go_wp2
            go_ret
            exact ⟨by rw [HF.out]; rfl, rfl⟩
          · clear hd
            go_wp2
            go_ret
            exact ⟨by rw [HF.out]; rfl, rfl⟩
      · rw [hc] at H HS
        have HC := Lib.hid hc
        have hd := H.out
        clear hc
        have hd2 : (97 ≤ (s[k].toNat : Int) ∧ (s[k].toNat : Int) ≤ 122) ∨ (48 ≤ (s[k].toNat : Int) ∧ (s[k].toNat : Int) ≤ 57) ∨ (s[k].toNat : Int) = 45 := by simpa using hd.symm
        clear hd
        by_cases h1 : (97 : Int) ≤ (s[k].toNat : Int)
        · by_cases h2 : (s[k].toNat : Int) ≤ 122
          · clear hd2
            go_wp2
            go_roundg g
            case measure => omega
            case rel => exact ⟨rfl, k + 1, by have := HG.out; omega, by go_num, by show _ = _; rw [HS.out, HA.out]; rfl⟩
          · exact absurd hd2 (by omega)
        · by_cases h3 : (48 : Int) ≤ (s[k].toNat : Int)
          · have d3 : (s[k].toNat : Int) ≤ 57 := by omega
            clear hd2
            go_wp2
            go_roundg g
            case measure => omega
            case rel => exact ⟨rfl, k + 1, by have := HG.out; omega, by go_num, by show _ = _; rw [HS.out, HA.out]; rfl⟩
          · have d9 : ((s[k].toNat : Int) == 45) = true := by simp; omega
            clear hd2
            go_wp2
            go_roundg g
            case measure => omega
            case rel => exact ⟨rfl, k + 1, by have := HG.out; omega, by go_num, by show _ = _; rw [HS.out, HA.out]; rfl⟩

end Rg
end Go.Proofs.YthbmnkeigmbbdaaGreat

/-
  WHO BEARS WHOM: rig.keepsOff, rig.Bear, the document's Bear, and the examples.
-/
namespace Go.Proofs.YthbmnkeigmbbdaaGreat
open Go.RowKit
namespace Rg
/-- Whether one that is apart of group a will not be where one of group g is. -/
def koB (a g : ByteArray) : Bool := !(a.toList.isEmpty) && (a.toList == g.toList)
def bearB (aa ag ba bg : ByteArray) : Bool := !(koB aa bg) && !(koB ba ag)
theorem koB_nil (a g : ByteArray) (h : a.toList = []) : koB a g = false := by unfold koB; simp [h]
theorem koB_eq (a g : ByteArray) (h : ¬ a.toList = []) : koB a g = (a.toList == g.toList) := by unfold koB; simp [h]
theorem bear_turned (aa ag ba bg : ByteArray) : bearB aa ag ba bg = bearB ba bg aa ag := by unfold bearB; rw [Bool.and_comm]
theorem two (w : World) (o o' : Obj) : Below w.heap.size w ((w.alloc o).alloc o') := ((Below.refl _ _).alloc (Nat.le_refl _) _).alloc (by simp) _

set_option maxHeartbeats 400000 in
theorem off_any (xn xg xa : ByteArray) (x0 x1 x2 xr : Int) (xwa xba : Option Addr) (xwn xwc xbn xbc : Nat) (yn yg ya : ByteArray) (y0 y1 y2 yr : Int) (ywa yba : Option Addr) (ywn ywc ybn ybc : Nat) (w : World) :
    Calls Tryz.prog 209 #[.agg #[.string xn, .int .i64 x0, .int .i64 x1, .int .i64 x2, .slice xwa xwn xwc, .slice xba xbn xbc, .string xg, .string xa, .int .i64 xr], .agg #[.string yn, .int .i64 y0, .int .i64 y1, .int .i64 y2, .slice ywa ywn ywc, .slice yba ybn ybc, .string yg, .string ya, .int .i64 yr]] w fun e w' => e = .returned (.bool (koB xa yg)) ∧ Below w.heap.size w w' := by
  by_cases h0 : xa.toList = []
  · have HN := Lib.hid (koB_nil xa yg h0)
    go_enter Tryz.func209, Tryz.ntmps209
    go_wp2
    go_ret
    exact ⟨by rw [HN.out]; rfl, two _ _ _⟩
  · have HN := Lib.hid (koB_eq xa yg h0)
    have h1 : xa.toList.isEmpty = false := by simpa using h0
    go_enter Tryz.func209, Tryz.ntmps209
    go_wp2
    go_ret
    exact ⟨by rw [HN.out]; rfl, two _ _ _⟩

theorem boxed {w w1 : World} {a b : Array Value} {t u : TypeId} (hb : Below ((w.alloc (.cells a t)).alloc (.cells b u)).heap.size ((w.alloc (.cells a t)).alloc (.cells b u)) w1) :
    (∀ i, w1.cell? ⟨w.heap.size, i, none⟩ = a[i]?) ∧ (∀ i, w1.cell? ⟨w.heap.size + 1, i, none⟩ = b[i]?) ∧ Below w.heap.size w w1 := by
  refine ⟨fun i => ?_, fun i => ?_, (two w _ _).trans (hb.mono (by simp; omega))⟩
  · rw [hb.cell (by simp; omega)]
    simp [go_sem]
  · rw [hb.cell (by simp)]
    simp [go_sem]

set_option maxHeartbeats 800000 in
theorem bear_any (xn xg xa : ByteArray) (x0 x1 x2 xr : Int) (xwa xba : Option Addr) (xwn xwc xbn xbc : Nat) (yn yg ya : ByteArray) (y0 y1 y2 yr : Int) (ywa yba : Option Addr) (ywn ywc ybn ybc : Nat) (w : World) :
    Calls Tryz.prog 185 #[.agg #[.string xn, .int .i64 x0, .int .i64 x1, .int .i64 x2, .slice xwa xwn xwc, .slice xba xbn xbc, .string xg, .string xa, .int .i64 xr], .agg #[.string yn, .int .i64 y0, .int .i64 y1, .int .i64 y2, .slice ywa ywn ywc, .slice yba ybn ybc, .string yg, .string ya, .int .i64 yr]] w fun e w' => e = .returned (.bool (bearB xa xg ya yg)) ∧ Below w.heap.size w w' := by
  have h1 := fun w => off_any xn xg xa x0 x1 x2 xr xwa xba xwn xwc xbn xbc yn yg ya y0 y1 y2 yr ywa yba ywn ywc ybn ybc w
  have h2 := fun w => off_any yn yg ya y0 y1 y2 yr ywa yba ywn ywc ybn ybc xn xg xa x0 x1 x2 xr xwa xba xwn xwc xbn xbc w
  cases hk : koB xa yg
  · have HN : Hid (bearB xa xg ya yg = !(koB ya xg)) := by show _ = _; unfold bearB; rw [hk]; rfl
    rw [hk] at h1
    have H1 := Lib.hid h1
    have H2 := Lib.hid h2
    clear h1 h2 hk
    generalize koB ya xg = r at *
    go_enter Tryz.func185, Tryz.ntmps185
    go_wp2_with fail
    refine (H1.out _).mono ?_
    rintro e w1 ⟨rfl, hb⟩
    obtain ⟨c0, c1, hbw⟩ := boxed hb
    have hz := hb.size
    simp at hz
    have HB := Lib.hid hbw
    clear hb hbw
    go_wp2_with fail
    refine (H2.out _).mono ?_
    rintro e w2 ⟨rfl, hb⟩
    have HB2 := Lib.hid (HB.out.trans (hb.mono HB.out.size))
    clear hb
    go_wp2
    go_ret
    exact ⟨by rw [HN.out]; rfl, HB2.out⟩
  · have HN : Hid (bearB xa xg ya yg = false) := by show _ = _; unfold bearB; rw [hk]; rfl
    rw [hk] at h1
    have H1 := Lib.hid h1
    clear h1 h2 hk
    go_enter Tryz.func185, Tryz.ntmps185
    go_wp2_with fail
    refine (H1.out _).mono ?_
    rintro e w1 ⟨rfl, hb⟩
    obtain ⟨c0, c1, hbw⟩ := boxed hb
    have HB := Lib.hid hbw
    clear hb hbw
    go_wp2
    go_ret
    exact ⟨by rw [HN.out]; rfl, HB.out⟩

set_option maxHeartbeats 800000 in
theorem bear_ref (xn xg xa : ByteArray) (x0 x1 x2 xr : Int) (xwa xba : Option Addr) (xwn xwc xbn xbc : Nat) (yn yg ya : ByteArray) (y0 y1 y2 yr : Int) (ywa yba : Option Addr) (ywn ywc ybn ybc : Nat) (w : World) :
    Calls Tryz.prog 155 #[.agg #[.string xn, .int .i64 x0, .int .i64 x1, .int .i64 x2, .slice xwa xwn xwc, .slice xba xbn xbc, .string xg, .string xa, .int .i64 xr], .agg #[.string yn, .int .i64 y0, .int .i64 y1, .int .i64 y2, .slice ywa ywn ywc, .slice yba ybn ybc, .string yg, .string ya, .int .i64 yr]] w fun e w' => e = .returned (.bool (bearB xa xg ya yg)) ∧ Below w.heap.size w w' := by
  have HN : Hid (bearB xa xg ya yg = (!(koB xa yg) && !(koB ya xg))) := rfl
  by_cases h0 : xa.toList = []
  · have H1 := Lib.hid (koB_nil xa yg h0)
    by_cases h2 : ya.toList = []
    · have H2 := Lib.hid (koB_nil ya xg h2)
      go_enter Tryz.func155, Tryz.ntmps155
      go_wp2
      go_ret
      exact ⟨by rw [HN.out, H1.out, H2.out]; rfl, two _ _ _⟩
    · have H2 := Lib.hid (koB_eq ya xg h2)
      have h3 : ya.toList.isEmpty = false := by simpa using h2
      go_enter Tryz.func155, Tryz.ntmps155
      go_wp2
      go_ret
      exact ⟨by rw [HN.out, H1.out, H2.out]; rfl, two _ _ _⟩
  · have H1 := Lib.hid (koB_eq xa yg h0)
    have h1 : xa.toList.isEmpty = false := by simpa using h0
    by_cases he : xa.toList = yg.toList
    · have H3 := Lib.hid (show bearB xa xg ya yg = false by rw [HN.out, H1.out]; simp [he])
      have he2 : (xa.toList == yg.toList) = true := by simpa using he
      clear he
      go_enter Tryz.func155, Tryz.ntmps155
      go_wp2
      go_ret
      exact ⟨by rw [H3.out]; rfl, two _ _ _⟩
    · have he2 : (xa.toList == yg.toList) = false := by simpa using he
      rw [he2] at H1
      by_cases h2 : ya.toList = []
      · have H2 := Lib.hid (koB_nil ya xg h2)
        go_enter Tryz.func155, Tryz.ntmps155
        go_wp2
        go_ret
        exact ⟨by rw [HN.out, H1.out, H2.out]; rfl, two _ _ _⟩
      · have H2 := Lib.hid (koB_eq ya xg h2)
        have h3 : ya.toList.isEmpty = false := by simpa using h2
        go_enter Tryz.func155, Tryz.ntmps155
        go_wp2
        go_ret
        exact ⟨by rw [HN.out, H1.out, H2.out]; rfl, two _ _ _⟩

theorem bear_at {xn xg xa : ByteArray} {x0 x1 x2 xr : Int} {xwa xba : Option Addr} {xwn xwc xbn xbc : Nat} {yn yg ya : ByteArray} {y0 y1 y2 yr : Int} {ywa yba : Option Addr} {ywn ywc ybn ybc : Nat} {r : Bool} (h : bearB xa xg ya yg = r) (w : World) :
    Calls Tryz.prog 185 #[.agg #[.string xn, .int .i64 x0, .int .i64 x1, .int .i64 x2, .slice xwa xwn xwc, .slice xba xbn xbc, .string xg, .string xa, .int .i64 xr], .agg #[.string yn, .int .i64 y0, .int .i64 y1, .int .i64 y2, .slice ywa ywn ywc, .slice yba ybn ybc, .string yg, .string ya, .int .i64 yr]] w fun e w' => e = .returned (.bool r) ∧ Below w.heap.size w w' := by
  subst h
  exact bear_any xn xg xa x0 x1 x2 xr xwa xba xwn xwc xbn xbc yn yg ya y0 y1 y2 yr ywa yba ywn ywc ybn ybc w
end Rg
end Go.Proofs.YthbmnkeigmbbdaaGreat

/-
  AMOUNTS: rig.upto, the document's amounts.
-/
namespace Go.Proofs.YthbmnkeigmbbdaaGreat
open Go.RowKit
namespace Rg
def inB (z m : Int) : Bool := decide (0 ≤ z) && decide (z ≤ m)
def uptoB (z0 z1 z2 m : Int) : Bool := inB z0 m && (inB z1 m && inB z2 m)
def prefB (z0 z1 z2 m : Int) : Nat → Bool
  | 0 => true
  | 1 => inB z0 m
  | 2 => inB z0 m && inB z1 m
  | _ => uptoB z0 z1 z2 m
theorem inB_yes (z m : Int) (h : ¬ z < 0) (h2 : ¬ m < z) : inB z m = true := by unfold inB; simp; omega
theorem inB_no (z m : Int) (h : z < 0 ∨ m < z) : inB z m = false := by unfold inB; simp; omega
theorem arr0 (z0 z1 z2 : Int) (w : World) : (Instr.index 39 (.agg #[.int .i64 z0, .int .i64 z1, .int .i64 z2]) (.int .i64 0)).run Tryz.prog w = .ok (.int .i64 z0) w := by kernel_rfl
theorem arr1 (z0 z1 z2 : Int) (w : World) : (Instr.index 39 (.agg #[.int .i64 z0, .int .i64 z1, .int .i64 z2]) (.int .i64 1)).run Tryz.prog w = .ok (.int .i64 z1) w := by kernel_rfl
theorem arr2 (z0 z1 z2 : Int) (w : World) : (Instr.index 39 (.agg #[.int .i64 z0, .int .i64 z1, .int .i64 z2]) (.int .i64 2)).run Tryz.prog w = .ok (.int .i64 z2) w := by kernel_rfl
theorem upto_no0 (z0 z1 z2 m : Int) (h : z0 < 0 ∨ m < z0) : uptoB z0 z1 z2 m = false := by unfold uptoB; rw [inB_no _ _ h]; rfl
theorem upto_no1 (z0 z1 z2 m : Int) (h : z1 < 0 ∨ m < z1) : uptoB z0 z1 z2 m = false := by unfold uptoB; rw [inB_no z1 _ h]; simp
theorem upto_no2 (z0 z1 z2 m : Int) (h : z2 < 0 ∨ m < z2) : uptoB z0 z1 z2 m = false := by unfold uptoB; rw [inB_no z2 _ h]; simp
theorem one_ (w : World) (o : Obj) : Below w.heap.size w (w.alloc o) := (Below.refl _ _).alloc (Nat.le_refl _) _

set_option maxHeartbeats 2000000 in
theorem upto_any (z0 z1 z2 m : Int) (w : World) :
    Calls Tryz.prog 118 #[.agg #[.int .i64 z0, .int .i64 z1, .int .i64 z2], .int .i64 m] w fun e w' => e = .returned (.bool (uptoB z0 z1 z2 m)) ∧ Below w.heap.size w w' := by
  have A0 := arr0 z0 z1 z2
  have A1 := arr1 z0 z1 z2
  have A2 := arr2 z0 z1 z2
  have HB := Lib.hid (one_ w (.cells #[.int .i64 z0, .int .i64 z1, .int .i64 z2] 39))
  go_enter Tryz.func118, Tryz.ntmps118
  go_wp2
  go_loopg [8] 3 (fun g i wx => wx = w.alloc (.cells #[.int .i64 z0, .int .i64 z1, .int .i64 z2] 39) ∧ ∃ k : Nat, k + g = 3 ∧ i = .int .i64 k ∧ Aside (prefB z0 z1 z2 m k = true))
  case atStart => exact ⟨rfl, 0, by omega, rfl, by show _ = _; rfl⟩
  case round =>
    obtain ⟨rfl, k, hkg, rfl, HA⟩ := hrel
    cases gk with
    | zero =>
      obtain rfl : k = 3 := by omega
      clear hkg
      go_wp2
      go_ret
      exact ⟨by rw [show uptoB z0 z1 z2 m = true from HA.out]; rfl, HB.out⟩
    | succ g =>
      have HG := Lib.hid hkg
      have h3 : k = 0 ∨ k = 1 ∨ k = 2 := by omega
      clear hkg
      rcases h3 with rfl | rfl | rfl
      · by_cases hn : z0 < 0
        · have HN := Lib.hid (upto_no0 z0 z1 z2 m (.inl hn))
          go_wp2
          go_ret
          exact ⟨by rw [HN.out]; rfl, HB.out⟩
        · by_cases hm : m < z0
          · have HN := Lib.hid (upto_no0 z0 z1 z2 m (.inr hm))
            have hn' : decide (z0 < 0) = false := by simpa using hn
            go_wp2
            go_ret
            exact ⟨by rw [HN.out]; rfl, HB.out⟩
          · have HY := Lib.hid (inB_yes _ _ hn hm)
            have hn' : decide (z0 < 0) = false := by simpa using hn
            have hm' : decide (m < z0) = false := by simpa using hm
            go_wp2
            go_roundg g
            case measure => omega
            case rel => exact ⟨rfl, 1, by have := HG.out; omega, rfl, HY.out⟩
      · by_cases hn : z1 < 0
        · have HN := Lib.hid (upto_no1 z0 z1 z2 m (.inl hn))
          go_wp2
          go_ret
          exact ⟨by rw [HN.out]; rfl, HB.out⟩
        · by_cases hm : m < z1
          · have HN := Lib.hid (upto_no1 z0 z1 z2 m (.inr hm))
            have hn' : decide (z1 < 0) = false := by simpa using hn
            go_wp2
            go_ret
            exact ⟨by rw [HN.out]; rfl, HB.out⟩
          · have HY := Lib.hid (inB_yes _ _ hn hm)
            have hn' : decide (z1 < 0) = false := by simpa using hn
            have hm' : decide (m < z1) = false := by simpa using hm
            go_wp2
            go_roundg g
            case measure => omega
            case rel => exact ⟨rfl, 2, by have := HG.out; omega, rfl, by show (inB z0 m && inB z1 m) = true; rw [show inB z0 m = true from HA.out, HY.out]; rfl⟩
      · by_cases hn : z2 < 0
        · have HN := Lib.hid (upto_no2 z0 z1 z2 m (.inl hn))
          go_wp2
          go_ret
          exact ⟨by rw [HN.out]; rfl, HB.out⟩
        · by_cases hm : m < z2
          · have HN := Lib.hid (upto_no2 z0 z1 z2 m (.inr hm))
            have hn' : decide (z2 < 0) = false := by simpa using hn
            go_wp2
            go_ret
            exact ⟨by rw [HN.out]; rfl, HB.out⟩
          · have HY := Lib.hid (inB_yes _ _ hn hm)
            have hn' : decide (z2 < 0) = false := by simpa using hn
            have hm' : decide (m < z2) = false := by simpa using hm
            go_wp2
            go_roundg g
            case measure => omega
            case rel => exact ⟨rfl, 3, by have := HG.out; omega, rfl, by
              have h : (inB z0 m && inB z1 m) = true := HA.out
              show (inB z0 m && (inB z1 m && inB z2 m)) = true
              rw [← Bool.and_assoc, h, HY.out]; rfl⟩
end Rg
end Go.Proofs.YthbmnkeigmbbdaaGreat

/-
  Two arrays of three numbers, held against each other.
-/
namespace Go.Proofs.YthbmnkeigmbbdaaGreat
open Go.RowKit
namespace Rg
def eqA (a0 a1 a2 b0 b1 b2 : Int) : Bool := (a0 == b0) && ((a1 == b1) && (a2 == b2))
set_option maxRecDepth 100000 in
theorem eql_arr (a0 a1 a2 b0 b1 b2 : Int) (w : World) : (binOp .eql 39 (.agg #[.int .i64 a0, .int .i64 a1, .int .i64 a2]) (.agg #[.int .i64 b0, .int .i64 b1, .int .i64 b2])).run Tryz.prog w = .ok (.bool (eqA a0 a1 a2 b0 b1 b2)) w := by
  have u2 := Tryz.underlying2
  have a2' := Tryz.isAgg2
  have z2 := Tryz.sizeOf2
  have hT := Tryz.underlying39
  rw [run_eql_struct, show (10000 : Nat) = 9999 + 1 from rfl]
  unfold Op.equalIn
  simp only [Sem.run_bind, run_underlying hT, Result.andThen_ok, z2]
  simp [List.range', go_sem]
  by_cases h0 : a0 = b0 <;> by_cases h1 : a1 = b1 <;> by_cases h2 : a2 = b2 <;> simp [h0, h1, h2, eqA]
theorem guard_arr : Tryz.prog.eqGuardType Tryz.prog.depth 39 = false := by kernel_rfl
end Rg
end Go.Proofs.YthbmnkeigmbbdaaGreat

/-
  ARGUMENTS: pairs, nodes, tasks, arrays of three, slices of tasks that came in.
-/
namespace Go.Proofs.YthbmnkeigmbbdaaGreat
open Go.RowKit Go.WideShapes Go.ChangeShapes
namespace Rg
structure Pr where
  k : ByteArray
  v : ByteArray
/-- v is a slice of the pairs ps, in memory below block B. -/
def Pairs (w : World) (B : Nat) (v : Value) (ps : List Pr) : Prop :=
  ∃ a c, v = .slice a ps.length c ∧ ps.length ≤ 4611686018427387904 ∧ (∀ p ∈ ps, p.k.size ≤ maxLen ∧ p.v.size ≤ maxLen) ∧
    (0 < ps.length → ∃ b off, a = some ⟨b, off, none⟩ ∧ b < B ∧ ∀ i (h : i < ps.length),
      w.cell? ⟨b, off + i * 2, none⟩ = some (.string ps[i].k) ∧ w.cell? ⟨b, off + i * 2 + 1, none⟩ = some (.string ps[i].v))
set_option maxRecDepth 100000 in
theorem Pairs.keep {w w' : World} {B : Nat} {v : Value} {ps : List Pr} (h : Pairs w B v ps) (hb : Below B w w') : Pairs w' B v ps := by
  obtain ⟨a, c, rfl, h1, h2, h3⟩ := h
  refine ⟨a, c, rfl, h1, h2, fun hp => ?_⟩
  obtain ⟨b, off, rfl, hlt, hc⟩ := h3 hp
  exact ⟨b, off, rfl, hlt, fun i hi => ⟨(hb.cell (by exact hlt)).trans (hc i hi).1, (hb.cell (by exact hlt)).trans (hc i hi).2⟩⟩
set_option maxRecDepth 100000 in
theorem Pairs.more {w : World} {B B' : Nat} {v : Value} {ps : List Pr} (h : Pairs w B v ps) (hb : B ≤ B') : Pairs w B' v ps := by
  obtain ⟨a, c, rfl, h1, h2, h3⟩ := h
  refine ⟨a, c, rfl, h1, h2, fun hp => ?_⟩
  obtain ⟨b, off, rfl, hlt, hc⟩ := h3 hp
  exact ⟨b, off, rfl, by omega, hc⟩
set_option maxRecDepth 100000 in
theorem Pairs.none_ (w : World) (B : Nat) : Pairs w B (.slice none 0 0) [] := ⟨none, 0, rfl, by simp, by simp, by simp⟩

set_option maxRecDepth 100000 in
theorem spot_none (w : World) (a : Addr) (v : Value) (h : w.cell? a = some v) : a.spot = none := by
  unfold World.cell? at h
  split at h
  · cases hs : a.spot with
    | none => rfl
    | some q => rw [hs] at h; simp at h
  · cases h
set_option maxRecDepth 100000 in
theorem add_form (a : Addr) (i : Nat) (h : a.spot = none) : a.add i = ⟨a.block, a.off + i, none⟩ := by
  cases a with
  | mk b o s => subst h; rw [Addr.add_lit]
set_option maxRecDepth 100000 in
theorem block_add0 (a : Addr) : a.add 0 = a := by unfold Addr.add; split <;> simp_all
set_option maxRecDepth 100000 in
theorem list_of {α : Type} (R : Nat → α → Prop) : ∀ n, (∀ i, i < n → ∃ f, R i f) → ∃ l : List α, l.length = n ∧ ∀ i (h : i < l.length), R i l[i]
  | 0, _ => ⟨[], rfl, fun i h => absurd h (Nat.not_lt_zero _)⟩
  | n + 1, h => by
    obtain ⟨l, hl, hr⟩ := list_of R n (fun i hi => h i (by omega))
    obtain ⟨f, hf⟩ := h n (by omega)
    refine ⟨l ++ [f], by simp [hl], fun i hi => ?_⟩
    by_cases hin : i < l.length
    · rw [List.getElem_append_left hin]; exact hr i hin
    · have : i = n := by simp at hi; omega
      subst this
      rw [List.getElem_append_right (by omega)]
      simpa [hl] using hf
section
variable {H : Type} {enc : TypeId × Value → H} {w : World} {spare : Nat → Bool} {held : Bool}
set_option maxRecDepth 100000 in
theorem all_mem {P : Program} {e : TypeId} {y : DataW H} : ∀ {l : List (DataW H)}, y ∈ l → ∀ n ∈ y.weights P e, n ∈ DataW.weightsAll P e l
  | [], h, _, _ => absurd h List.not_mem_nil
  | d :: r, h, n, hn => by
    unfold DataW.weightsAll
    rcases List.mem_cons.1 h with rfl | h
    · exact List.mem_append_left _ hn
    · exact List.mem_append_right _ (all_mem h n hn)
set_option maxRecDepth 100000 in
theorem slice_len {P : Program} {t e : TypeId} {a b : List (DataW H)} (ht : P.underlying t = some (.slice e)) (hw : ∀ n ∈ (DataW.slice a b).weights P t, n ≤ reachBytes) : a.length * P.bytesOf e ≤ reachBytes := by
  have := hw ((a.length + b.length) * P.bytesOf e) (by simp [DataW.weights, ht])
  exact Nat.le_trans (Nat.mul_le_mul_right _ (by omega)) this

set_option maxRecDepth 100000 in
theorem pair_cs {n : Nat} {cs : List Value} {y : DataW H × List MemPlace} (h : DataW.trod enc Tryz.prog w 0 spare held n 89 cs = some y) (hw : ∀ n ∈ y.1.weights Tryz.prog 89, n ≤ reachBytes) :
    ∃ p : Pr, cs = [.string p.k, .string p.v] ∧ p.k.size ≤ maxLen ∧ p.v.size ≤ maxLen := by
  have hu := Tryz.underlying89
  obtain ⟨xs, m, -, rfl, hl, hlen, hf⟩ := DataW.trod_struct hu h
  match xs, hlen with
  | [y0, y1], _ =>
    have hl2 : cs.length = 2 := hl
    match cs, hl2 with
    | [c0, c1], _ =>
      have t0 : DataW.trod enc Tryz.prog w 0 spare held m 9 [c0] = some y0 := hf 0 _ rfl
      have t1 : DataW.trod enc Tryz.prog w 0 spare held m 9 [c1] = some y1 := hf 1 _ rfl
      obtain ⟨s0, e0, e0', z0⟩ := DataW.trod_string Tryz.underlying9 t0
      obtain ⟨s1, e1, e1', z1⟩ := DataW.trod_string Tryz.underlying9 t1
      cases e0
      cases e1
      exact ⟨⟨s0, s1⟩, rfl, z0, z1⟩
set_option maxRecDepth 100000 in
theorem pairs_cs {n : Nat} {cs : List Value} {y : DataW H × List MemPlace} (h : DataW.trod enc Tryz.prog w 0 spare held n 40 cs = some y) (hw : ∀ n ∈ y.1.weights Tryz.prog 40, n ≤ reachBytes) :
    ∃ a c ps, cs = [.slice a ps.length c] ∧ Pairs w w.heap.size (.slice a ps.length c) ps ∧ (ps.length * 32 ≤ reachBytes ∧ ps.length ≤ c ∧ c ≤ maxLen) := by
  have ht := Tryz.underlying40
  rcases DataW.trod_slice ht h with ⟨rfl, -⟩ | ⟨a, len, cap, elems, rest, m, -, rfl, rfl, hb, hl, hm, hlen, hel, -, -⟩
  · exact ⟨none, 0, [], rfl, Pairs.none_ _ _, by simp, by simp, by simp⟩
  · have hln := slice_len ht hw
    rw [show Tryz.prog.bytesOf 89 = 32 from rfl, List.length_map, hlen] at hln
    have hwe : ∀ y ∈ elems, ∀ n ∈ y.1.weights Tryz.prog 89, n ≤ reachBytes := by
      intro y hy n hn
      refine hw n ?_
      have := all_mem (List.mem_map_of_mem (f := (·.1)) hy) n hn
      simp only [DataW.weights, ht, List.mem_cons, List.mem_append]
      exact .inr (.inl this)
    have each : ∀ i, i < len → ∃ p : Pr, (w.cell? (a.add (i * 2)) = some (.string p.k) ∧ w.cell? ((a.add (i * 2)).add 1) = some (.string p.v)) ∧ p.k.size ≤ maxLen ∧ p.v.size ≤ maxLen := by
      intro i hi
      have hy := hel i hi
      rw [List.getElem?_eq_getElem (by omega : i < elems.length), show Tryz.prog.cellsOf 89 = 2 from rfl, Option.bind_eq_some_iff] at hy
      obtain ⟨cs', hcs, hy'⟩ := hy
      obtain ⟨p, rfl, z0, z1⟩ := pair_cs hy' (hwe _ (List.getElem_mem _))
      obtain ⟨-, -, hcell⟩ := World.cells?_some hcs
      refine ⟨p, ⟨?_, ?_⟩, z0, z1⟩
      · have := hcell 0 (by omega)
        rw [block_add0] at this
        exact this
      · exact hcell 1 (by omega)
    obtain ⟨ps, hfl, hfs⟩ := list_of _ len each
    refine ⟨some a, cap, ps, by rw [hfl], ⟨some a, cap, rfl, by rw [hfl]; simp only [reachBytes] at hln; omega, fun p hp => ?_, fun hp => ?_⟩, by rw [hfl]; exact hln, by rw [hfl]; exact hl, hm⟩
    · obtain ⟨i, hi, rfl⟩ := List.getElem_of_mem hp
      exact (hfs i hi).2
    · have hz := (hfs 0 hp).1.1
      have hx := World.block_lt_of_cell? w _ hz
      have hsp : a.spot = none := by
        have := spot_none w _ _ hz
        simpa [Addr.add] using this
      refine ⟨a.block, a.off, by cases a; simp_all, by simpa [Addr.add] using hx, fun i hi => ?_⟩
      obtain ⟨k0, k1⟩ := (hfs i hi).1
      rw [add_form a _ hsp] at k0 k1
      exact ⟨k0, k1⟩
set_option maxRecDepth 100000 in
/-- An array of three numbers. -/
theorem arr_cs {n : Nat} {cs : List Value} {y : DataW H × List MemPlace} (hl : cs.length = 3) (h : DataW.trod enc Tryz.prog w 0 spare held n 39 cs = some y) :
    ∃ z0 z1 z2 : Int, cs = [.int .i64 z0, .int .i64 z1, .int .i64 z2] ∧ (-9223372036854775808 ≤ z0 ∧ z0 ≤ 9223372036854775807) ∧ (-9223372036854775808 ≤ z1 ∧ z1 ≤ 9223372036854775807) ∧ (-9223372036854775808 ≤ z2 ∧ z2 ≤ 9223372036854775807) := by
  match cs, hl with
  | [c0, c1, c2], _ =>
    obtain ⟨y0, y1, y2, m, -, t0, t1, t2⟩ := trod_array3 Tryz.underlying39 rfl h
    obtain ⟨z0, e0, -, b0⟩ := DataW.trod_int Tryz.underlying2 t0
    obtain ⟨z1, e1, -, b1⟩ := DataW.trod_int Tryz.underlying2 t1
    obtain ⟨z2, e2, -, b2⟩ := DataW.trod_int Tryz.underlying2 t2
    cases e0
    cases e1
    cases e2
    exact ⟨z0, z1, z2, rfl, bounds_i64 b0, bounds_i64 b1, bounds_i64 b2⟩
/-- What is known of a number. -/
def In64 (z : Int) : Prop := -9223372036854775808 ≤ z ∧ z ≤ 9223372036854775807
set_option maxRecDepth 100000 in
theorem task_cs {n : Nat} {cs : List Value} {y : DataW H × List MemPlace} (h : DataW.trod enc Tryz.prog w 0 spare held n 42 cs = some y) (hw : ∀ n ∈ y.1.weights Tryz.prog 42, n ≤ reachBytes) :
    ∃ xn xg xa x0 x1 x2 xr xwa xwc xba xbc ws bs, cs = [.string xn, .int .i64 x0, .int .i64 x1, .int .i64 x2, .slice xwa ws.length xwc, .slice xba bs.length xbc, .string xg, .string xa, .int .i64 xr] ∧
      (xn.size ≤ maxLen ∧ xg.size ≤ maxLen ∧ xa.size ≤ maxLen) ∧ (In64 x0 ∧ In64 x1 ∧ In64 x2 ∧ In64 xr) ∧
      Pairs w w.heap.size (.slice xwa ws.length xwc) ws ∧ Pairs w w.heap.size (.slice xba bs.length xbc) bs ∧ (ws.length * 32 ≤ reachBytes ∧ ws.length ≤ xwc ∧ xwc ≤ maxLen) ∧ (bs.length * 32 ≤ reachBytes ∧ bs.length ≤ xbc ∧ xbc ≤ maxLen) := by
  have hu := Tryz.underlying42
  obtain ⟨xs, m, -, rfl, hl, hlen, hf⟩ := DataW.trod_struct hu h
  match xs, hlen with
  | [y0, y1, y2, y3, y4, y5, y6], _ =>
    have hl2 : cs.length = 9 := hl
    match cs, hl2 with
    | [c0, c1, c2, c3, c4, c5, c6, c7, c8], _ =>
      have t0 : DataW.trod enc Tryz.prog w 0 spare held m 9 [c0] = some y0 := hf 0 _ rfl
      have t1 : DataW.trod enc Tryz.prog w 0 spare held m 39 [c1, c2, c3] = some y1 := hf 1 _ rfl
      have t2 : DataW.trod enc Tryz.prog w 0 spare held m 40 [c4] = some y2 := hf 2 _ rfl
      have t3 : DataW.trod enc Tryz.prog w 0 spare held m 40 [c5] = some y3 := hf 3 _ rfl
      have t4 : DataW.trod enc Tryz.prog w 0 spare held m 9 [c6] = some y4 := hf 4 _ rfl
      have t5 : DataW.trod enc Tryz.prog w 0 spare held m 9 [c7] = some y5 := hf 5 _ rfl
      have t6 : DataW.trod enc Tryz.prog w 0 spare held m 3 [c8] = some y6 := hf 6 _ rfl
      have w2 : ∀ n ∈ y2.1.weights Tryz.prog 40, n ≤ reachBytes := fun n hn => hw n (by simp only [DataW.weights, hu, DataW.weightsEach, List.map_cons, List.map_nil, List.mem_append]; exact .inr (.inr (.inl hn)))
      have w3 : ∀ n ∈ y3.1.weights Tryz.prog 40, n ≤ reachBytes := fun n hn => hw n (by simp only [DataW.weights, hu, DataW.weightsEach, List.map_cons, List.map_nil, List.mem_append]; exact .inr (.inr (.inr (.inl hn))))
      obtain ⟨s0, e0, e0', z0⟩ := DataW.trod_string Tryz.underlying9 t0
      obtain ⟨x0, x1, x2, e1, b0, b1, b2⟩ := arr_cs rfl t1
      obtain ⟨a2, k2, ws, e2, p2, l2⟩ := pairs_cs t2 w2
      obtain ⟨a3, k3, bs, e3, p3, l3⟩ := pairs_cs t3 w3
      obtain ⟨s4, e4, e4', z4⟩ := DataW.trod_string Tryz.underlying9 t4
      obtain ⟨s5, e5, e5', z5⟩ := DataW.trod_string Tryz.underlying9 t5
      obtain ⟨z6, e6, e6', b6⟩ := DataW.trod_int Tryz.underlying3 t6
      cases e0
      cases e1
      cases e2
      cases e3
      cases e4
      cases e5
      cases e6
      exact ⟨s0, s4, s5, x0, x1, x2, z6, a2, k2, a3, k3, ws, bs, rfl, ⟨z0, z4, z5⟩, ⟨b0, b1, b2, bounds_i64 b6⟩, p2, p3, l2, l3⟩
end
section
variable {H : Type} {enc : TypeId × Value → H} {w : World} {v : Value} {d : DataW H} {ps : List MemPlace} {base : Nat}
set_option maxRecDepth 100000 in
theorem task_of (ho : Value.okWide Tryz.prog w .any base 42 v) (hk : DataW.Trod enc Tryz.prog w 0 (fun _ => true) true 42 v d ps) (hw : ∀ n ∈ d.weights Tryz.prog 42, n ≤ reachBytes) :
    ∃ xn xg xa x0 x1 x2 xr xwa xwc xba xbc ws bs, v = .agg #[.string xn, .int .i64 x0, .int .i64 x1, .int .i64 x2, .slice xwa ws.length xwc, .slice xba bs.length xbc, .string xg, .string xa, .int .i64 xr] ∧
      (xn.size ≤ maxLen ∧ xg.size ≤ maxLen ∧ xa.size ≤ maxLen) ∧ (In64 x0 ∧ In64 x1 ∧ In64 x2 ∧ In64 xr) ∧
      Pairs w w.heap.size (.slice xwa ws.length xwc) ws ∧ Pairs w w.heap.size (.slice xba bs.length xbc) bs ∧ (ws.length * 32 ≤ reachBytes ∧ ws.length ≤ xwc ∧ xwc ≤ maxLen) ∧ (bs.length * 32 ≤ reachBytes ∧ bs.length ≤ xbc ∧ xbc ≤ maxLen) := by
  obtain ⟨cs, rfl, hcs⟩ := okWide_struct Tryz.underlying42 ho
  obtain ⟨fuel, hf⟩ := hk
  obtain ⟨xn, xg, xa, x0, x1, x2, xr, xwa, xwc, xba, xbc, ws, bs, e, r⟩ := task_cs hf hw
  refine ⟨xn, xg, xa, x0, x1, x2, xr, xwa, xwc, xba, xbc, ws, bs, ?_, r⟩
  rcases cs with ⟨l⟩
  simp [Value.cells] at e
  rw [e]
structure Tk where
  n : ByteArray
  g : ByteArray
  a : ByteArray
  z0 : Int
  z1 : Int
  z2 : Int
  r : Int
  wa : Option Addr
  wn : Nat
  wc : Nat
  ba : Option Addr
  bn : Nat
  bc : Nat
/-- v is a slice of the tasks ts, in memory below block B. -/
def Tasks (w : World) (B : Nat) (v : Value) (ts : List Tk) : Prop :=
  ∃ a c, v = .slice a ts.length c ∧ ts.length ≤ 4611686018427387904 ∧ (∀ t ∈ ts, In64 t.z0 ∧ In64 t.z1 ∧ In64 t.z2) ∧
    (0 < ts.length → ∃ b off, a = some ⟨b, off, none⟩ ∧ b < B ∧ ∀ i (h : i < ts.length),
      w.cell? ⟨b, off + i * 9, none⟩ = some (.string ts[i].n) ∧ w.cell? ⟨b, off + i * 9 + 1, none⟩ = some (.int .i64 ts[i].z0) ∧ w.cell? ⟨b, off + i * 9 + 2, none⟩ = some (.int .i64 ts[i].z1) ∧
      w.cell? ⟨b, off + i * 9 + 3, none⟩ = some (.int .i64 ts[i].z2) ∧ w.cell? ⟨b, off + i * 9 + 4, none⟩ = some (.slice ts[i].wa ts[i].wn ts[i].wc) ∧ w.cell? ⟨b, off + i * 9 + 5, none⟩ = some (.slice ts[i].ba ts[i].bn ts[i].bc) ∧
      w.cell? ⟨b, off + i * 9 + 6, none⟩ = some (.string ts[i].g) ∧ w.cell? ⟨b, off + i * 9 + 7, none⟩ = some (.string ts[i].a) ∧ w.cell? ⟨b, off + i * 9 + 8, none⟩ = some (.int .i64 ts[i].r))
set_option maxRecDepth 100000 in
theorem Tasks.keep {w w' : World} {B : Nat} {v : Value} {ts : List Tk} (h : Tasks w B v ts) (hb : Below B w w') : Tasks w' B v ts := by
  obtain ⟨a, c, rfl, h1, h2, h3⟩ := h
  refine ⟨a, c, rfl, h1, h2, fun hp => ?_⟩
  obtain ⟨b, off, rfl, hlt, hc⟩ := h3 hp
  refine ⟨b, off, rfl, hlt, fun i hi => ?_⟩
  have k : ∀ o, w'.cell? ⟨b, o, none⟩ = w.cell? ⟨b, o, none⟩ := fun o => hb.cell (by exact hlt)
  simp only [k]
  exact hc i hi
set_option maxRecDepth 100000 in
theorem Tasks.more {w : World} {B B' : Nat} {v : Value} {ts : List Tk} (h : Tasks w B v ts) (hb : B ≤ B') : Tasks w B' v ts := by
  obtain ⟨a, c, rfl, h1, h2, h3⟩ := h
  refine ⟨a, c, rfl, h1, h2, fun hp => ?_⟩
  obtain ⟨b, off, rfl, hlt, hc⟩ := h3 hp
  exact ⟨b, off, rfl, by omega, hc⟩
end
end Rg
end Go.Proofs.YthbmnkeigmbbdaaGreat

/-
  PAIRS HELD AGAINST EACH OTHER: cmp.Compare, cmp.Or, rig.compare.
-/
namespace Go.Proofs.YthbmnkeigmbbdaaGreat
open Go.RowKit
namespace Rg
theorem lt_irr (a : List UInt8) : Op.bytesLess a a = false := by
  rw [Go.Proofs.bytesLess_eq]; simp [List.lt_irrefl]
theorem lt_asym (a b : List UInt8) (h : Op.bytesLess a b = true) : Op.bytesLess b a = false := by
  rw [Go.Proofs.bytesLess_eq] at *
  simp only [decide_eq_true_eq, decide_eq_false_iff_not] at *
  exact List.lt_asymm h
theorem lt_con (a b : List UInt8) (h : Op.bytesLess a b = false) (h2 : Op.bytesLess b a = false) : a = b := by
  rw [Go.Proofs.bytesLess_eq] at *
  simp only [decide_eq_false_iff_not] at *
  exact List.le_antisymm h2 h
/-- How two texts stand. -/
def cmpS (a b : ByteArray) : Int := if Op.bytesLess a.toList b.toList = true then -1 else if Op.bytesLess b.toList a.toList = true then 1 else 0
def cmpP (p q : Pr) : Int := if cmpS p.k q.k = 0 then cmpS p.v q.v else cmpS p.k q.k
def risesB (p q : Pr) : Bool := Op.bytesLess p.k.toList q.k.toList || ((p.k.toList == q.k.toList) && Op.bytesLess p.v.toList q.v.toList)
theorem cmp_neg (a b : ByteArray) (h : Op.bytesLess a.toList b.toList = true) : cmpS a b = -1 := by unfold cmpS; rw [if_pos h]
theorem cmp_pos (a b : ByteArray) (h : Op.bytesLess a.toList b.toList = false) (h2 : Op.bytesLess b.toList a.toList = true) : cmpS a b = 1 := by unfold cmpS; rw [if_neg (by simp [h]), if_pos h2]
theorem cmp_zero (a b : ByteArray) (h : Op.bytesLess a.toList b.toList = false) (h2 : Op.bytesLess b.toList a.toList = false) : cmpS a b = 0 := by unfold cmpS; rw [if_neg (by simp [h]), if_neg (by simp [h2])]
theorem cmp_rises (p q : Pr) : decide (0 ≤ cmpP p q) = !(risesB p q) := by
  unfold cmpP risesB
  cases h1 : Op.bytesLess p.k.toList q.k.toList
  · cases h2 : Op.bytesLess q.k.toList p.k.toList
    · rw [cmp_zero _ _ h1 h2, if_pos rfl, lt_con _ _ h1 h2]
      cases h3 : Op.bytesLess p.v.toList q.v.toList
      · cases h4 : Op.bytesLess q.v.toList p.v.toList
        · rw [cmp_zero _ _ h3 h4]; simp
        · rw [cmp_pos _ _ h3 h4]; simp
      · rw [cmp_neg _ _ h3]; simp
    · rw [cmp_pos _ _ h1 h2, if_neg (by decide)]
      have hne : (p.k.toList == q.k.toList) = false := by
        rw [beq_eq_false_iff_ne]
        intro he
        rw [he, lt_irr] at h2; cases h2
      rw [hne]; simp
  · rw [cmp_neg _ _ h1, if_neg (by decide)]; simp
set_option maxHeartbeats 400000 in
theorem nan_any (s : ByteArray) (w : World) : Calls Tryz.prog 149 #[.string s] w fun e w' => e = .returned (.bool false) ∧ w = w' := by
  go_enter Tryz.func149, Tryz.ntmps149
  go_wp2
  go_ret
  exact ⟨by simp, rfl⟩
set_option maxHeartbeats 400000 in
theorem cmp_any (a b : ByteArray) (w : World) : Calls Tryz.prog 81 #[.string a, .string b] w fun e w' => e = .returned (.int .i64 (cmpS a b)) ∧ w = w' := by
  cases h1 : Op.bytesLess a.toList b.toList
  · cases h2 : Op.bytesLess b.toList a.toList
    · have HN := Lib.hid (cmp_zero a b h1 h2)
      have he : (a.toList == b.toList) = true := by rw [lt_con _ _ h1 h2]; simp
      go_enter Tryz.func81, Tryz.ntmps81
      go_wp2_with (go_at_call 149; refine (nan_any _ _).mono ?_; rintro e w' ⟨rfl, rfl⟩)
      go_ret
      exact ⟨by rw [HN.out]; rfl, rfl⟩
    · have HN := Lib.hid (cmp_pos a b h1 h2)
      have he : (a.toList == b.toList) = false := by
        rw [beq_eq_false_iff_ne]
        intro e
        rw [e, lt_irr] at h2; cases h2
      go_enter Tryz.func81, Tryz.ntmps81
      go_wp2_with (go_at_call 149; refine (nan_any _ _).mono ?_; rintro e w' ⟨rfl, rfl⟩)
      go_ret
      exact ⟨by rw [HN.out]; rfl, rfl⟩
  · have HN := Lib.hid (cmp_neg a b h1)
    go_enter Tryz.func81, Tryz.ntmps81
    go_wp2_with (go_at_call 149; refine (nan_any _ _).mono ?_; rintro e w' ⟨rfl, rfl⟩)
    go_ret
    exact ⟨by rw [HN.out]; rfl, rfl⟩
def orI (a b : Int) : Int := if a = 0 then b else a
set_option maxHeartbeats 800000 in
theorem or_any (a b : Int) (g : Nat) (w : World) (h0 : w.cell? ⟨g, 0, none⟩ = some (.int .i64 a)) (h1 : w.cell? ⟨g, 1, none⟩ = some (.int .i64 b)) :
    Calls Tryz.prog 79 #[.slice (some ⟨g, 0, none⟩) 2 2] w fun e w' => e = .returned (.int .i64 (orI a b)) ∧ w = w' := by
  have H0 := Lib.hid h0
  have H1 := Lib.hid h1
  clear h0 h1
  go_enter Tryz.func79, Tryz.ntmps79
  go_wp2
  go_loopg [8] 2 (fun gg i wx => wx = w ∧ ∃ k : Nat, k + gg = 2 ∧ i = .int .i64 k ∧ Aside ((0 < k → a = 0) ∧ (1 < k → b = 0)))
  case atStart => exact ⟨rfl, 0, by omega, rfl, by omega, by omega⟩
  case round =>
    obtain ⟨rfl, k, hkg, rfl, HAB⟩ := hrel
    obtain ⟨HA, HB⟩ := HAB.out
    cases gk with
    | zero =>
      obtain rfl : k = 2 := by omega
      have HN := Lib.hid (show orI a b = 0 by unfold orI; rw [if_pos (HA (by omega))]; exact HB (by omega))
      clear hkg HA HB
      go_wp2
      go_ret
      exact ⟨by rw [HN.out]; rfl, rfl⟩
    | succ gg =>
      have HG := Lib.hid hkg
      have h3 : k = 0 ∨ k = 1 := by omega
      clear hkg
      rcases h3 with rfl | rfl
      · have e0 := H0.out
        by_cases ha : a = 0
        · subst ha
          clear HA HB
          go_wp2
          go_roundg gg
          case measure => omega
          case rel => exact ⟨rfl, 1, by have := HG.out; omega, rfl, by first | exact ⟨fun _ => rfl, by omega⟩ | trivial | (show (_ ∧ _); simp) | (simp; trivial)⟩
        · have HN := Lib.hid (show orI a b = a by unfold orI; rw [if_neg ha])
          clear HA HB
          go_wp2
          go_ret
          exact ⟨by rw [HN.out]; rfl, rfl⟩
      · have e1 := H1.out
        have ha : a = 0 := HA (by omega)
        have HA2 := Lib.hid ha
        by_cases hb : b = 0
        · subst hb
          clear HA HB ha
          go_wp2
          go_roundg gg
          case measure => omega
          case rel => exact ⟨rfl, 2, by have := HG.out; omega, rfl, by first | exact ⟨fun _ => HA2.out, fun _ => rfl⟩ | (simp; exact HA2.out) | (show _ ∧ _; simp; exact HA2.out)⟩
        · have HN := Lib.hid (show orI a b = b by unfold orI; rw [if_pos ha])
          clear HA HB ha
          go_wp2
          go_ret
          exact ⟨by rw [HN.out]; rfl, rfl⟩
set_option maxRecDepth 100000 in
set_option maxHeartbeats 1000000 in
theorem compare_any (p q : Pr) (w : World) : Calls Tryz.prog 181 #[.agg #[.string p.k, .string p.v], .agg #[.string q.k, .string q.v]] w fun e w' => e = .returned (.int .i64 (cmpP p q)) ∧ Below w.heap.size w w' := by
  rcases p with ⟨k1, v1⟩
  rcases q with ⟨k2, v2⟩
  have HN : Hid (cmpP ⟨k1, v1⟩ ⟨k2, v2⟩ = orI (cmpS k1 k2) (cmpS v1 v2)) := rfl
  have C1 := fun w => cmp_any k1 k2 w
  have C2 := fun w => cmp_any v1 v2 w
  generalize cmpS k1 k2 = r1 at *
  generalize cmpS v1 v2 = r2 at *
  have H1 := Lib.hid C1
  have H2 := Lib.hid C2
  clear C1 C2
  go_enter Tryz.func181, Tryz.ntmps181
  go_wp2
  refine wp_region_still_tail 10 (by kernel_rfl) (by kernel_rfl) ?_
  simp only [List.take_succ_cons, List.take_zero, List.drop_succ_cons, List.drop_zero]
  change wpStill _ _ (World.drew ((w.alloc _).alloc _)) _ _ _
  still_step
  still_step
  still_step
  still_step
  still_call ((H1.out _).mono fun e w'' ⟨h, k⟩ => ⟨h, k.symm⟩)
  still_step
  still_step
  still_step
  still_step
  still_call ((H2.out _).mono fun e w'' ⟨h, k⟩ => ⟨h, k.symm⟩)
  refine wpStill_nil ?_
  change wpList _ _ _ _ _ (World.drew ((w.alloc _).alloc _))
  go_wp2_with fail
  refine (or_any r1 r2 (w.heap.size + 1 + 1) _ ?_ ?_).mono ?_
  · simp [go_sem]
  · simp [go_sem]
  rintro e w' ⟨rfl, rfl⟩
  go_wp2
  go_ret
  exact ⟨by rw [HN.out]; rfl, bdN ((two w _ _).alloc (by simp; omega) _) 1⟩
end Rg
end Go.Proofs.YthbmnkeigmbbdaaGreat

/-
  AMOUNTS, second part: the document's amounts.
-/
namespace Go.Proofs.YthbmnkeigmbbdaaGreat
open Go.RowKit
namespace Rg
set_option maxHeartbeats 2000000 in
theorem amounts_1 (z0 z1 z2 : Int) (w : World) :
    Calls Tryz.prog 198 #[.agg #[.int .i64 z0, .int .i64 z1, .int .i64 z2], .int .i64 1] w fun e w' => e = .returned (.bool (uptoB z0 z1 z2 1099511627776)) ∧ Below w.heap.size w w' := by
  have A0 := arr0 z0 z1 z2
  have A1 := arr1 z0 z1 z2
  have A2 := arr2 z0 z1 z2
  have HB := Lib.hid (one_ w (.cells #[.int .i64 z0, .int .i64 z1, .int .i64 z2] 39))
  go_enter Tryz.func198, Tryz.ntmps198
  go_wp2
  go_loopg [8] 3 (fun g i wx => wx = w.alloc (.cells #[.int .i64 z0, .int .i64 z1, .int .i64 z2] 39) ∧ ∃ k : Nat, k + g = 3 ∧ i = .int .i64 k ∧ Aside (prefB z0 z1 z2 1099511627776 k = true))
  case atStart => exact ⟨rfl, 0, by omega, rfl, by show _ = _; rfl⟩
  case round =>
    obtain ⟨rfl, k, hkg, rfl, HA⟩ := hrel
    cases gk with
    | zero =>
      obtain rfl : k = 3 := by omega
      clear hkg
      go_wp2
      go_ret
      exact ⟨by rw [show uptoB z0 z1 z2 1099511627776 = true from HA.out]; rfl, HB.out⟩
    | succ g =>
      have HG := Lib.hid hkg
      have h3 : k = 0 ∨ k = 1 ∨ k = 2 := by omega
      clear hkg
      rcases h3 with rfl | rfl | rfl
      · by_cases hn : z0 < 0
        · have HN := Lib.hid (upto_no0 z0 z1 z2 1099511627776 (.inl hn))
          go_wp2
          go_ret
          exact ⟨by rw [HN.out]; rfl, HB.out⟩
        · by_cases hm : 1099511627776 < z0
          · have HN := Lib.hid (upto_no0 z0 z1 z2 1099511627776 (.inr hm))
            have hn' : decide (z0 < 0) = false := by simpa using hn
            go_wp2
            go_ret
            exact ⟨by rw [HN.out]; rfl, HB.out⟩
          · have HY := Lib.hid (inB_yes _ _ hn hm)
            have hn' : decide (z0 < 0) = false := by simpa using hn
            have hm' : decide (1099511627776 < z0) = false := by simpa using hm
            go_wp2
            go_roundg g
            case measure => omega
            case rel => exact ⟨rfl, 1, by have := HG.out; omega, rfl, HY.out⟩
      · by_cases hn : z1 < 0
        · have HN := Lib.hid (upto_no1 z0 z1 z2 1099511627776 (.inl hn))
          go_wp2
          go_ret
          exact ⟨by rw [HN.out]; rfl, HB.out⟩
        · by_cases hm : 1099511627776 < z1
          · have HN := Lib.hid (upto_no1 z0 z1 z2 1099511627776 (.inr hm))
            have hn' : decide (z1 < 0) = false := by simpa using hn
            go_wp2
            go_ret
            exact ⟨by rw [HN.out]; rfl, HB.out⟩
          · have HY := Lib.hid (inB_yes _ _ hn hm)
            have hn' : decide (z1 < 0) = false := by simpa using hn
            have hm' : decide (1099511627776 < z1) = false := by simpa using hm
            go_wp2
            go_roundg g
            case measure => omega
            case rel => exact ⟨rfl, 2, by have := HG.out; omega, rfl, by show (inB z0 1099511627776 && inB z1 1099511627776) = true; rw [show inB z0 1099511627776 = true from HA.out, HY.out]; rfl⟩
      · by_cases hn : z2 < 0
        · have HN := Lib.hid (upto_no2 z0 z1 z2 1099511627776 (.inl hn))
          go_wp2
          go_ret
          exact ⟨by rw [HN.out]; rfl, HB.out⟩
        · by_cases hm : 1099511627776 < z2
          · have HN := Lib.hid (upto_no2 z0 z1 z2 1099511627776 (.inr hm))
            have hn' : decide (z2 < 0) = false := by simpa using hn
            go_wp2
            go_ret
            exact ⟨by rw [HN.out]; rfl, HB.out⟩
          · have HY := Lib.hid (inB_yes _ _ hn hm)
            have hn' : decide (z2 < 0) = false := by simpa using hn
            have hm' : decide (1099511627776 < z2) = false := by simpa using hm
            go_wp2
            go_roundg g
            case measure => omega
            case rel => exact ⟨rfl, 3, by have := HG.out; omega, rfl, by
              have h : (inB z0 1099511627776 && inB z1 1099511627776) = true := HA.out
              show (inB z0 1099511627776 && (inB z1 1099511627776 && inB z2 1099511627776)) = true
              rw [← Bool.and_assoc, h, HY.out]; rfl⟩
set_option maxHeartbeats 2000000 in
theorem amounts_32 (z0 z1 z2 : Int) (w : World) :
    Calls Tryz.prog 198 #[.agg #[.int .i64 z0, .int .i64 z1, .int .i64 z2], .int .i64 32] w fun e w' => e = .returned (.bool (uptoB z0 z1 z2 35184372088832)) ∧ Below w.heap.size w w' := by
  have A0 := arr0 z0 z1 z2
  have A1 := arr1 z0 z1 z2
  have A2 := arr2 z0 z1 z2
  have HB := Lib.hid (one_ w (.cells #[.int .i64 z0, .int .i64 z1, .int .i64 z2] 39))
  go_enter Tryz.func198, Tryz.ntmps198
  go_wp2
  go_loopg [8] 3 (fun g i wx => wx = w.alloc (.cells #[.int .i64 z0, .int .i64 z1, .int .i64 z2] 39) ∧ ∃ k : Nat, k + g = 3 ∧ i = .int .i64 k ∧ Aside (prefB z0 z1 z2 35184372088832 k = true))
  case atStart => exact ⟨rfl, 0, by omega, rfl, by show _ = _; rfl⟩
  case round =>
    obtain ⟨rfl, k, hkg, rfl, HA⟩ := hrel
    cases gk with
    | zero =>
      obtain rfl : k = 3 := by omega
      clear hkg
      go_wp2
      go_ret
      exact ⟨by rw [show uptoB z0 z1 z2 35184372088832 = true from HA.out]; rfl, HB.out⟩
    | succ g =>
      have HG := Lib.hid hkg
      have h3 : k = 0 ∨ k = 1 ∨ k = 2 := by omega
      clear hkg
      rcases h3 with rfl | rfl | rfl
      · by_cases hn : z0 < 0
        · have HN := Lib.hid (upto_no0 z0 z1 z2 35184372088832 (.inl hn))
          go_wp2
          go_ret
          exact ⟨by rw [HN.out]; rfl, HB.out⟩
        · by_cases hm : 35184372088832 < z0
          · have HN := Lib.hid (upto_no0 z0 z1 z2 35184372088832 (.inr hm))
            have hn' : decide (z0 < 0) = false := by simpa using hn
            go_wp2
            go_ret
            exact ⟨by rw [HN.out]; rfl, HB.out⟩
          · have HY := Lib.hid (inB_yes _ _ hn hm)
            have hn' : decide (z0 < 0) = false := by simpa using hn
            have hm' : decide (35184372088832 < z0) = false := by simpa using hm
            go_wp2
            go_roundg g
            case measure => omega
            case rel => exact ⟨rfl, 1, by have := HG.out; omega, rfl, HY.out⟩
      · by_cases hn : z1 < 0
        · have HN := Lib.hid (upto_no1 z0 z1 z2 35184372088832 (.inl hn))
          go_wp2
          go_ret
          exact ⟨by rw [HN.out]; rfl, HB.out⟩
        · by_cases hm : 35184372088832 < z1
          · have HN := Lib.hid (upto_no1 z0 z1 z2 35184372088832 (.inr hm))
            have hn' : decide (z1 < 0) = false := by simpa using hn
            go_wp2
            go_ret
            exact ⟨by rw [HN.out]; rfl, HB.out⟩
          · have HY := Lib.hid (inB_yes _ _ hn hm)
            have hn' : decide (z1 < 0) = false := by simpa using hn
            have hm' : decide (35184372088832 < z1) = false := by simpa using hm
            go_wp2
            go_roundg g
            case measure => omega
            case rel => exact ⟨rfl, 2, by have := HG.out; omega, rfl, by show (inB z0 35184372088832 && inB z1 35184372088832) = true; rw [show inB z0 35184372088832 = true from HA.out, HY.out]; rfl⟩
      · by_cases hn : z2 < 0
        · have HN := Lib.hid (upto_no2 z0 z1 z2 35184372088832 (.inl hn))
          go_wp2
          go_ret
          exact ⟨by rw [HN.out]; rfl, HB.out⟩
        · by_cases hm : 35184372088832 < z2
          · have HN := Lib.hid (upto_no2 z0 z1 z2 35184372088832 (.inr hm))
            have hn' : decide (z2 < 0) = false := by simpa using hn
            go_wp2
            go_ret
            exact ⟨by rw [HN.out]; rfl, HB.out⟩
          · have HY := Lib.hid (inB_yes _ _ hn hm)
            have hn' : decide (z2 < 0) = false := by simpa using hn
            have hm' : decide (35184372088832 < z2) = false := by simpa using hm
            go_wp2
            go_roundg g
            case measure => omega
            case rel => exact ⟨rfl, 3, by have := HG.out; omega, rfl, by
              have h : (inB z0 35184372088832 && inB z1 35184372088832) = true := HA.out
              show (inB z0 35184372088832 && (inB z1 35184372088832 && inB z2 35184372088832)) = true
              rw [← Bool.and_assoc, h, HY.out]; rfl⟩
end Rg
end Go.Proofs.YthbmnkeigmbbdaaGreat
