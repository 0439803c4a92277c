/-
  WHETHER TWO ARE ONE: gafferref08.samePairs, SameNode, SameTask, SameOrder.
-/
import Derived.Test.YthbmnkeigmbbdaaGreatBookCo
import Derived.Test.YthbmnkeigmbbdaaGreatRigSuit
import Derived.Test.YthbmnkeigmbbdaaGreatOrB
import Derived.Test.YthbmnkeigmbbdaaGreatRigCheck
import Derived.Deep.QuietTactic
import Derived.BigQuiet
import Derived.Deep.LoopGhost
namespace Go.Proofs.YthbmnkeigmbbdaaGreat
open Go.RowKit
namespace Hd
open PM Hc Rg
instance decPr : DecidableEq Rg.Pr := fun a b =>
  if h : a.k = b.k ∧ a.v = b.v then isTrue (by cases a; cases b; simp only [Rg.Pr.mk.injEq]; exact h) else isFalse (by rintro rfl; exact h ⟨rfl, rfl⟩)
def smS (a b : ByteArray) : Bool := decide (a = b)
def smP (a b : List Rg.Pr) : Bool := decide (a = b)
def smI (a b : Int) : Bool := decide (a = b)
def smN (a b : Nat) : Bool := decide (a = b)
theorem ba_ext {a b : ByteArray} (h : a.toList = b.toList) : a = b := by
  rw [ByteArray.toList_eq, ByteArray.toList_eq] at h
  exact ByteArray.ext (Array.ext' h)
theorem ba_no {a b : ByteArray} (h : ¬ a = b) : (a.toList == b.toList) = false ∧ ¬ a.toList = b.toList := by
  have h2 : ¬ a.toList = b.toList := fun e => h (ba_ext e)
  exact ⟨by simpa using h2, h2⟩
theorem eqP_iff {p q : Rg.Pr} : eqP p q = true ↔ p = q := by
  obtain ⟨a, b⟩ := p
  obtain ⟨c, d⟩ := q
  unfold eqP
  simp only [Bool.and_eq_true, beq_iff_eq, Rg.Pr.mk.injEq]
  exact ⟨fun h => ⟨ba_ext h.1, ba_ext h.2⟩, fun h => by rw [h.1, h.2]; exact ⟨rfl, rfl⟩⟩
set_option maxRecDepth 100000 in
theorem neq_pair (k1 v1 k2 v2 : ByteArray) (w : World) : (binOp .neq 89 (.agg #[.string k1, .string v1]) (.agg #[.string k2, .string v2])).run Tryz.prog w = .ok (.bool (!eqP ⟨k1, v1⟩ ⟨k2, v2⟩)) w := by
  have u9 := Tryz.underlying9
  have a9 := Tryz.isAgg9
  have z9 := Tryz.sizeOf9
  have hS : Tryz.prog.underlying 89 = some (.struct (Tryz.prog.fieldsOf 89)) := by kernel_rfl
  have hp : Tryz.prog.stoodInHeld 89 = false := by kernel_rfl
  rw [run_neq_struct, show (10000 : Nat) = 9999 + 1 from rfl, run_equalIn_agg w 9999 89 _ _ hS hp]
  simp only [Program.fieldsOf, Tryz.underlying89]
  go_simp
  by_cases h1 : k1.toList = k2.toList <;> by_cases h2 : v1.toList = v2.toList <;> simp [h1, h2, eqP]
theorem pr_ne (ps qs : List Rg.Pr) (k : Nat) (hk : k < ps.length) (hj : k < qs.length) (h : eqP ps[k] qs[k] = false) : smP ps qs = false := by
  refine decide_eq_false fun e => ?_
  subst e
  rw [eqP_iff.2 rfl] at h
  cases h
theorem pr_all (ps qs : List Rg.Pr) (h : ps.length = qs.length) (ht : ps.take ps.length = qs.take ps.length) : smP ps qs = true := by
  refine decide_eq_true ?_
  rw [List.take_length, h, List.take_length] at ht
  exact ht
set_option maxRecDepth 100000 in
set_option maxHeartbeats 2000000 in
theorem same_pairs (v u : Value) (ps qs : List Rg.Pr) (w : World) (hv : Rg.Pairs w w.heap.size v ps) (hu : Rg.Pairs w w.heap.size u qs) :
    Calls Tryz.prog 50 #[v, u] w fun e w' => e = .returned (.bool (smP ps qs)) ∧ Below w.heap.size w w' := by
  obtain ⟨a, c, rfl, hl, -, hc⟩ := hv
  obtain ⟨a2, c2, rfl, hl2, -, hc2⟩ := hu
  have HC := Lib.hid hc
  have HC2 := Lib.hid hc2
  clear hc hc2
  by_cases hn : ps.length = qs.length
  · have HD0 := Lib.hid (pr_ne ps qs)
    have HD1 := Lib.hid (fun ht => pr_all ps qs hn ht)
    generalize smP ps qs = r at *
    have hn1 : (ps.length : Int) = (qs.length : Int) := by omega
    have hn2 : ((ps.length : Int) != (qs.length : Int)) = false := by simp; omega
    have HN := Lib.hid hn
    clear hn
    go_enter Tryz.func50, Tryz.ntmps50
    go_wp2
    go_loopg [13] ps.length (fun gg i wx => ∃ k : Nat, k + gg = ps.length ∧ i = .int .i64 k ∧ Below w.heap.size w wx ∧ Aside (ps.take k = qs.take k))
    case atStart => exact ⟨0, by omega, rfl, Below.refl _ _, (by rw [List.take_zero, List.take_zero] : ps.take 0 = qs.take 0)⟩
    case round =>
      obtain ⟨k, hkg, rfl, hbx, HA⟩ := hrel
      cases gk with
      | zero =>
        obtain rfl : k = ps.length := by omega
        clear hkg
        have HT := Lib.hid (HD1.out HA.out)
        go_wp2
        go_ret
        exact ⟨by rw [HT.out]; rfl, hbx⟩
      | succ gg =>
        have hlt : (k : Int) < (ps.length : Int) := by omega
        have hlt2 : (k : Int) < (qs.length : Int) := by omega
        have hk0 : (0 : Int) ≤ (k : Int) := by omega
        obtain ⟨b, off, rfl, hb, hcc⟩ := HC.out (by omega)
        obtain ⟨b2, off2, rfl, hb2, hcc2⟩ := HC2.out (by have := HN.out; omega)
        have hk1 : k < ps.length := by omega
        have hk2 : k < qs.length := by omega
        have e1 := (hbx.cell (by exact hb)).trans (hcc k hk1).1
        have e2 := (hbx.cell (by exact hb)).trans (hcc k hk1).2
        have e3 := (hbx.cell (by exact hb2)).trans (hcc2 k hk2).1
        have e4 := (hbx.cell (by exact hb2)).trans (hcc2 k hk2).2
        have HB := Lib.hid hbx
        have HT := Lib.hid (show ps[k] = qs[k] → ps.take (k + 1) = qs.take (k + 1) from fun e => by rw [List.take_add_one, List.take_add_one, HA.out, List.getElem?_eq_getElem hk1, List.getElem?_eq_getElem hk2, e])
        have HF := Lib.hid (HD0.out k hk1 hk2)
        clear hcc hcc2 hbx HA
        generalize ps[k] = x at *
        generalize qs[k] = y at *
        rcases x with ⟨n1, y1⟩
        rcases y with ⟨n2, y2⟩
        have gf := guard_pair
        have hq := neq_pair n1 y1 n2 y2
        have tk : IntKind.i64.wrap ((k : Int) + 1) = (k : Int) + 1 := by rw [IntKind.wrap_i64]; omega
        cases hb3 : eqP ⟨n1, y1⟩ ⟨n2, y2⟩
        · have HE := Lib.hid (HF.out hb3)
          rw [hb3, Bool.not_false] at hq
          clear hb3
          go_wp2
          go_quiet (fail)
          go_wp2
          go_ret
          exact ⟨by rw [HE.out]; rfl, bdN HB.out _⟩
        · have HE := Lib.hid (HT.out (eqP_iff.1 hb3))
          rw [hb3, Bool.not_true] at hq
          clear hb3
          go_wp2
          go_quiet (fail)
          go_wp2
          go_roundg gg
          case measure => omega
          case rel => exact ⟨k + 1, by omega, by simp, bdN HB.out _, HE.out⟩
  · have HF : Hid (smP ps qs = false) := decide_eq_false (fun e => hn (by rw [e]))
    generalize smP ps qs = r at *
    have hn1 : ¬ (ps.length : Int) = (qs.length : Int) := by omega
    have hn2 : ((ps.length : Int) != (qs.length : Int)) = true := by simp; omega
    clear hn
    go_enter Tryz.func50, Tryz.ntmps50
    go_wp2
    go_ret
    exact ⟨by rw [HF.out]; rfl, Below.refl _ _⟩
/-- Two boxes, and what is below them as it was. -/
structure Bb (w0 : World) (cs ds : List Value) (x : World) : Prop where
  bx : Bxn x w0.heap.size cs
  bz : Bxn x (w0.heap.size + 1) ds
  be : Below w0.heap.size w0 x
theorem Bb.made (w : World) (cs ds : List Value) (T : TypeId) : Bb w cs ds ((w.alloc (.cells cs.toArray T)).alloc (.cells ds.toArray T)) := by
  have h1 : Below w.heap.size w (w.alloc (.cells cs.toArray T)) := (Below.refl _ _).alloc (Nat.le_refl _) _
  have h2 : Below (w.alloc (.cells cs.toArray T)).heap.size (w.alloc (.cells cs.toArray T)) ((w.alloc (.cells cs.toArray T)).alloc (.cells ds.toArray T)) := (Below.refl _ _).alloc (Nat.le_refl _) _
  refine ⟨(Bxn.made w _ _).below h2, ?_, h1.trans (h2.mono h1.size)⟩
  have := Bxn.made (w.alloc (.cells cs.toArray T)) ds T
  rw [World.size_alloc] at this
  exact this
theorem Bb.below {w0 x x' : World} {cs ds : List Value} (h : Bb w0 cs ds x) (hb : Below x.heap.size x x') : Bb w0 cs ds x' := ⟨h.bx.below hb, h.bz.below hb, h.be.trans (hb.mono h.be.size)⟩
theorem PrsIn.ovr {w z : World} {c : Cd} {v2 v3 v4 v5 : Value} (h : PrsIn w w.heap.size c v2 v3 v4 v5) (hb : Below w.heap.size w z) : PrsIn z z.heap.size c v2 v3 v4 v5 := ⟨(h.h2.ovr hb), (h.h3.ovr hb), (h.h4.ovr hb), (h.h5.ovr hb)⟩
set_option maxRecDepth 100000 in
set_option maxHeartbeats 4000000 in
theorem same_node0 (xn : ByteArray) (x0 x1 x2 : Int) (xla xta : Option Addr) (xlc xtc : Nat) (xls xts : List Rg.Pr) (yn : ByteArray) (y0 y1 y2 : Int) (yla yta : Option Addr) (ylc ytc : Nat) (yls yts : List Rg.Pr) (w : World) (hx1 : Rg.Pairs w w.heap.size (.slice xla xls.length xlc) xls) (hx2 : Rg.Pairs w w.heap.size (.slice xta xts.length xtc) xts) (hy1 : Rg.Pairs w w.heap.size (.slice yla yls.length ylc) yls) (hy2 : Rg.Pairs w w.heap.size (.slice yta yts.length ytc) yts) (r : Bool) (hr : r = (smS xn yn && (eqA x0 x1 x2 y0 y1 y2 && (smP xls yls && (smP xts yts))))) : Calls Tryz.prog 20 #[.agg #[.string xn, .int .i64 x0, .int .i64 x1, .int .i64 x2, .slice xla xls.length xlc, .slice xta xts.length xtc], .agg #[.string yn, .int .i64 y0, .int .i64 y1, .int .i64 y2, .slice yla yls.length ylc, .slice yta yts.length ytc]] w fun e w' => e = .returned (.bool r) ∧ Below w.heap.size w w' := by
  have HR := Lib.hid hr
  clear hr
  have HB0 := Lib.hid (Bb.made w [.string xn, .int .i64 x0, .int .i64 x1, .int .i64 x2, .slice xla xls.length xlc, .slice xta xts.length xtc] [.string yn, .int .i64 y0, .int .i64 y1, .int .i64 y2, .slice yla yls.length ylc, .slice yta yts.length ytc] 45)
  have K0 : ∀ z, Below w.heap.size w z → Calls Tryz.prog 50 #[.slice xla xls.length xlc, .slice yla yls.length ylc] z fun e w' => e = .returned (.bool (smP xls yls)) ∧ Below z.heap.size z w' := fun z hb => same_pairs _ _ _ _ z (hx1.ovr hb) (hy1.ovr hb)
  have K1 : ∀ z, Below w.heap.size w z → Calls Tryz.prog 50 #[.slice xta xts.length xtc, .slice yta yts.length ytc] z fun e w' => e = .returned (.bool (smP xts yts)) ∧ Below z.heap.size z w' := fun z hb => same_pairs _ _ _ _ z (hx2.ovr hb) (hy2.ovr hb)
  clear hx1 hx2 hy1 hy2
  go_enter Tryz.func20, Tryz.ntmps20
  go_upto_region 1 with fail
  generalize (w.alloc (.cells #[.string xn, .int .i64 x0, .int .i64 x1, .int .i64 x2, .slice xla xls.length xlc, .slice xta xts.length xtc] 45)).alloc (.cells #[.string yn, .int .i64 y0, .int .i64 y1, .int .i64 y2, .slice yla yls.length ylc, .slice yta yts.length ytc] 45) = W0 at *
  have fx0 : W0.cell? ⟨w.heap.size, 0, none⟩ = some (.string xn) := HB0.out.bx.cell 0
  have fy0 : W0.cell? ⟨w.heap.size + 1, 0, none⟩ = some (.string yn) := HB0.out.bz.cell 0
  by_cases h0 : xn = yn
  · have q0 : smS xn yn = true := by unfold smS; exact decide_eq_true h0
    have Q0 := Lib.hid q0
    rw [h0] at fx0
    clear q0 h0
    have fx1 : W0.cell? ⟨w.heap.size, 1, none⟩ = some (.int .i64 x0) := HB0.out.bx.cell 1
    have fy1 : W0.cell? ⟨w.heap.size + 1, 1, none⟩ = some (.int .i64 y0) := HB0.out.bz.cell 1
    have fx2 : W0.cell? ⟨w.heap.size, 2, none⟩ = some (.int .i64 x1) := HB0.out.bx.cell 2
    have fy2 : W0.cell? ⟨w.heap.size + 1, 2, none⟩ = some (.int .i64 y1) := HB0.out.bz.cell 2
    have fx3 : W0.cell? ⟨w.heap.size, 3, none⟩ = some (.int .i64 x2) := HB0.out.bx.cell 3
    have fy3 : W0.cell? ⟨w.heap.size + 1, 3, none⟩ = some (.int .i64 y2) := HB0.out.bz.cell 3
    have gf := guard_arr
    have hq : ∀ w, (binOp .eql 39 (.agg #[.int .i64 x0, .int .i64 x1, .int .i64 x2]) (.agg #[.int .i64 y0, .int .i64 y1, .int .i64 y2])).run Tryz.prog w = .ok (.bool (eqA x0 x1 x2 y0 y1 y2)) w := fun w => eql_arr _ _ _ _ _ _ w
    cases h1 : eqA x0 x1 x2 y0 y1 y2
    · rw [h1] at hq
      have Q1 := Lib.hid h1
      clear h1
      have HN : Hid (r = false) := HR.out.trans (andT Q0.out (andF Q1.out))
      go_wp2
      go_ret
      exact ⟨by rw [HN.out]; rfl, HB0.out.be⟩
    · rw [h1] at hq
      have Q1 := Lib.hid h1
      clear h1
      have fx4 : W0.cell? ⟨w.heap.size, 4, none⟩ = some (.slice xla xls.length xlc) := HB0.out.bx.cell 4
      have fy4 : W0.cell? ⟨w.heap.size + 1, 4, none⟩ = some (.slice yla yls.length ylc) := HB0.out.bz.cell 4
      cases h2 : smP xls yls
      · rw [h2] at K0
        have Q2 := Lib.hid h2
        clear h2
        go_wp2_with fail
        refine (K0 _ HB0.out.be).mono ?_
        rintro e w1 ⟨rfl, hb⟩
        have HB1 := Lib.hid (HB0.out.below hb)
        clear hb
        have HN : Hid (r = false) := HR.out.trans (andT Q0.out (andT Q1.out (andF Q2.out)))
        go_wp2
        go_ret
        exact ⟨by rw [HN.out]; rfl, HB1.out.be⟩
      · rw [h2] at K0
        have Q2 := Lib.hid h2
        clear h2
        go_wp2_with fail
        refine (K0 _ HB0.out.be).mono ?_
        rintro e w1 ⟨rfl, hb⟩
        have HB1 := Lib.hid (HB0.out.below hb)
        clear hb
        have fx5 : w1.cell? ⟨w.heap.size, 5, none⟩ = some (.slice xta xts.length xtc) := HB1.out.bx.cell 5
        have fy5 : w1.cell? ⟨w.heap.size + 1, 5, none⟩ = some (.slice yta yts.length ytc) := HB1.out.bz.cell 5
        cases h3 : smP xts yts
        · rw [h3] at K1
          have Q3 := Lib.hid h3
          clear h3
          go_wp2_with fail
          refine (K1 _ HB1.out.be).mono ?_
          rintro e w2 ⟨rfl, hb⟩
          have HB2 := Lib.hid (HB1.out.below hb)
          clear hb
          have HN : Hid (r = false) := HR.out.trans (andT Q0.out (andT Q1.out (andT Q2.out (Q3.out))))
          go_wp2
          go_ret
          exact ⟨by rw [HN.out]; rfl, HB2.out.be⟩
        · rw [h3] at K1
          have Q3 := Lib.hid h3
          clear h3
          go_wp2_with fail
          refine (K1 _ HB1.out.be).mono ?_
          rintro e w2 ⟨rfl, hb⟩
          have HB2 := Lib.hid (HB1.out.below hb)
          clear hb
          have HN : Hid (r = true) := HR.out.trans (andT Q0.out (andT Q1.out (andT Q2.out (Q3.out))))
          go_wp2
          go_ret
          exact ⟨by rw [HN.out]; rfl, HB2.out.be⟩
  · have q0 : smS xn yn = false := by unfold smS; exact decide_eq_false h0
    have Q0 := Lib.hid q0
    obtain ⟨m0, l0⟩ := ba_no h0
    clear q0 h0
    have HN : Hid (r = false) := HR.out.trans (andF Q0.out)
    go_wp2
    go_ret
    exact ⟨by rw [HN.out]; rfl, HB0.out.be⟩
set_option maxRecDepth 100000 in
set_option maxHeartbeats 4000000 in
theorem same_task0 (xn : ByteArray) (x0 x1 x2 : Int) (xla xta : Option Addr) (xlc xtc : Nat) (xls xts : List Rg.Pr) (xg xa : ByteArray) (xr : Int) (yn : ByteArray) (y0 y1 y2 : Int) (yla yta : Option Addr) (ylc ytc : Nat) (yls yts : List Rg.Pr) (yg ya : ByteArray) (yr : Int) (w : World) (hx1 : Rg.Pairs w w.heap.size (.slice xla xls.length xlc) xls) (hx2 : Rg.Pairs w w.heap.size (.slice xta xts.length xtc) xts) (hy1 : Rg.Pairs w w.heap.size (.slice yla yls.length ylc) yls) (hy2 : Rg.Pairs w w.heap.size (.slice yta yts.length ytc) yts) (r : Bool) (hr : r = (smS xn yn && (eqA x0 x1 x2 y0 y1 y2 && (smP xls yls && (smP xts yts && (smS xg yg && (smS xa ya && (smI xr yr)))))))) : Calls Tryz.prog 19 #[.agg #[.string xn, .int .i64 x0, .int .i64 x1, .int .i64 x2, .slice xla xls.length xlc, .slice xta xts.length xtc, .string xg, .string xa, .int .i64 xr], .agg #[.string yn, .int .i64 y0, .int .i64 y1, .int .i64 y2, .slice yla yls.length ylc, .slice yta yts.length ytc, .string yg, .string ya, .int .i64 yr]] w fun e w' => e = .returned (.bool r) ∧ Below w.heap.size w w' := by
  have HR := Lib.hid hr
  clear hr
  have HB0 := Lib.hid (Bb.made w [.string xn, .int .i64 x0, .int .i64 x1, .int .i64 x2, .slice xla xls.length xlc, .slice xta xts.length xtc, .string xg, .string xa, .int .i64 xr] [.string yn, .int .i64 y0, .int .i64 y1, .int .i64 y2, .slice yla yls.length ylc, .slice yta yts.length ytc, .string yg, .string ya, .int .i64 yr] 42)
  have K0 : ∀ z, Below w.heap.size w z → Calls Tryz.prog 50 #[.slice xla xls.length xlc, .slice yla yls.length ylc] z fun e w' => e = .returned (.bool (smP xls yls)) ∧ Below z.heap.size z w' := fun z hb => same_pairs _ _ _ _ z (hx1.ovr hb) (hy1.ovr hb)
  have K1 : ∀ z, Below w.heap.size w z → Calls Tryz.prog 50 #[.slice xta xts.length xtc, .slice yta yts.length ytc] z fun e w' => e = .returned (.bool (smP xts yts)) ∧ Below z.heap.size z w' := fun z hb => same_pairs _ _ _ _ z (hx2.ovr hb) (hy2.ovr hb)
  clear hx1 hx2 hy1 hy2
  go_enter Tryz.func19, Tryz.ntmps19
  go_upto_region 1 with fail
  generalize (w.alloc (.cells #[.string xn, .int .i64 x0, .int .i64 x1, .int .i64 x2, .slice xla xls.length xlc, .slice xta xts.length xtc, .string xg, .string xa, .int .i64 xr] 42)).alloc (.cells #[.string yn, .int .i64 y0, .int .i64 y1, .int .i64 y2, .slice yla yls.length ylc, .slice yta yts.length ytc, .string yg, .string ya, .int .i64 yr] 42) = W0 at *
  have fx0 : W0.cell? ⟨w.heap.size, 0, none⟩ = some (.string xn) := HB0.out.bx.cell 0
  have fy0 : W0.cell? ⟨w.heap.size + 1, 0, none⟩ = some (.string yn) := HB0.out.bz.cell 0
  by_cases h0 : xn = yn
  · have q0 : smS xn yn = true := by unfold smS; exact decide_eq_true h0
    have Q0 := Lib.hid q0
    rw [h0] at fx0
    clear q0 h0
    have fx1 : W0.cell? ⟨w.heap.size, 1, none⟩ = some (.int .i64 x0) := HB0.out.bx.cell 1
    have fy1 : W0.cell? ⟨w.heap.size + 1, 1, none⟩ = some (.int .i64 y0) := HB0.out.bz.cell 1
    have fx2 : W0.cell? ⟨w.heap.size, 2, none⟩ = some (.int .i64 x1) := HB0.out.bx.cell 2
    have fy2 : W0.cell? ⟨w.heap.size + 1, 2, none⟩ = some (.int .i64 y1) := HB0.out.bz.cell 2
    have fx3 : W0.cell? ⟨w.heap.size, 3, none⟩ = some (.int .i64 x2) := HB0.out.bx.cell 3
    have fy3 : W0.cell? ⟨w.heap.size + 1, 3, none⟩ = some (.int .i64 y2) := HB0.out.bz.cell 3
    have gf := guard_arr
    have hq : ∀ w, (binOp .eql 39 (.agg #[.int .i64 x0, .int .i64 x1, .int .i64 x2]) (.agg #[.int .i64 y0, .int .i64 y1, .int .i64 y2])).run Tryz.prog w = .ok (.bool (eqA x0 x1 x2 y0 y1 y2)) w := fun w => eql_arr _ _ _ _ _ _ w
    cases h1 : eqA x0 x1 x2 y0 y1 y2
    · rw [h1] at hq
      have Q1 := Lib.hid h1
      clear h1
      have HN : Hid (r = false) := HR.out.trans (andT Q0.out (andF Q1.out))
      go_wp2
      go_ret
      exact ⟨by rw [HN.out]; rfl, HB0.out.be⟩
    · rw [h1] at hq
      have Q1 := Lib.hid h1
      clear h1
      have fx4 : W0.cell? ⟨w.heap.size, 4, none⟩ = some (.slice xla xls.length xlc) := HB0.out.bx.cell 4
      have fy4 : W0.cell? ⟨w.heap.size + 1, 4, none⟩ = some (.slice yla yls.length ylc) := HB0.out.bz.cell 4
      cases h2 : smP xls yls
      · rw [h2] at K0
        have Q2 := Lib.hid h2
        clear h2
        go_wp2_with fail
        refine (K0 _ HB0.out.be).mono ?_
        rintro e w1 ⟨rfl, hb⟩
        have HB1 := Lib.hid (HB0.out.below hb)
        clear hb
        have HN : Hid (r = false) := HR.out.trans (andT Q0.out (andT Q1.out (andF Q2.out)))
        go_wp2
        go_ret
        exact ⟨by rw [HN.out]; rfl, HB1.out.be⟩
      · rw [h2] at K0
        have Q2 := Lib.hid h2
        clear h2
        go_wp2_with fail
        refine (K0 _ HB0.out.be).mono ?_
        rintro e w1 ⟨rfl, hb⟩
        have HB1 := Lib.hid (HB0.out.below hb)
        clear hb
        have fx5 : w1.cell? ⟨w.heap.size, 5, none⟩ = some (.slice xta xts.length xtc) := HB1.out.bx.cell 5
        have fy5 : w1.cell? ⟨w.heap.size + 1, 5, none⟩ = some (.slice yta yts.length ytc) := HB1.out.bz.cell 5
        cases h3 : smP xts yts
        · rw [h3] at K1
          have Q3 := Lib.hid h3
          clear h3
          go_wp2_with fail
          refine (K1 _ HB1.out.be).mono ?_
          rintro e w2 ⟨rfl, hb⟩
          have HB2 := Lib.hid (HB1.out.below hb)
          clear hb
          have HN : Hid (r = false) := HR.out.trans (andT Q0.out (andT Q1.out (andT Q2.out (andF Q3.out))))
          go_wp2
          go_ret
          exact ⟨by rw [HN.out]; rfl, HB2.out.be⟩
        · rw [h3] at K1
          have Q3 := Lib.hid h3
          clear h3
          go_wp2_with fail
          refine (K1 _ HB1.out.be).mono ?_
          rintro e w2 ⟨rfl, hb⟩
          have HB2 := Lib.hid (HB1.out.below hb)
          clear hb
          have fx6 : w2.cell? ⟨w.heap.size, 6, none⟩ = some (.string xg) := HB2.out.bx.cell 6
          have fy6 : w2.cell? ⟨w.heap.size + 1, 6, none⟩ = some (.string yg) := HB2.out.bz.cell 6
          by_cases h4 : xg = yg
          · have q4 : smS xg yg = true := by unfold smS; exact decide_eq_true h4
            have Q4 := Lib.hid q4
            rw [h4] at fx6
            clear q4 h4
            have fx7 : w2.cell? ⟨w.heap.size, 7, none⟩ = some (.string xa) := HB2.out.bx.cell 7
            have fy7 : w2.cell? ⟨w.heap.size + 1, 7, none⟩ = some (.string ya) := HB2.out.bz.cell 7
            by_cases h5 : xa = ya
            · have q5 : smS xa ya = true := by unfold smS; exact decide_eq_true h5
              have Q5 := Lib.hid q5
              rw [h5] at fx7
              clear q5 h5
              have fx8 : w2.cell? ⟨w.heap.size, 8, none⟩ = some (.int .i64 xr) := HB2.out.bx.cell 8
              have fy8 : w2.cell? ⟨w.heap.size + 1, 8, none⟩ = some (.int .i64 yr) := HB2.out.bz.cell 8
              by_cases h6 : xr = yr
              · have q6 : smI xr yr = true := by unfold smI; exact decide_eq_true h6
                have Q6 := Lib.hid q6
                rw [h6] at fx8
                clear q6 h6
                have HN : Hid (r = true) := HR.out.trans (andT Q0.out (andT Q1.out (andT Q2.out (andT Q3.out (andT Q4.out (andT Q5.out (Q6.out)))))))
                go_wp2
                go_ret
                exact ⟨by rw [HN.out]; rfl, HB2.out.be⟩
              · have q6 : smI xr yr = false := by unfold smI; exact decide_eq_false h6
                have Q6 := Lib.hid q6
                have l6 : (xr == yr) = false := by simpa using h6
                clear q6 h6
                have HN : Hid (r = false) := HR.out.trans (andT Q0.out (andT Q1.out (andT Q2.out (andT Q3.out (andT Q4.out (andT Q5.out (Q6.out)))))))
                go_wp2
                go_ret
                exact ⟨by rw [HN.out]; rfl, HB2.out.be⟩
            · have q5 : smS xa ya = false := by unfold smS; exact decide_eq_false h5
              have Q5 := Lib.hid q5
              obtain ⟨m5, l5⟩ := ba_no h5
              clear q5 h5
              have HN : Hid (r = false) := HR.out.trans (andT Q0.out (andT Q1.out (andT Q2.out (andT Q3.out (andT Q4.out (andF Q5.out))))))
              go_wp2
              go_ret
              exact ⟨by rw [HN.out]; rfl, HB2.out.be⟩
          · have q4 : smS xg yg = false := by unfold smS; exact decide_eq_false h4
            have Q4 := Lib.hid q4
            obtain ⟨m4, l4⟩ := ba_no h4
            clear q4 h4
            have HN : Hid (r = false) := HR.out.trans (andT Q0.out (andT Q1.out (andT Q2.out (andT Q3.out (andF Q4.out)))))
            go_wp2
            go_ret
            exact ⟨by rw [HN.out]; rfl, HB2.out.be⟩
  · have q0 : smS xn yn = false := by unfold smS; exact decide_eq_false h0
    have Q0 := Lib.hid q0
    obtain ⟨m0, l0⟩ := ba_no h0
    clear q0 h0
    have HN : Hid (r = false) := HR.out.trans (andF Q0.out)
    go_wp2
    go_ret
    exact ⟨by rw [HN.out]; rfl, HB0.out.be⟩
def smNd (a b : Nd) : Bool := smS a.n b.n && (eqA a.z0 a.z1 a.z2 b.z0 b.z1 b.z2 && (smP a.ls b.ls && (smP a.ts b.ts)))
def smTd (a b : Td) : Bool := smS a.n b.n && (eqA a.z0 a.z1 a.z2 b.z0 b.z1 b.z2 && (smP a.ws b.ws && (smP a.bs b.bs && (smS a.g b.g && (smS a.a b.a && (smI a.r b.r))))))
theorem eqA_iff {a0 a1 a2 b0 b1 b2 : Int} : eqA a0 a1 a2 b0 b1 b2 = true ↔ a0 = b0 ∧ a1 = b1 ∧ a2 = b2 := by
  unfold eqA
  simp [Bool.and_eq_true]
theorem smNd_iff {a b : Nd} : smNd a b = true ↔ a = b := by
  obtain ⟨n, z0, z1, z2, ls, ts⟩ := a
  obtain ⟨m, y0, y1, y2, ks, us⟩ := b
  unfold smNd smS smP
  simp only [Bool.and_eq_true, decide_eq_true_eq, eqA_iff, Nd.mk.injEq]
  exact ⟨fun ⟨a, ⟨b, c, d⟩, e, f⟩ => ⟨a, b, c, d, e, f⟩, fun ⟨a, b, c, d, e, f⟩ => ⟨a, ⟨b, c, d⟩, e, f⟩⟩
theorem smTd_iff {a b : Td} : smTd a b = true ↔ a = b := by
  obtain ⟨n, z0, z1, z2, ls, ts, g, a, r⟩ := a
  obtain ⟨m, y0, y1, y2, ks, us, g2, a2, r2⟩ := b
  unfold smTd smS smP smI
  simp only [Bool.and_eq_true, decide_eq_true_eq, eqA_iff, Td.mk.injEq]
  exact ⟨fun ⟨a, ⟨b, c, d⟩, e, f, g, h, i⟩ => ⟨a, b, c, d, e, f, g, h, i⟩, fun ⟨a, b, c, d, e, f, g, h, i⟩ => ⟨a, ⟨b, c, d⟩, e, f, g, h, i⟩⟩
/-- A node's, a task's cells. -/
def ndC (n : Nd) (v2 v3 : Value) : List Value := [.string n.n, .int .i64 n.z0, .int .i64 n.z1, .int .i64 n.z2, v2, v3]
def tdC (n : Td) (v4 v5 : Value) : List Value := [.string n.n, .int .i64 n.z0, .int .i64 n.z1, .int .i64 n.z2, v4, v5, .string n.g, .string n.a, .int .i64 n.r]
theorem same_node (a b : Nd) (v2 v3 u2 u3 : Value) (w : World) (h2 : Rg.Pairs w w.heap.size v2 a.ls) (h3 : Rg.Pairs w w.heap.size v3 a.ts) (k2 : Rg.Pairs w w.heap.size u2 b.ls) (k3 : Rg.Pairs w w.heap.size u3 b.ts) :
    Calls Tryz.prog 20 #[.agg (ndC a v2 v3).toArray, .agg (ndC b u2 u3).toArray] w fun e w' => e = .returned (.bool (smNd a b)) ∧ Below w.heap.size w w' := by
  have s2 := h2
  have s3 := h3
  have t2 := k2
  have t3 := k3
  obtain ⟨a2, c2, rfl, -⟩ := s2
  obtain ⟨a3, c3, rfl, -⟩ := s3
  obtain ⟨a4, c4, rfl, -⟩ := t2
  obtain ⟨a5, c5, rfl, -⟩ := t3
  exact same_node0 _ _ _ _ _ _ _ _ _ _ _ _ _ _ _ _ _ _ _ _ w h2 h3 k2 k3 _ rfl
theorem same_task (a b : Td) (v2 v3 u2 u3 : Value) (w : World) (h2 : Rg.Pairs w w.heap.size v2 a.ws) (h3 : Rg.Pairs w w.heap.size v3 a.bs) (k2 : Rg.Pairs w w.heap.size u2 b.ws) (k3 : Rg.Pairs w w.heap.size u3 b.bs) :
    Calls Tryz.prog 19 #[.agg (tdC a v2 v3).toArray, .agg (tdC b u2 u3).toArray] w fun e w' => e = .returned (.bool (smTd a b)) ∧ Below w.heap.size w w' := by
  have s2 := h2
  have s3 := h3
  have t2 := k2
  have t3 := k3
  obtain ⟨a2, c2, rfl, -⟩ := s2
  obtain ⟨a3, c3, rfl, -⟩ := s3
  obtain ⟨a4, c4, rfl, -⟩ := t2
  obtain ⟨a5, c5, rfl, -⟩ := t3
  exact same_task0 _ _ _ _ _ _ _ _ _ _ _ _ _ _ _ _ _ _ _ _ _ _ _ _ _ _ w h2 h3 k2 k3 _ rfl
end Hd
end Go.Proofs.YthbmnkeigmbbdaaGreat
