/-
  WHERE A TASK GOES: sched.best.
-/
import Derived.Test.YthbmnkeigmbbdaaGreatScDel
import Derived.Test.YthbmnkeigmbbdaaGreatScB
import Derived.Test.YthbmnkeigmbbdaaGreatQeFreeP
namespace Go.Proofs.YthbmnkeigmbbdaaGreat
open Go.RowKit Go.Lib
namespace Bo
open Rw
set_option linter.unusedVariables false
theorem bxn_grownS {w w' : World} {B : Nat} {cs : List Value} {own : Option Nat} (h : Hd.Bxn w B cs) (hg : w.grownBy w' own) (hn : some B ≠ own) : Hd.Bxn w' B cs := by
  have hl := h.lt
  obtain ⟨T, hx⟩ := h
  exact ⟨T, (hg.block B hl hn).trans hx⟩
def strip (x : Rg.Ld) : Rg.Ld := ⟨x.n, x.h0, x.h1, x.h2, none, 0, none, 0, x.u0, x.u1, x.u2, x.ls, x.ts⟩
section
variable (te : Nat) (D E : Rg.Ld → Nat) (V : Rg.Ld → Int) (hD : ∀ x, D (strip x) = D x) (hE : ∀ x, E (strip x) = E x) (hV : ∀ x, V (strip x) = V x) (l : List Rg.Ld)
include hE in
theorem ok_strip : Rg.okSc E (l.map strip) = Rg.okSc E l := funext fun i => by
  unfold Rg.okSc
  rw [List.getElem?_map]
  cases l[i]? with
  | none => rfl
  | some x => exact congrArg (fun q => decide (q = 0)) (hE x)
include hV in
theorem v_strip : Rg.vK V (l.map strip) = Rg.vK V l := funext fun i => by
  unfold Rg.vK
  rw [List.getElem?_map]
  cases l[i]? with
  | none => rfl
  | some x => exact hV x
theorem nm_strip (i : Nat) : Rg.nmK (l.map strip) i = Rg.nmK l i := by
  unfold Rg.nmK
  rw [List.getElem?_map]
  cases l[i]? <;> rfl
theorem lt_strip : Rg.ltK (l.map strip) = Rg.ltK l := funext fun i => funext fun j => by
  unfold Rg.ltK
  rw [nm_strip, nm_strip]
include hD in
theorem bad_strip : ∀ k, Rg.badK D (l.map strip) k = Rg.badK D l k
  | 0 => rfl
  | k + 1 => by
    unfold Rg.badK
    rw [bad_strip k, List.getElem?_map]
    cases l[k]? with
    | none => rfl
    | some x => show (if _ then D (strip x) else _) = _; rw [hD]
include hD hE hV in
theorem best_strip : Rg.bestV te D E V (l.map strip) = Rg.bestV te D E V l := by
  unfold Rg.bestV Rg.bestE Rg.bestN
  rw [ok_strip E hE, v_strip V hV, lt_strip, List.length_map, bad_strip D hD]
theorem best_lt (h : 0 < l.length) : Rg.bestV te D E V l < l.length := by
  unfold Rg.bestV
  split
  · cases hb : Rg.bestN E V l l.length with
    | none => exact h
    | some c => exact (Rg.bestK_lt _ _ _ _ _ hb).1
  · exact h
end
def mkLd (b : Bk) (n : Hd.Nd) : Rg.Ld := ⟨n.n, n.z0, n.z1, n.z2, none, 0, none, 0, us0 b n.n, us1 b n.n, us2 b n.n, n.ls, n.ts⟩
def toLd (y : LdM) : Rg.Ld := ⟨y.x.nd.n, y.x.nd.z0, y.x.nd.z1, y.x.nd.z2, y.x.a2, y.x.c2, y.x.a3, y.x.c3, y.u0, y.u1, y.u2, y.x.nd.ls, y.x.nd.ts⟩
/-- The loads of the nodes that are free for it. -/
def ldsP (b : Bk) (k : ByteArray) : List Rg.Ld := (b.ns.filter (fun n => hasK (frV b k) n.n)).map (mkLd b)
def whV (t : Hd.Td) (l : List Rg.Ld) : Nat := Rg.bestV (erT t) Rg.ldE (Rg.scE (erT t) t.ws t.bs t.z0 t.z1 t.z2) (Rg.scV t.z0 t.z1 t.z2) l
/-- Where a task goes. -/
def bstV (b : Bk) (t : Hd.Td) : ByteArray := Rg.nmK (ldsP b t.n) (whV t (ldsP b t.n))
theorem lds_of (b : Bk) (k : ByteArray) (l : List NdM) (h : l.map (·.nd) = b.ns) : (((l.map (mkL b)).filter (fun y => !(!hasK (frV b k) y.x.nd.n))).map toLd).map strip = ldsP b k := by
  unfold ldsP
  rw [← h, List.filter_map, List.filter_map, List.map_map, List.map_map, List.map_map]
  have e : ((fun y : LdM => !(!hasK (frV b k) y.x.nd.n)) ∘ mkL b) = ((fun n : Hd.Nd => hasK (frV b k) n.n) ∘ fun x : NdM => x.nd) := funext fun x => by
    show (!(!hasK (frV b k) x.nd.n)) = _
    rw [Bool.not_not]
    rfl
  rw [e]
  rfl
theorem whV_of (b : Bk) (t : Hd.Td) (l : List NdM) (h : l.map (·.nd) = b.ns) : whV t (((l.map (mkL b)).filter (fun y => !(!hasK (frV b t.n) y.x.nd.n))).map toLd) = whV t (ldsP b t.n) := by
  rw [← lds_of b t.n l h]
  exact (best_strip _ _ _ _ (fun _ => rfl) (fun _ => rfl) (fun _ => rfl) _).symm
theorem fr_sub {b : Bk} {k v : ByteArray} (h : v ∈ frV b k) : v ∈ b.ns.map (·.n) ∧ canE b k v = 0 ∧ frE b k = 0 := by
  unfold frV at h
  split at h
  · rename_i he
    obtain ⟨h1, h2⟩ := List.mem_filter.1 h
    exact ⟨h1, of_decide_eq_true h2, he⟩
  · cases h
theorem lds_ne {b : Bk} {k : ByteArray} (h : frV b k ≠ []) : 0 < (ldsP b k).length := by
  obtain ⟨v, hv⟩ := List.exists_mem_of_ne_nil _ h
  obtain ⟨n, hn, rfl⟩ := List.mem_map.1 (fr_sub hv).1
  unfold ldsP
  rw [List.length_map]
  exact List.length_pos_of_mem (List.mem_filter.2 ⟨hn, has_iff.2 hv⟩)
/-- It goes nowhere, or where it can be. -/
theorem bst_none {b : Bk} {t : Hd.Td} (h : frV b t.n = []) : bstV b t = ⟨#[]⟩ := by
  have hl : ldsP b t.n = [] := by
    unfold ldsP
    rw [h]
    have : (b.ns.filter fun n => hasK [] n.n) = [] := List.filter_eq_nil_iff.2 (fun n _ => by simp [hasK])
    rw [this]; rfl
  unfold bstV
  rw [hl]
  rfl
theorem bst_some {b : Bk} {t : Hd.Td} (h : frV b t.n ≠ []) : bstV b t ∈ frV b t.n := by
  have hp := lds_ne h
  have hlt : whV t (ldsP b t.n) < (ldsP b t.n).length := best_lt _ _ _ _ _ hp
  unfold bstV Rg.nmK
  rw [List.getElem?_eq_getElem hlt]
  have hm := List.getElem_mem hlt
  generalize (ldsP b t.n)[whV t (ldsP b t.n)] = x at *
  unfold ldsP at hm
  obtain ⟨n, hn, rfl⟩ := List.mem_map.1 hm
  exact has_iff.1 (List.mem_filter.1 hn).2
theorem loads_row {w : World} {base : Nat} {v : Value} {l : List LdM} (h : Own w base 47 v l) (hl : l.length ≤ 4096) (hn : ∀ y ∈ l, OwnN w base y.x ∧ FitN y.x.nd) : Rg.Loads w w.heap.size v (l.map toLd) := by
  obtain ⟨a, c, rfl, h1, h2, h3, h4⟩ := h.sl (by omega)
  refine ⟨a, c, by rw [List.length_map], by rw [List.length_map]; omega, fun x hx => ?_, fun hp => ?_⟩
  · obtain ⟨y, hy, rfl⟩ := List.mem_map.1 hx
    obtain ⟨o1, o2⟩ := hn y hy
    have hd := (o1.deep o2).pr o2
    exact ⟨o2.1, hd.1, hd.2⟩
  · rw [List.length_map] at hp
    obtain ⟨g, off, rfl, -, hlt, hc⟩ := h4 hp
    refine ⟨g, off, rfl, hlt, fun i hi => ?_⟩
    rw [List.length_map] at hi
    simp only [List.getElem_map]
    exact at_ld (show At w g (off + i * 9) l[i] from hc i hi)
set_option maxRecDepth 100000 in
set_option maxHeartbeats 4000000 in
theorem best1 (g : Nat) (y : LdM) (fr : List ByteArray) (a : Option Addr) (n c A : Nat) (z : World) (hg : z.cell? ⟨g, 0, none⟩ = some (.slice a n c)) (hs : Sl z A z.heap.size (.slice a n c) fr) :
    Calls Tryz.prog 106 #[.agg #[.string y.x.nd.n, .int .i64 y.x.nd.z0, .int .i64 y.x.nd.z1, .int .i64 y.x.nd.z2, .slice y.x.a2 y.x.nd.ls.length y.x.c2, .slice y.x.a3 y.x.nd.ts.length y.x.c3, .int .i64 y.u0, .int .i64 y.u1, .int .i64 y.u2], .pointer (some ⟨g, 0, none⟩)] z fun e z' => e = .returned (.bool (!hasK fr y.x.nd.n)) ∧ Below z.heap.size z z' := by
  have h1 : (z.alloc (.cells #[.string y.x.nd.n, .int .i64 y.x.nd.z0, .int .i64 y.x.nd.z1, .int .i64 y.x.nd.z2, .slice y.x.a2 y.x.nd.ls.length y.x.c2, .slice y.x.a3 y.x.nd.ts.length y.x.c3, .int .i64 y.u0, .int .i64 y.u1, .int .i64 y.u2] 47)).cell? ⟨g, 0, none⟩ = some (.slice a n c) := cell_old _ hg
  have HB := Lib.hid (al z (.cells #[.string y.x.nd.n, .int .i64 y.x.nd.z0, .int .i64 y.x.nd.z1, .int .i64 y.x.nd.z2, .slice y.x.a2 y.x.nd.ls.length y.x.c2, .slice y.x.a3 y.x.nd.ts.length y.x.c3, .int .i64 y.u0, .int .i64 y.u1, .int .i64 y.u2] 47))
  have HC : Hid (Calls Tryz.prog 107 #[.slice a n c, .string y.x.nd.n] (z.alloc (.cells #[.string y.x.nd.n, .int .i64 y.x.nd.z0, .int .i64 y.x.nd.z1, .int .i64 y.x.nd.z2, .slice y.x.a2 y.x.nd.ls.length y.x.c2, .slice y.x.a3 y.x.nd.ts.length y.x.c3, .int .i64 y.u0, .int .i64 y.u1, .int .i64 y.u2] 47)) fun e w' => e = .returned (.bool (hasK fr y.x.nd.n)) ∧ Below (z.alloc (.cells #[.string y.x.nd.n, .int .i64 y.x.nd.z0, .int .i64 y.x.nd.z1, .int .i64 y.x.nd.z2, .slice y.x.a2 y.x.nd.ls.length y.x.c2, .slice y.x.a3 y.x.nd.ts.length y.x.c3, .int .i64 y.u0, .int .i64 y.u1, .int .i64 y.u2] 47)).heap.size (z.alloc (.cells #[.string y.x.nd.n, .int .i64 y.x.nd.z0, .int .i64 y.x.nd.z1, .int .i64 y.x.nd.z2, .slice y.x.a2 y.x.nd.ls.length y.x.c2, .slice y.x.a3 y.x.nd.ts.length y.x.c3, .int .i64 y.u0, .int .i64 y.u1, .int .i64 y.u2] 47)) w') := contains_s _ _ _ _ (hs.on (al z _))
  clear hg hs
  cases hq : hasK fr y.x.nd.n
  all_goals
    rw [hq] at HC
    clear hq
    go_enter Tryz.func106, Tryz.ntmps106
    go_wp2_with fail
    refine HC.out.mono ?_
    rintro e w1 ⟨rfl, hb⟩
    have HE : Hid (Below z.heap.size z w1) := HB.out.trans (hb.mono HB.out.size)
    clear hb HC
    go_wp2
    go_ret
    exact ⟨rfl, HE.out⟩
set_option maxRecDepth 100000 in
set_option maxHeartbeats 4000000 in
theorem best_any (b : Bk) (vn vt vb : Value) (x : TdM) (w : World) (hB : Books w w.heap.size vn vt vb b) (hc : chkB b = true) (hdt : DeepT w w.heap.size x) (hft : FitT x.td) : Calls Tryz.prog 55 #[.agg #[vn, vt, vb, .int .u64 (b.fe : Nat)], .agg #[.string x.td.n, .int .i64 x.td.z0, .int .i64 x.td.z1, .int .i64 x.td.z2, .slice x.a4 x.td.ws.length x.c4, .slice x.a5 x.td.bs.length x.c5, .string x.td.g, .string x.td.a, .int .i64 x.td.r]] w fun e w' => e = .returned (.string (bstV b x.td)) ∧ Below w.heap.size w w' := by
  obtain ⟨⟨an, cn, rfl⟩, ⟨at', ct, rfl⟩, ⟨ab, cb, rfl⟩⟩ := And.intro hB.hn.slice (And.intro hB.ht.slice hB.hb.slice)
  have hE : ∀ args z, (callFunc 106 args).run Tryz.prog z = .ok (.enter 106 args) z := enters_of Tryz.func106 (by kernel_rfl) rfl
  obtain ⟨W0, hW0⟩ : ∃ W0, W0 = (w.alloc (.cells #[.slice an b.ns.length cn, .slice at' b.ts.length ct, .slice ab b.bs.length cb, .int .u64 (b.fe : Nat)] 27)).alloc (.cells #[.string x.td.n, .int .i64 x.td.z0, .int .i64 x.td.z1, .int .i64 x.td.z2, .slice x.a4 x.td.ws.length x.c4, .slice x.a5 x.td.bs.length x.c5, .string x.td.g, .string x.td.a, .int .i64 x.td.r] 42) := ⟨_, rfl⟩
  have hf0 : Fr2 w W0 [.slice an b.ns.length cn, .slice at' b.ts.length ct, .slice ab b.bs.length cb, .int .u64 (b.fe : Nat)] [.string x.td.n, .int .i64 x.td.z0, .int .i64 x.td.z1, .int .i64 x.td.z2, .slice x.a4 x.td.ws.length x.c4, .slice x.a5 x.td.bs.length x.c5, .string x.td.g, .string x.td.a, .int .i64 x.td.r] := by rw [hW0]; exact Fr2.made w _ _ _ _
  have HB0 : Hid (Below w.heap.size w W0) := hf0.b
  have HP0 : Hid (Hd.Bxn W0 w.heap.size [.slice an b.ns.length cn, .slice at' b.ts.length ct, .slice ab b.bs.length cb, .int .u64 (b.fe : Nat)]) := hf0.p
  have HT0 : Hid (Hd.Bxn W0 (w.heap.size + 1) [.string x.td.n, .int .i64 x.td.z0, .int .i64 x.td.z1, .int .i64 x.td.z2, .slice x.a4 x.td.ws.length x.c4, .slice x.a5 x.td.bs.length x.c5, .string x.td.g, .string x.td.a, .int .i64 x.td.r]) := hf0.r
  have HBK : Hid (∀ z, Below w.heap.size w z → Books z z.heap.size (.slice an b.ns.length cn) (.slice at' b.ts.length ct) (.slice ab b.bs.length cb) b) := fun z hz => hB.on hz
  have HFI := Lib.hid (hB.fine hc)
  have HRB := Lib.hid (rb_of_chk hc)
  have HLE : Hid (b.ns.length ≤ 16) := HRB.out.ln
  have HLF : Hid ((frV b x.td.n).length ≤ 16) := Nat.le_trans (fr_len b x.td.n) HRB.out.ln
  have HFT := Lib.hid hft
  have HDX : Hid (∀ z, Below w.heap.size w z → DeepT z z.heap.size x) := fun z hz => hdt.on hz
  have HFQ : Hid (∀ z, Below w.heap.size w z → Calls Tryz.prog 16 #[.agg #[.slice an b.ns.length cn, .slice at' b.ts.length ct, .slice ab b.bs.length cb, .int .u64 (b.fe : Nat)], .string x.td.n] z fun e w' => ∃ (a : Option Addr) (c q : Nat), e = .returned (.tuple #[.slice a (frV b x.td.n).length c, .int .i64 (q : Nat)]) ∧ Own w' z.heap.size 9 (.slice a (frV b x.td.n).length c) (frV b x.td.n) ∧ Below z.heap.size z w') := fun z hz => by
    refine (free_any b _ _ _ x.td.n z (HBK.out z hz)).mono ?_
    rintro e w' ⟨v, he', ho, hb⟩
    obtain ⟨a, c, rfl⟩ := ho.slice
    exact ⟨a, c, _, he', ho, hb⟩
  have HLQ : Hid (∀ z, Below w.heap.size w z → Calls Tryz.prog 14 #[.agg #[.slice an b.ns.length cn, .slice at' b.ts.length ct, .slice ab b.bs.length cb, .int .u64 (b.fe : Nat)]] z fun e w' => ∃ (a : Option Addr) (c : Nat) (l : List NdM), e = .returned (.tuple #[.slice a l.length c, .int .i64 0]) ∧ Own w' z.heap.size 47 (.slice a l.length c) (l.map (mkL b)) ∧ l.map (·.nd) = b.ns ∧ (∀ u ∈ l, OwnN w' z.heap.size u) ∧ Below z.heap.size z w') := fun z hz => by
    refine (loads_any b _ _ _ z (HBK.out z hz)).mono ?_
    rintro e w' ⟨v, l, he, ho, hm, hn, hb⟩
    rw [hc, if_pos rfl] at hm
    obtain ⟨a, c, rfl⟩ := ho.slice
    rw [List.length_map] at he ho
    refine ⟨a, c, l, ?_, ho, hm, hn, hb⟩
    rw [he, hc]
    rfl
  have HSW : Hid (W0.heap.size = w.heap.size + 2) := by show _ = _; rw [hW0]; simp
  have HW := Lib.hid hW0
  clear hW0 hf0 hB hc hft hdt
  go_enter Tryz.func55, Tryz.ntmps55
  go_upto_region 1 with fail
  rw [← HW.out]
  have p0 : W0.cell? ⟨w.heap.size, 0, none⟩ = some (.slice an b.ns.length cn) := HP0.out.cell 0
  have p1 : W0.cell? ⟨w.heap.size, 1, none⟩ = some (.slice at' b.ts.length ct) := HP0.out.cell 1
  have p2 : W0.cell? ⟨w.heap.size, 2, none⟩ = some (.slice ab b.bs.length cb) := HP0.out.cell 2
  have p3 : W0.cell? ⟨w.heap.size, 3, none⟩ = some (.int .u64 (b.fe : Nat)) := HP0.out.cell 3
  have n0 : W0.cell? ⟨w.heap.size + 1, 0, none⟩ = some (.string x.td.n) := HT0.out.cell 0
  go_wp2_with fail
  refine (HFQ.out W0 HB0.out).mono ?_
  rintro e w1 ⟨af, cf, q, rfl, hof, hb⟩
  have HB1 : Hid (Below w.heap.size w w1) := HB0.out.trans (hb.mono HB0.out.size)
  have HP1 := Lib.hid (HP0.out.below hb)
  have HT1 := Lib.hid (HT0.out.below hb)
  have HOF := Lib.hid hof
  have HS1 : Hid (W0.heap.size ≤ w1.heap.size) := hb.size
  clear hb hof p0 p1 p2 p3 n0 HP0 HT0 HFQ HW
  obtain ⟨wy, hwy⟩ : ∃ wy, wy = w1.alloc (.cells #[.slice af (frV b x.td.n).length cf] 34) := ⟨_, rfl⟩
  have HYB : Hid (Below w1.heap.size w1 wy) := by rw [hwy]; exact al _ _
  have HFX : Hid (Hd.Bxn wy w1.heap.size [.slice af (frV b x.td.n).length cf]) := by rw [hwy]; exact Hd.Bxn.made w1 _ _
  have HWY := Lib.hid hwy
  clear hwy
  go_upto_region 2 with fail
  rw [← HWY.out]
  have HBY : Hid (Below w.heap.size w wy) := HB1.out.trans (HYB.out.mono HB1.out.size)
  have HPY := Lib.hid (HP1.out.below HYB.out)
  have HTY := Lib.hid (HT1.out.below HYB.out)
  have HOY := Lib.hid (HOF.out.keep HYB.out)
  have fx : wy.cell? ⟨w1.heap.size, 0, none⟩ = some (.slice af (frV b x.td.n).length cf) := HFX.out.cell 0
  clear HWY HYB HP1 HT1 HOF HB1
  by_cases hfr : frV b x.td.n = []
  · have hz : (frV b x.td.n).length = 0 := by rw [hfr]; rfl
    have HBE : Hid (bstV b x.td = ⟨#[]⟩) := bst_none hfr
    rw [hz] at fx
    clear hfr
    go_wp2
    go_ret
    exact ⟨by rw [HBE.out]; rfl, HBY.out⟩
  · have hz : ¬ (frV b x.td.n).length = 0 := fun h => hfr (List.eq_nil_of_length_eq_zero h)
    have t0 : (((frV b x.td.n).length : Int) == 0) = false := by simp; exact hfr
    have t0b : ¬ ((frV b x.td.n).length : Int) = 0 := by omega
    have HNE := Lib.hid hfr
    clear hfr
    have y0 : wy.cell? ⟨w.heap.size, 0, none⟩ = some (.slice an b.ns.length cn) := HPY.out.cell 0
    have y1 : wy.cell? ⟨w.heap.size, 1, none⟩ = some (.slice at' b.ts.length ct) := HPY.out.cell 1
    have y2 : wy.cell? ⟨w.heap.size, 2, none⟩ = some (.slice ab b.bs.length cb) := HPY.out.cell 2
    have y3 : wy.cell? ⟨w.heap.size, 3, none⟩ = some (.int .u64 (b.fe : Nat)) := HPY.out.cell 3
    go_wp2_with fail
    refine (HLQ.out wy HBY.out).mono ?_
    rintro e w2 ⟨al', cl, l, rfl, hol, hml, hnl, hb⟩
    have HB2 : Hid (Below w.heap.size w w2) := HBY.out.trans (hb.mono HBY.out.size)
    have HP2 := Lib.hid (HPY.out.below hb)
    have HT2 := Lib.hid (HTY.out.below hb)
    have HF2 := Lib.hid (HFX.out.below hb)
    have HO2 := Lib.hid (HOY.out.keep hb)
    have HSY : Hid (w.heap.size + 2 ≤ w1.heap.size ∧ w1.heap.size < wy.heap.size ∧ wy.heap.size ≤ w2.heap.size) := ⟨by have := HS1.out; have := HSW.out; omega, HFX.out.lt, hb.size⟩
    have HOL := Lib.hid hol
    have HML := Lib.hid hml
    have HNL := Lib.hid hnl
    have HLL : Hid (l.length ≤ 16) := by have h1 := congrArg List.length hml; rw [List.length_map] at h1; show _ ≤ _; have := HLE.out; omega
    clear hb hol hml hnl fx y0 y1 y2 y3 HPY HTY HFX HOY HLQ t0 t0b hz
    have HDF : Hid (Calls Tryz.prog 105 #[.slice al' l.length cl, .func (.func 106) #[] #[.pointer (some ⟨w1.heap.size, 0, none⟩)]] w2 fun e w' => ∃ (a : Option Addr) (c : Nat), e = .returned (.slice a ((l.map (mkL b)).filter (fun y => !(!hasK (frV b x.td.n) y.x.nd.n))).length c) ∧ Own w' wy.heap.size 47 (.slice a ((l.map (mkL b)).filter (fun y => !(!hasK (frV b x.td.n) y.x.nd.n))).length c) ((l.map (mkL b)).filter (fun y => !(!hasK (frV b x.td.n) y.x.nd.n))) ∧ w2.grownBy w' (Value.slice al' l.length cl).ownBlock) := by
      refine (deletef_l 106 hE (.pointer (some ⟨w1.heap.size, 0, none⟩)) (fun y => !hasK (frV b x.td.n) y.x.nd.n) _ (l.map (mkL b)) wy.heap.size w2 HOL.out (by rw [List.length_map]; have := HLL.out; omega) (fun y _ z hz => ?_)).mono ?_
      · have ho3 : Own z W0.heap.size 9 (.slice af (frV b x.td.n).length cf) (frV b x.td.n) := HO2.out.other hz (HO2.out.apart HOL.out (by decide))
        refine best1 w1.heap.size y (frV b x.td.n) af _ cf W0.heap.size z ?_ (ho3.sl (by have := HLF.out; omega))
        refine hz.cell (HF2.out.cell 0) (fun e => ?_)
        have h1 := HOL.out.lt _ e.symm
        have h2 : wy.heap.size ≤ w1.heap.size := h1.1
        have h3 := HSY.out.2.1
        omega
      · rintro e w' ⟨v', rfl, ho, hg⟩
        obtain ⟨a, c, rfl⟩ := ho.slice
        exact ⟨a, c, rfl, ho, hg⟩
    go_wp2_with fail
    refine HDF.out.mono ?_
    rintro e w3 ⟨ar, cr, rfl, hor, hgr⟩
    have HB3 : Hid (Below w.heap.size w w3) := HB2.out.grown hgr HB2.out.size (fun g hg => by have h1 := HOL.out.lt _ hg; have h2 := HSY.out; omega)
    have HT3 : Hid (Hd.Bxn w3 (w.heap.size + 1) [.string x.td.n, .int .i64 x.td.z0, .int .i64 x.td.z1, .int .i64 x.td.z2, .slice x.a4 x.td.ws.length x.c4, .slice x.a5 x.td.bs.length x.c5, .string x.td.g, .string x.td.a, .int .i64 x.td.r]) := bxn_grownS HT2.out hgr (fun e => by have h1 := HOL.out.lt _ e.symm; have h2 := HSY.out; omega)
    have HNR : Hid (∀ y ∈ (l.map (mkL b)).filter (fun y => !(!hasK (frV b x.td.n) y.x.nd.n)), OwnN w3 wy.heap.size y.x ∧ FitN y.x.nd) := fun y hy => by
      obtain ⟨u, hu, rfl⟩ := List.mem_map.1 (List.mem_filter.1 hy).1
      refine ⟨(HNL.out u hu).off HOL.out (by decide) hgr, HFI.out.fn u.nd ?_⟩
      rw [← HML.out]
      exact List.mem_map_of_mem hu
    have HRL : Hid (((l.map (mkL b)).filter (fun y => !(!hasK (frV b x.td.n) y.x.nd.n))).length ≤ 16) := Nat.le_trans (List.length_filter_le _ _) (by rw [List.length_map]; exact HLL.out)
    have HWH : Hid (whV x.td (((l.map (mkL b)).filter (fun y => !(!hasK (frV b x.td.n) y.x.nd.n))).map toLd) = whV x.td (ldsP b x.td.n)) := whV_of b x.td l HML.out
    have HLD : Hid ((((l.map (mkL b)).filter (fun y => !(!hasK (frV b x.td.n) y.x.nd.n))).map toLd).map strip = ldsP b x.td.n) := lds_of b x.td.n l HML.out
    have HOR := Lib.hid hor
    clear hor hgr HDF HOL HNL HML HO2 HF2 HP2 HT2
    generalize (l.map (mkL b)).filter (fun y => !(!hasK (frV b x.td.n) y.x.nd.n)) = lf at *
    have HSB : Hid (Calls Tryz.prog 32 #[.agg #[.string x.td.n, .int .i64 x.td.z0, .int .i64 x.td.z1, .int .i64 x.td.z2, .slice x.a4 x.td.ws.length x.c4, .slice x.a5 x.td.bs.length x.c5, .string x.td.g, .string x.td.a, .int .i64 x.td.r], .slice ar lf.length cr] w3 fun e w' => ∃ q : Nat, e = .returned (.tuple #[.int .i64 (whV x.td (ldsP b x.td.n) : Nat), .int .i64 (q : Nat)]) ∧ Below w3.heap.size w3 w') := by
      have hdp := (HDX.out w3 HB3.out).pr HFT.out
      refine (Rg.best_of x.td.n x.td.g x.td.a x.td.z0 x.td.z1 x.td.z2 x.td.r x.a4 x.a5 x.td.ws.length x.c4 x.td.bs.length x.c5 x.td.ws x.td.bs (lf.map toLd) _ w3 (loads_row HOR.out (by have := HRL.out; omega) HNR.out) HFT.out.1 hdp.1 hdp.2).mono ?_
      rintro e w' ⟨he, hb⟩
      exact ⟨_, by rw [← HWH.out]; exact he, hb⟩
    have HLT : Hid (whV x.td (ldsP b x.td.n) < lf.length ∧ ∃ u, lf[whV x.td (ldsP b x.td.n)]? = some u ∧ u.x.nd.n = bstV b x.td) := by
      have h1 : whV x.td (ldsP b x.td.n) < (ldsP b x.td.n).length := best_lt _ _ _ _ _ (lds_ne HNE.out)
      have h2 : whV x.td (ldsP b x.td.n) < lf.length := by rw [← HLD.out, List.length_map, List.length_map] at h1; rw [HLD.out] at h1; exact h1
      refine ⟨h2, lf[whV x.td (ldsP b x.td.n)], List.getElem?_eq_getElem h2, ?_⟩
      unfold bstV Rg.nmK
      generalize whV x.td (ldsP b x.td.n) = m at *
      rw [← HLD.out, List.getElem?_map, List.getElem?_map, List.getElem?_eq_getElem h2]
      rfl
    generalize whV x.td (ldsP b x.td.n) = m at *
    clear HNR HWH HLD HNE
    have m0 : w3.cell? ⟨w.heap.size + 1, 0, none⟩ = some (.string x.td.n) := HT3.out.cell 0
    have m1 : w3.cell? ⟨w.heap.size + 1, 1, none⟩ = some (.int .i64 x.td.z0) := HT3.out.cell 1
    have m2 : w3.cell? ⟨w.heap.size + 1, 2, none⟩ = some (.int .i64 x.td.z1) := HT3.out.cell 2
    have m3 : w3.cell? ⟨w.heap.size + 1, 3, none⟩ = some (.int .i64 x.td.z2) := HT3.out.cell 3
    have m4 : w3.cell? ⟨w.heap.size + 1, 4, none⟩ = some (.slice x.a4 x.td.ws.length x.c4) := HT3.out.cell 4
    have m5 : w3.cell? ⟨w.heap.size + 1, 5, none⟩ = some (.slice x.a5 x.td.bs.length x.c5) := HT3.out.cell 5
    have m6 : w3.cell? ⟨w.heap.size + 1, 6, none⟩ = some (.string x.td.g) := HT3.out.cell 6
    have m7 : w3.cell? ⟨w.heap.size + 1, 7, none⟩ = some (.string x.td.a) := HT3.out.cell 7
    have m8 : w3.cell? ⟨w.heap.size + 1, 8, none⟩ = some (.int .i64 x.td.r) := HT3.out.cell 8
    go_wp2_with fail
    refine HSB.out.mono ?_
    rintro e w4 ⟨q2, rfl, hb⟩
    have HB4 : Hid (Below w.heap.size w w4) := HB3.out.trans (hb.mono HB3.out.size)
    have HO4 := Lib.hid (HOR.out.keep hb)
    obtain ⟨hlt, u, hu, hbu⟩ := HLT.out
    obtain ⟨hlt', hu'⟩ := List.getElem?_eq_some_iff.1 hu
    obtain ⟨g, cap, hv, -, -, hat, -⟩ := HO4.out.form (by omega)
    simp only [Value.slice.injEq, true_and] at hv
    obtain ⟨rfl, rfl⟩ := hv
    have hc0 : w4.cell? ⟨g, m * 9, none⟩ = some (.string (bstV b x.td)) := by
      have h1 : w4.cell? ⟨g, m * 9 + 0, none⟩ = some (.string lf[m].x.nd.n) := hat m hlt 0 _ rfl
      rw [hu', hbu] at h1
      exact h1
    have t1 : (m : Int) < (lf.length : Int) := by omega
    have t2 : (0 : Int) ≤ (m : Int) := by omega
    clear hb hat hu hu' hbu hlt hlt' m0 m1 m2 m3 m4 m5 m6 m7 m8 HSB HT3 HLT
    go_wp2
    go_ret
    exact ⟨rfl, HB4.out⟩
end Bo
end Go.Proofs.YthbmnkeigmbbdaaGreat
