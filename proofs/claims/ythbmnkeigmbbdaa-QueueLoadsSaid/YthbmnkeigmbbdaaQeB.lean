/-
  Merged: QeSort, QeOrd, QeLay, QeSrt.
-/
import Derived.Test.YthbmnkeigmbbdaaRowG
import Derived.Shelf.GgSortFunc.InsertionK
import Derived.Test.YthbmnkeigmbbdaaQeA
import Derived.Test.YthbmnkeigmbbdaaRgA
import Derived.Test.YthbmnkeigmbbdaaBgC
import Derived.Test.YthbmnkeigmbbdaaChecked
import Derived.Shelf.SlLaysF0
import Derived.Shelf.SlSortCmp.WholeK
import Derived.Shelf.SlSortCmp.NoneTotal
/-
  A ROW OF STRUCTS THAT THE CALL HAS BUILT, SORTED BY THE LIBRARY: the same slice owns the sorted list.
-/
namespace Go.Proofs.Ythbmnkeigmbbdaa
open Go.RowKit Go.Lib Go.Sort
namespace Rw
set_option linter.unusedVariables false
theorem holdsV {w : World} {g : Nat} {cur : Array Value} {e : TypeId} {xs : List Value} (hb : w.heap[g]? = some (.cells cur e (0, 0))) (ht : cur.toList.take xs.length = xs) : Holds id w g 0 xs.toArray := by
  intro j hj
  have hj' : j < xs.length := by simpa using hj
  refine ⟨?_, by simp [World.frozen?, hb]⟩
  have h1 : (cur.toList.take xs.length)[j]? = xs[j]? := by rw [ht]
  rw [List.getElem?_take_of_lt hj'] at h1
  simp only [World.cell?, hb, Nat.zero_add]
  simp only [Option.isSome_none, Bool.false_eq_true, if_false]
  rw [← Array.getElem?_toList, h1]
  simp [hj']
theorem heap_sortedV {w : World} {g n : Nat} {os : Array Obj} {cur : Array Value} {e : TypeId} {fr : Nat × Nat} (d : Array Value) (hb : w.heap[g]? = some (.cells cur e fr)) :
    (grow (putRow id (Sort.ahead w n) g 0 d) os).heap[g]? = some (.cells (putCells id 0 d cur) e fr) := by
  have hg : g < w.heap.size := (Array.getElem?_eq_some_iff.1 hb).1
  rw [heap_grow_old _ _ (by simpa using hg)]
  simp [putRow, mapBlock, Sort.ahead, Array.getElem?_modify, hb, onCells]
theorem grown_sortedV {w : World} {g n : Nat} {os : Array Obj} (d : Array Value) : w.grownBy (grow (putRow id (Sort.ahead w n) g 0 d) os) (some g) := by
  refine ⟨rfl, rfl, rfl, by simp, fun k hk hne => ?_⟩
  rw [heap_grow_old _ _ (by simpa using hk)]
  have : g ≠ k := fun e => hne (by rw [e])
  simp [putRow, mapBlock, Sort.ahead, Array.getElem?_modify, this]
theorem take_putCellsV (cur : Array Value) (ts : List Value) (h : ts.length ≤ cur.size) : (putCells id 0 ts.toArray cur).toList.take ts.length = ts := by
  apply List.ext_getElem?
  intro j
  by_cases hj : j < ts.length
  · rw [List.getElem?_take_of_lt hj, Array.getElem?_toList]
    simp [putCells, hj, show j < cur.size by omega]
  · rw [List.getElem?_take_eq_none (by omega), List.getElem?_eq_none (by omega)]
section
variable {α : Type} [F : Flat α] [Inhabited α]
theorem flatK_flat (l : List α) : flatK F.enc F.k l.toArray = (flat l).toArray := by
  apply ext_get!
  · simp [flat_len]
  · intro t ht
    have ht' : t < l.length * F.k := by simpa using ht
    rw [get_flatK _ _ _ t (by simpa using ht')]
    have hk := F.kp
    have hd : t / F.k < l.length := (Nat.div_lt_iff_lt_mul hk).2 ht'
    have hm : t % F.k < F.k := Nat.mod_lt _ hk
    have e : t / F.k * F.k + t % F.k = t := by rw [Nat.mul_comm]; exact Nat.div_add_mod t F.k
    have hf := flat_at l (t / F.k) hd (t % F.k) hm
    rw [e] at hf
    have h1 : t < (flat l).length := by rw [flat_len]; exact ht'
    rw [getElem!_pos (flat l).toArray t (by simpa using h1)]
    have h2 : (l.toArray)[t / F.k]! = l[t / F.k] := by rw [getElem!_pos l.toArray _ (by simpa using hd)]; simp
    rw [h2]
    have h3 : t % F.k < (F.enc l[t / F.k]).length := by rw [F.len]; exact hm
    rw [getElem!_pos (F.enc l[t / F.k]) _ h3]
    rw [List.getElem?_eq_getElem h1, List.getElem?_eq_getElem h3] at hf
    simpa using (Option.some.inj hf).symm
/-- What the sort asks of the row. -/
theorem Own.holdsK {w : World} {base g cap : Nat} {e : TypeId} {l : List α} (h : Own w base e (.slice (some ⟨g, 0, none⟩) l.length cap) l) : HoldsK F.enc F.k w g 0 l.toArray := by
  rcases h.2 with ⟨h1, -⟩ | ⟨g', cap', cur, he, -, hg, -, -, -, ht⟩
  · cases h1
  · simp only [Value.slice.injEq, Option.some.injEq, Addr.mk.injEq] at he
    obtain ⟨⟨rfl, -⟩, -⟩ := he
    unfold HoldsK
    rw [flatK_flat]
    exact holdsV hg (by rw [flat_len]; exact ht)
/-- Behind the sort the same slice owns the sorted list. -/
theorem Own.sorted {w : World} {base g cap n : Nat} {e : TypeId} {os : Array Obj} {l m : List α} (h : Own w base e (.slice (some ⟨g, 0, none⟩) l.length cap) l) (hl : m.length = l.length) :
    Own (sortWorldK F.enc F.k w g 0 n m.toArray os) base e (.slice (some ⟨g, 0, none⟩) m.length cap) m ∧ w.grownBy (sortWorldK F.enc F.k w g 0 n m.toArray os) (some g) := by
  unfold sortWorldK putRowK
  rw [flatK_flat]
  refine ⟨⟨by rw [flat_len], ?_⟩, grown_sortedV _⟩
  rcases h.2 with ⟨h1, -⟩ | ⟨g', cap', cur, he, hb, hg, h1, h2, h3, ht⟩
  · cases h1
  · simp only [Value.slice.injEq, Option.some.injEq, Addr.mk.injEq] at he
    obtain ⟨⟨rfl, -⟩, -, rfl⟩ := he
    refine .inr ⟨g, cap, _, rfl, hb, heap_sortedV _ hg, by omega, h2, by simp [putCells, h3], ?_⟩
    rw [← flat_len]
    refine take_putCellsV cur (flat m) ?_
    rw [flat_len, h3, hl]
    exact Nat.mul_le_mul_right _ h1
end
end Rw
end Go.Proofs.Ythbmnkeigmbbdaa

/-
  HOW TWO TASKS WAIT: cmp.Compare of whole numbers, queue.inOrder; who is on a node: queue.isOn.
-/
namespace Go.Proofs.Ythbmnkeigmbbdaa
open Go.RowKit Go.Lib Go.Sort
namespace Bo
open Rw
set_option linter.unusedVariables false
instance : Inhabited TdM := ⟨⟨Hd.td0, none, 0, none, 0⟩⟩
set_option maxHeartbeats 400000 in
theorem nanI_any (x : Int) (w : World) : Calls Try.prog 75 #[.int .i64 x] w fun e w' => e = .returned (.bool false) ∧ w = w' := by
  go_enter Try.func75, Try.ntmps75
  go_wp2
  go_ret
  exact ⟨by simp, rfl⟩
set_option maxHeartbeats 400000 in
theorem cmpI_any (x y : Int) (w : World) : Calls Try.prog 42 #[.int .i64 x, .int .i64 y] w fun e w' => e = .returned (.int .i64 (ciI x y)) ∧ w = w' := by
  unfold ciI
  by_cases h1 : x < y
  · rw [if_pos h1]
    go_enter Try.func42, Try.ntmps42
    go_wp2_with (go_at_call 75; refine (nanI_any _ _).mono ?_; rintro e w' ⟨rfl, rfl⟩)
    go_ret
    exact ⟨rfl, rfl⟩
  · rw [if_neg h1]
    by_cases h2 : y < x
    · rw [if_pos h2]
      go_enter Try.func42, Try.ntmps42
      go_wp2_with (go_at_call 75; refine (nanI_any _ _).mono ?_; rintro e w' ⟨rfl, rfl⟩)
      go_ret
      exact ⟨rfl, rfl⟩
    · rw [if_neg h2]
      go_enter Try.func42, Try.ntmps42
      go_wp2_with (go_at_call 75; refine (nanI_any _ _).mono ?_; rintro e w' ⟨rfl, rfl⟩)
      go_ret
      exact ⟨rfl, rfl⟩
theorem grow3 (w : World) (a b c : Obj) : (((w.alloc a).alloc b).drew).alloc c = grow (w.drewN 1) #[a, b, c] := by
  show _ = _
  rw [alloc_eq_grow, alloc_eq_grow, alloc_eq_grow, grow_grow]
  show grow (grow w.drew _) _ = _
  rw [grow_grow]
  rfl
set_option maxRecDepth 100000 in
set_option maxHeartbeats 2000000 in
/-- queue.inOrder: two boxes, a draw, a row of two. -/
theorem inO_any (x y : TdM) (w : World) : Calls Try.prog 18 #[.agg (tdE x).toArray, .agg (tdE y).toArray] w fun e w' => e = .returned (.int .i64 (inO x.td y.td)) ∧ ∃ q os', w' = grow (w.drewN q) os' := by
  obtain ⟨⟨xn, x0, x1, x2, xw, xb, xg, xa, xr⟩, xa4, xc4, xa5, xc5⟩ := x
  obtain ⟨⟨yn, y0, y1, y2, yw, yb, yg, ya, yr⟩, ya4, yc4, ya5, yc5⟩ := y
  show Calls Try.prog 18 #[.agg #[.string xn, .int .i64 x0, .int .i64 x1, .int .i64 x2, .slice xa4 xw.length xc4, .slice xa5 xb.length xc5, .string xg, .string xa, .int .i64 xr], .agg #[.string yn, .int .i64 y0, .int .i64 y1, .int .i64 y2, .slice ya4 yw.length yc4, .slice ya5 yb.length yc5, .string yg, .string ya, .int .i64 yr]] w _
  have HN : Hid (inO ⟨xn, x0, x1, x2, xw, xb, xg, xa, xr⟩ ⟨yn, y0, y1, y2, yw, yb, yg, ya, yr⟩ = Rg.orI (ciI yr xr) (Rg.cmpS xn yn)) := rfl
  have H1 := Lib.hid (fun w => cmpI_any yr xr w)
  have H2 := Lib.hid (fun w => Rg.cmp_any xn yn w)
  generalize ciI yr xr = r1 at *
  generalize Rg.cmpS xn yn = r2 at *
  generalize xw.length = n1 at *
  generalize xb.length = n2 at *
  generalize yw.length = n3 at *
  generalize yb.length = n4 at *
  go_enter Try.func18, Try.ntmps18
  go_wp2
  refine wp_region_still_tail 10 (by kernel_rfl) (by kernel_rfl) ?_
  simp only [List.take_succ_cons, List.take_zero, List.drop_succ_cons, List.drop_zero]
  change wpStill _ _ (World.drew ((w.alloc _).alloc _)) _ _ _
  still_step
  still_step
  still_step
  still_step
  still_call ((H1.out _).mono fun e w'' ⟨h, k⟩ => ⟨h, k.symm⟩)
  still_step
  still_step
  still_step
  still_step
  still_call ((H2.out _).mono fun e w'' ⟨h, k⟩ => ⟨h, k.symm⟩)
  refine wpStill_nil ?_
  change wpList _ _ _ _ _ (World.drew ((w.alloc _).alloc _))
  go_wp2_with fail
  refine (Rg.or_any r1 r2 (w.heap.size + 1 + 1) _ ?_ ?_).mono ?_
  · simp [go_sem]
  · simp [go_sem]
  rintro e w' ⟨rfl, rfl⟩
  go_wp2
  go_ret
  exact ⟨by rw [HN.out]; rfl, 1, _, grow3 w _ _ _⟩
set_option maxHeartbeats 1000000 in
/-- queue.isOn's own function: whether a bind is of this task; the task's name lies in a box. -/
theorem isOn1 (k : ByteArray) (g : Nat) (x : Rg.Pr) (w z : World) (hg : w.cell? ⟨g, 0, none⟩ = some (.string k)) (hz : Below w.heap.size w z) :
    Calls Try.prog 63 #[.agg #[.string x.k, .string x.v], .pointer (some ⟨g, 0, none⟩)] z fun e z' => e = .returned (.bool (decide (x.k = k))) ∧ Below z.heap.size z z' := by
  have hgl := World.block_lt_of_cell? w _ hg
  have h1 : (z.alloc (.cells #[.string x.k, .string x.v] 38)).cell? ⟨g, 0, none⟩ = some (.string k) := cell_old _ ((hz.cell (by exact hgl)).trans hg)
  have HE : Hid (decide (x.k = k) = (x.k.toList == k.toList)) := by
    show _ = _
    rw [Bool.eq_iff_iff, decide_eq_true_eq, beq_iff_eq]
    exact ⟨fun e => by rw [e], fun e => Hd.ba_ext e⟩
  have HB := Lib.hid (al z (.cells #[.string x.k, .string x.v] 38))
  clear hg hz hgl
  go_enter Try.func63, Try.ntmps63
  go_wp2
  go_ret
  exact ⟨by rw [HE.out]; rfl, HB.out⟩
set_option maxRecDepth 100000 in
set_option maxHeartbeats 2000000 in
theorem isOn_any (b : Bk) (vn vt vb : Value) (k : ByteArray) (w : World) (hB : Books w w.heap.size vn vt vb b) :
    Calls Try.prog 36 #[.agg #[vn, vt, vb, .int .u64 (b.fe : Nat)], .string k] w fun e w' => e = .returned (.bool (hasK (b.bs.map (·.k)) k)) ∧ Below w.heap.size w w' := by
  have hE : ∀ args z, (callFunc 63 args).run Try.prog z = .ok (.enter 63 args) z := enters_of Try.func63 (by kernel_rfl) rfl
  obtain ⟨W0, hW0⟩ : ∃ W0, W0 = (w.alloc (.cells #[vn, vt, vb, .int .u64 (b.fe : Nat)] 27)).alloc (.cells #[.string k] 9) := ⟨_, rfl⟩
  have hb0 : Below w.heap.size w W0 := by rw [hW0]; exact (al w _).trans ((al _ _).mono (by simp))
  have hk : W0.cell? ⟨w.heap.size + 1, 0, none⟩ = some (.string k) := by
    rw [hW0]
    have := cell_new (w.alloc (.cells #[vn, vt, vb, .int .u64 (b.fe : Nat)] 27)) (.string k) 9
    rw [World.size_alloc] at this
    exact this
  have hx0 : Hd.Bxn W0 w.heap.size [vn, vt, vb, .int .u64 (b.fe : Nat)] := by rw [hW0]; exact (Hd.Bxn.made w _ _).below (al _ _)
  have HC : Hid (Calls Try.prog 62 #[vb, .func (.func 63) #[] #[.pointer (some ⟨w.heap.size + 1, 0, none⟩)]] W0 fun e w' => e = .returned (.bool (hasK (b.bs.map (·.k)) k)) ∧ Below W0.heap.size W0 w') := by
    refine (contains_b 63 hE (.pointer (some ⟨w.heap.size + 1, 0, none⟩)) (fun x => decide (x.k = k)) vb b.bs W0 (hB.on hb0).hb.1 (fun x _ z hz => isOn1 k _ x W0 z hk hz)).mono ?_
    rintro e w' ⟨he, hb⟩
    refine ⟨?_, hb⟩
    rw [he]
    unfold hasK
    rw [List.any_map]
    rfl
  obtain ⟨an, cn, hvn⟩ := hB.hn.slice
  obtain ⟨at', ct, hvt⟩ := hB.ht.slice
  obtain ⟨ab, cb, hvb⟩ := hB.hb.slice
  subst hvn hvt hvb
  have HB0 := Lib.hid hb0
  have HX0 := Lib.hid hx0
  have HW := Lib.hid hW0
  generalize hasK (b.bs.map (·.k)) k = r at *
  clear hW0 hb0 hx0 hB hk
  go_enter Try.func36, Try.ntmps36
  go_upto_region 1 with fail
  rw [← HW.out]
  have b2 : W0.cell? ⟨w.heap.size, 2, none⟩ = some (.slice ab b.bs.length cb) := HX0.out.cell 2
  go_wp2_with fail
  refine HC.out.mono ?_
  rintro e w1 ⟨rfl, hb⟩
  have H1 : Hid (Below w.heap.size w w1) := HB0.out.trans (hb.mono HB0.out.size)
  clear hb b2
  go_wp2
  go_ret
  exact ⟨rfl, H1.out⟩
end Bo
end Go.Proofs.Ythbmnkeigmbbdaa

/-
  slices.SortFunc of tasks: the library's own text, laid.
-/
namespace Go.Proofs.Ythbmnkeigmbbdaa
open Go.Shelf
namespace Bo
def sortT_ren : Go.Shelf.Ren := ⟨fun | 6 => 17 | 15 => 40 | 14 => 39 | 28 => 73 | 29 => 74 | 20 => 65 | 21 => 66 | 22 => 67 | 23 => 68 | 24 => 69 | 25 => 70 | 26 => 71 | 27 => 72 | 46 => 94 | 47 => 95 | 48 => 96 | 49 => 97 | 50 => 98 | 57 => 105 | n => n, fun | 22 => 23 | 24 => 36 | 25 => 62 | 3 => 3 | 39 => 84 | 0 => 0 | 53 => 117 | 55 => 25 | 4 => 4 | 46 => 111 | 45 => 110 | 50 => 98 | 5 => 5 | 9 => 9 | 66 => 134 | 70 => 138 | 76 => 145 | 77 => 146 | n => n, fun | n => n⟩
theorem sortT : Go.Proofs.SlLaysF0.n6 Try.prog sortT_ren := {
  mixed := by kernel_rfl,
  f6 := ⟨Try.f17.name, by decide, Try.func17.trans (congrArg some (by kernel_rfl))⟩,
  f14 := ⟨Try.f39.name, by decide, Try.func39.trans (congrArg some (by kernel_rfl))⟩,
  f15 := Try.func40.trans (congrArg some (by kernel_rfl)),
  f20 := ⟨Try.f65.name, by decide, Try.func65.trans (congrArg some (by kernel_rfl))⟩,
  f21 := ⟨Try.f66.name, by decide, Try.func66.trans (congrArg some (by kernel_rfl))⟩,
  f22 := ⟨Try.f67.name, by decide, Try.func67.trans (congrArg some (by kernel_rfl))⟩,
  f23 := ⟨Try.f68.name, by decide, Try.func68.trans (congrArg some (by kernel_rfl))⟩,
  f24 := ⟨Try.f69.name, by decide, Try.func69.trans (congrArg some (by kernel_rfl))⟩,
  f25 := ⟨Try.f70.name, by decide, Try.func70.trans (congrArg some (by kernel_rfl))⟩,
  f26 := ⟨Try.f71.name, by decide, Try.func71.trans (congrArg some (by kernel_rfl))⟩,
  f27 := ⟨Try.f72.name, by decide, Try.func72.trans (congrArg some (by kernel_rfl))⟩,
  f28 := Try.func73.trans (congrArg some (by kernel_rfl)),
  f29 := Try.func74.trans (congrArg some (by kernel_rfl)),
  f46 := ⟨Try.f94.name, by decide, Try.func94.trans (congrArg some (by kernel_rfl))⟩,
  f47 := Try.func95.trans (congrArg some (by kernel_rfl)),
  f48 := Try.func96.trans (congrArg some (by kernel_rfl)),
  f49 := ⟨Try.f97.name, by decide, Try.func97.trans (congrArg some (by kernel_rfl))⟩,
  f50 := ⟨Try.f98.name, by decide, Try.func98.trans (congrArg some (by kernel_rfl))⟩,
  f57 := ⟨Try.f105.name, by decide, Try.func105.trans (congrArg some (by kernel_rfl))⟩,
  t0 := Try.underlying0,
  a0 := Try.isAgg0,
  z0 := Try.sizeOf0,
  v0 := Try.zeroValue0,
  t3 := Try.underlying3,
  a3 := Try.isAgg3,
  z3 := Try.sizeOf3,
  v3 := Try.zeroValue3,
  t4 := Try.underlying4,
  a4 := Try.isAgg4,
  z4 := Try.sizeOf4,
  v4 := Try.zeroValue4,
  t5 := Try.underlying5,
  a5 := Try.isAgg5,
  z5 := Try.sizeOf5,
  v5 := Try.zeroValue5,
  t9 := Try.underlying9,
  a9 := Try.isAgg9,
  z9 := Try.sizeOf9,
  v9 := Try.zeroValue9,
  t22 := Try.underlying23,
  a22 := Try.isAgg23,
  z22 := Try.sizeOf23,
  v22 := Try.zeroValue23,
  t25 := Try.underlying62,
  a25 := Try.isAgg62,
  z25 := Try.sizeOf62,
  v25 := Try.zeroValue62,
  t39 := Try.underlying84,
  a39 := Try.isAgg84,
  z39 := Try.sizeOf84,
  v39 := Try.zeroValue84,
  t45 := Try.underlying110,
  a45 := Try.isAgg110,
  z45 := Try.sizeOf110,
  v45 := Try.zeroValue110,
  t46 := Try.underlying111,
  a46 := Try.isAgg111,
  z46 := Try.sizeOf111,
  v46 := Try.zeroValue111,
  t50 := Try.underlying98,
  a50 := Try.isAgg98,
  z50 := Try.sizeOf98,
  v50 := Try.zeroValue98,
  t53 := Try.underlying117,
  a53 := Try.isAgg117,
  z53 := Try.sizeOf117,
  v53 := Try.zeroValue117,
  t55 := Try.underlying25,
  a55 := Try.isAgg25,
  z55 := Try.sizeOf25,
  v55 := Try.zeroValue25,
  t66 := Try.underlying134,
  a66 := Try.isAgg134,
  z66 := Try.sizeOf134,
  v66 := Try.zeroValue134,
  t70 := Try.underlying138,
  a70 := Try.isAgg138,
  z70 := Try.sizeOf138,
  v70 := Try.zeroValue138,
  t76 := Try.underlying145,
  a76 := Try.isAgg145,
  z76 := Try.sizeOf145,
  v76 := Try.zeroValue145,
  t77 := Try.underlying146,
  a77 := Try.isAgg146,
  z77 := Try.sizeOf146,
  v77 := Try.zeroValue146 }

end Bo
end Go.Proofs.Ythbmnkeigmbbdaa

/-
  slices.SortFunc of tasks by queue.inOrder: a row of one's own, sorted.
-/
namespace Go.Proofs.Ythbmnkeigmbbdaa
open Go.Shelf Go.RowKit Go.Lib Go.Sort
namespace Bo
open Rw
set_option linter.unusedVariables false
theorem cmpLays_inO (blk off size : Nat) (w : World) : CmpLays Try.prog 18 #[] tdE 9 (fun x y : TdM => inO x.td y.td) blk off size w := fun _ _ _ _ x y => inO_any x y _
theorem ltOf_inO (x y : TdM) : ltOf (fun x y : TdM => inO x.td y.td) x y = ahB x.td y.td := inO_lt x.td y.td
theorem swo_inO : SWO (ltOf fun x y : TdM => inO x.td y.td) where
  irrefl x := by rw [ltOf_inO]; exact ah_irr _
  trans x y z h1 h2 := by rw [ltOf_inO] at *; exact ah_trans h1 h2
  ntrans x y z h1 h2 := by rw [ltOf_inO] at *; exact ah_ntrans h1 h2
/-- What the sort leaves. -/
def SortedT (w : World) (base : Nat) (v : Value) (m : List TdM) (e : Ending) (w' : World) : Prop := e = .returned (.tuple #[]) ∧ ∃ m', Own w' base 36 v m' ∧ m'.map (·.td) = srtT (m.map (·.td)) ∧ m'.Perm m ∧ w.grownBy w' v.ownBlock
theorem sort_own (v : Value) (m : List TdM) (base : Nat) (w : World) (ho : Own w base 36 v m) (hn : ((m.map (·.td)).map (·.n)).Nodup) (hl : m.length ≤ 4096) :
    Calls Try.prog 17 #[v, .func (.func 18) #[] #[]] w (SortedT w base v m) := by
  have eg : ∀ args w, (callFunc 18 args).run Try.prog w = .ok (.enter 18 args) w := enters_of Try.func18 (by kernel_rfl) rfl
  by_cases h0 : m = []
  · subst h0
    obtain ⟨a, c, rfl⟩ := ho.slice
    refine (AnyF.slices_SortFunc_none sortT a c (.func (.func 18) #[] #[]) w).mono ?_
    rintro e w' ⟨rfl, rfl⟩
    exact ⟨rfl, [], ho, rfl, List.Perm.refl _, ⟨rfl, rfl, rfl, Nat.le_refl _, fun _ _ _ => rfl⟩⟩
  · have hp : 0 < m.length := List.length_pos_iff.2 h0
    obtain ⟨g, cap, rfl, hbg, hgl, -, -⟩ := ho.form hp
    have hcon := AnyQ.slices_SortFunc sortT 9 Try.isAgg36 Try.sizeOf36 tdE (fun _ => rfl) tdE_one (fun x y : TdM => inO x.td y.td) swo_inO 18 #[] g 0 cap m.toArray w eg (cmpLays_inO g 0 m.toArray.size w) (Own.holdsK ho) hgl (by rw [List.size_toArray]; omega)
    rw [List.size_toArray] at hcon
    refine Calls.mono hcon ?_
    rintro e w' ⟨rfl, d', n, os, hpm, hso, rfl⟩
    refine ⟨rfl, d'.toList, ?_⟩
    have hsz : d'.toList.length = m.length := by have := hpm.1; simpa using this
    have hper : d'.toList.Perm m := by
      have h2 := hpm.2.2
      rw [show m.length = d'.size by simpa using hsz.symm] at h2
      have h3 : d'.toList.Perm (List.take d'.size m) := by simpa [hsz] using h2
      have h4 : d'.size = m.length := by simpa using hsz
      rwa [List.take_of_length_le (by omega)] at h3
    obtain ⟨h1, h2⟩ := Own.sorted (n := n) (os := os) (m := d'.toList) ho hsz
    rw [Array.toArray_toList] at h1 h2
    rw [hsz] at h1
    refine ⟨h1, ?_, hper, h2⟩
    refine srt_uniq hn (hper.map _) (fun i j hi hj => ?_)
    rw [List.length_map] at hj
    have hs := hso i j (Nat.zero_le _) hi (by omega)
    rw [ltOf_inO] at hs
    have e1 : d'[j]! = d'.toList[j] := by rw [getElem!_pos d' j (by simpa using hj)]; simp
    have e2 : d'[i]! = d'.toList[i] := by rw [getElem!_pos d' i (by simp at hj; omega)]; simp
    rw [e1, e2] at hs
    simpa using hs
end Bo
end Go.Proofs.Ythbmnkeigmbbdaa
