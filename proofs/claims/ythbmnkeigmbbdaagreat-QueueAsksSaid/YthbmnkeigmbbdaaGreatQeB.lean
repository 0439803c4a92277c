/-
  Merged: QeSort, QeOrd, QeLay, QeSrt.
-/
import Derived.Test.YthbmnkeigmbbdaaGreatRowG
import Derived.Shelf.GgSortFunc.InsertionK
import Derived.Test.YthbmnkeigmbbdaaGreatQeA
import Derived.Test.YthbmnkeigmbbdaaGreatRgA
import Derived.Test.YthbmnkeigmbbdaaGreatBgC
import Derived.Test.YthbmnkeigmbbdaaGreatChecked
import Derived.Shelf.SlLaysF0
import Derived.Shelf.SlSortCmp.WholeK
import Derived.Shelf.SlSortCmp.NoneTotal
/-
  A ROW OF STRUCTS THAT THE CALL HAS BUILT, SORTED BY THE LIBRARY: the same slice owns the sorted list.
-/
namespace Go.Proofs.YthbmnkeigmbbdaaGreat
open Go.RowKit Go.Lib Go.Sort
namespace Rw
set_option linter.unusedVariables false
theorem holdsV {w : World} {g : Nat} {cur : Array Value} {e : TypeId} {xs : List Value} (hb : w.heap[g]? = some (.cells cur e (0, 0))) (ht : cur.toList.take xs.length = xs) : Holds id w g 0 xs.toArray := by
  intro j hj
  have hj' : j < xs.length := by simpa using hj
  refine ⟨?_, by simp [World.frozen?, hb]⟩
  have h1 : (cur.toList.take xs.length)[j]? = xs[j]? := by rw [ht]
  rw [List.getElem?_take_of_lt hj'] at h1
  simp only [World.cell?, hb, Nat.zero_add]
  simp only [Option.isSome_none, Bool.false_eq_true, if_false]
  rw [← Array.getElem?_toList, h1]
  simp [hj']
theorem heap_sortedV {w : World} {g n : Nat} {os : Array Obj} {cur : Array Value} {e : TypeId} {fr : Nat × Nat} (d : Array Value) (hb : w.heap[g]? = some (.cells cur e fr)) :
    (grow (putRow id (Sort.ahead w n) g 0 d) os).heap[g]? = some (.cells (putCells id 0 d cur) e fr) := by
  have hg : g < w.heap.size := (Array.getElem?_eq_some_iff.1 hb).1
  rw [heap_grow_old _ _ (by simpa using hg)]
  simp [putRow, mapBlock, Sort.ahead, Array.getElem?_modify, hb, onCells]
theorem grown_sortedV {w : World} {g n : Nat} {os : Array Obj} (d : Array Value) : w.grownBy (grow (putRow id (Sort.ahead w n) g 0 d) os) (some g) := by
  refine ⟨rfl, rfl, rfl, by simp, fun k hk hne => ?_⟩
  rw [heap_grow_old _ _ (by simpa using hk)]
  have : g ≠ k := fun e => hne (by rw [e])
  simp [putRow, mapBlock, Sort.ahead, Array.getElem?_modify, this]
theorem take_putCellsV (cur : Array Value) (ts : List Value) (h : ts.length ≤ cur.size) : (putCells id 0 ts.toArray cur).toList.take ts.length = ts := by
  apply List.ext_getElem?
  intro j
  by_cases hj : j < ts.length
  · rw [List.getElem?_take_of_lt hj, Array.getElem?_toList]
    simp [putCells, hj, show j < cur.size by omega]
  · rw [List.getElem?_take_eq_none (by omega), List.getElem?_eq_none (by omega)]
section
variable {α : Type} [F : Flat α] [Inhabited α]
theorem flatK_flat (l : List α) : flatK F.enc F.k l.toArray = (flat l).toArray := by
  apply ext_get!
  · simp [flat_len]
  · intro t ht
    have ht' : t < l.length * F.k := by simpa using ht
    rw [get_flatK _ _ _ t (by simpa using ht')]
    have hk := F.kp
    have hd : t / F.k < l.length := (Nat.div_lt_iff_lt_mul hk).2 ht'
    have hm : t % F.k < F.k := Nat.mod_lt _ hk
    have e : t / F.k * F.k + t % F.k = t := by rw [Nat.mul_comm]; exact Nat.div_add_mod t F.k
    have hf := flat_at l (t / F.k) hd (t % F.k) hm
    rw [e] at hf
    have h1 : t < (flat l).length := by rw [flat_len]; exact ht'
    rw [getElem!_pos (flat l).toArray t (by simpa using h1)]
    have h2 : (l.toArray)[t / F.k]! = l[t / F.k] := by rw [getElem!_pos l.toArray _ (by simpa using hd)]; simp
    rw [h2]
    have h3 : t % F.k < (F.enc l[t / F.k]).length := by rw [F.len]; exact hm
    rw [getElem!_pos (F.enc l[t / F.k]) _ h3]
    rw [List.getElem?_eq_getElem h1, List.getElem?_eq_getElem h3] at hf
    simpa using (Option.some.inj hf).symm
/-- What the sort asks of the row. -/
theorem Own.holdsK {w : World} {base g cap : Nat} {e : TypeId} {l : List α} (h : Own w base e (.slice (some ⟨g, 0, none⟩) l.length cap) l) : HoldsK F.enc F.k w g 0 l.toArray := by
  rcases h.2 with ⟨h1, -⟩ | ⟨g', cap', cur, he, -, hg, -, -, -, ht⟩
  · cases h1
  · simp only [Value.slice.injEq, Option.some.injEq, Addr.mk.injEq] at he
    obtain ⟨⟨rfl, -⟩, -⟩ := he
    unfold HoldsK
    rw [flatK_flat]
    exact holdsV hg (by rw [flat_len]; exact ht)
/-- Behind the sort the same slice owns the sorted list. -/
theorem Own.sorted {w : World} {base g cap n : Nat} {e : TypeId} {os : Array Obj} {l m : List α} (h : Own w base e (.slice (some ⟨g, 0, none⟩) l.length cap) l) (hl : m.length = l.length) :
    Own (sortWorldK F.enc F.k w g 0 n m.toArray os) base e (.slice (some ⟨g, 0, none⟩) m.length cap) m ∧ w.grownBy (sortWorldK F.enc F.k w g 0 n m.toArray os) (some g) := by
  unfold sortWorldK putRowK
  rw [flatK_flat]
  refine ⟨⟨by rw [flat_len], ?_⟩, grown_sortedV _⟩
  rcases h.2 with ⟨h1, -⟩ | ⟨g', cap', cur, he, hb, hg, h1, h2, h3, ht⟩
  · cases h1
  · simp only [Value.slice.injEq, Option.some.injEq, Addr.mk.injEq] at he
    obtain ⟨⟨rfl, -⟩, -, rfl⟩ := he
    refine .inr ⟨g, cap, _, rfl, hb, heap_sortedV _ hg, by omega, h2, by simp [putCells, h3], ?_⟩
    rw [← flat_len]
    refine take_putCellsV cur (flat m) ?_
    rw [flat_len, h3, hl]
    exact Nat.mul_le_mul_right _ h1
end
end Rw
end Go.Proofs.YthbmnkeigmbbdaaGreat

/-
  HOW TWO TASKS WAIT: cmp.Compare of whole numbers, queue.inOrder; who is on a node: queue.isOn.
-/
namespace Go.Proofs.YthbmnkeigmbbdaaGreat
open Go.RowKit Go.Lib Go.Sort
namespace Bo
open Rw
set_option linter.unusedVariables false
instance : Inhabited TdM := ⟨⟨Hd.td0, none, 0, none, 0⟩⟩
set_option maxHeartbeats 400000 in
theorem nanI_any (x : Int) (w : World) : Calls Tryz.prog 148 #[.int .i64 x] w fun e w' => e = .returned (.bool false) ∧ w = w' := by
  go_enter Tryz.func148, Tryz.ntmps148
  go_wp2
  go_ret
  exact ⟨by simp, rfl⟩
set_option maxHeartbeats 400000 in
theorem cmpI_any (x y : Int) (w : World) : Calls Tryz.prog 80 #[.int .i64 x, .int .i64 y] w fun e w' => e = .returned (.int .i64 (ciI x y)) ∧ w = w' := by
  unfold ciI
  by_cases h1 : x < y
  · rw [if_pos h1]
    go_enter Tryz.func80, Tryz.ntmps80
    go_wp2_with (go_at_call 148; refine (nanI_any _ _).mono ?_; rintro e w' ⟨rfl, rfl⟩)
    go_ret
    exact ⟨rfl, rfl⟩
  · rw [if_neg h1]
    by_cases h2 : y < x
    · rw [if_pos h2]
      go_enter Tryz.func80, Tryz.ntmps80
      go_wp2_with (go_at_call 148; refine (nanI_any _ _).mono ?_; rintro e w' ⟨rfl, rfl⟩)
      go_ret
      exact ⟨rfl, rfl⟩
    · rw [if_neg h2]
      go_enter Tryz.func80, Tryz.ntmps80
      go_wp2_with (go_at_call 148; refine (nanI_any _ _).mono ?_; rintro e w' ⟨rfl, rfl⟩)
      go_ret
      exact ⟨rfl, rfl⟩
theorem grow3 (w : World) (a b c : Obj) : (((w.alloc a).alloc b).drew).alloc c = grow (w.drewN 1) #[a, b, c] := by
  show _ = _
  rw [alloc_eq_grow, alloc_eq_grow, alloc_eq_grow, grow_grow]
  show grow (grow w.drew _) _ = _
  rw [grow_grow]
  rfl
set_option maxRecDepth 100000 in
set_option maxHeartbeats 2000000 in
/-- queue.inOrder: two boxes, a draw, a row of two. -/
theorem inO_any (x y : TdM) (w : World) : Calls Tryz.prog 38 #[.agg (tdE x).toArray, .agg (tdE y).toArray] w fun e w' => e = .returned (.int .i64 (inO x.td y.td)) ∧ ∃ q os', w' = grow (w.drewN q) os' := by
  obtain ⟨⟨xn, x0, x1, x2, xw, xb, xg, xa, xr⟩, xa4, xc4, xa5, xc5⟩ := x
  obtain ⟨⟨yn, y0, y1, y2, yw, yb, yg, ya, yr⟩, ya4, yc4, ya5, yc5⟩ := y
  show Calls Tryz.prog 38 #[.agg #[.string xn, .int .i64 x0, .int .i64 x1, .int .i64 x2, .slice xa4 xw.length xc4, .slice xa5 xb.length xc5, .string xg, .string xa, .int .i64 xr], .agg #[.string yn, .int .i64 y0, .int .i64 y1, .int .i64 y2, .slice ya4 yw.length yc4, .slice ya5 yb.length yc5, .string yg, .string ya, .int .i64 yr]] w _
  have HN : Hid (inO ⟨xn, x0, x1, x2, xw, xb, xg, xa, xr⟩ ⟨yn, y0, y1, y2, yw, yb, yg, ya, yr⟩ = Rg.orI (ciI yr xr) (Rg.cmpS xn yn)) := rfl
  have H1 := Lib.hid (fun w => cmpI_any yr xr w)
  have H2 := Lib.hid (fun w => Rg.cmp_any xn yn w)
  generalize ciI yr xr = r1 at *
  generalize Rg.cmpS xn yn = r2 at *
  generalize xw.length = n1 at *
  generalize xb.length = n2 at *
  generalize yw.length = n3 at *
  generalize yb.length = n4 at *
  go_enter Tryz.func38, Tryz.ntmps38
  go_wp2
  refine wp_region_still_tail 10 (by kernel_rfl) (by kernel_rfl) ?_
  simp only [List.take_succ_cons, List.take_zero, List.drop_succ_cons, List.drop_zero]
  change wpStill _ _ (World.drew ((w.alloc _).alloc _)) _ _ _
  still_step
  still_step
  still_step
  still_step
  still_call ((H1.out _).mono fun e w'' ⟨h, k⟩ => ⟨h, k.symm⟩)
  still_step
  still_step
  still_step
  still_step
  still_call ((H2.out _).mono fun e w'' ⟨h, k⟩ => ⟨h, k.symm⟩)
  refine wpStill_nil ?_
  change wpList _ _ _ _ _ (World.drew ((w.alloc _).alloc _))
  go_wp2_with fail
  refine (Rg.or_any r1 r2 (w.heap.size + 1 + 1) _ ?_ ?_).mono ?_
  · simp [go_sem]
  · simp [go_sem]
  rintro e w' ⟨rfl, rfl⟩
  go_wp2
  go_ret
  exact ⟨by rw [HN.out]; rfl, 1, _, grow3 w _ _ _⟩
set_option maxHeartbeats 1000000 in
/-- queue.isOn's own function: whether a bind is of this task; the task's name lies in a box. -/
theorem isOn1 (k : ByteArray) (g : Nat) (x : Rg.Pr) (w z : World) (hg : w.cell? ⟨g, 0, none⟩ = some (.string k)) (hz : Below w.heap.size w z) :
    Calls Tryz.prog 88 #[.agg #[.string x.k, .string x.v], .pointer (some ⟨g, 0, none⟩)] z fun e z' => e = .returned (.bool (decide (x.k = k))) ∧ Below z.heap.size z z' := by
  have hgl := World.block_lt_of_cell? w _ hg
  have h1 : (z.alloc (.cells #[.string x.k, .string x.v] 106)).cell? ⟨g, 0, none⟩ = some (.string k) := cell_old _ ((hz.cell (by exact hgl)).trans hg)
  have HE : Hid (decide (x.k = k) = (x.k.toList == k.toList)) := by
    show _ = _
    rw [Bool.eq_iff_iff, decide_eq_true_eq, beq_iff_eq]
    exact ⟨fun e => by rw [e], fun e => Hd.ba_ext e⟩
  have HB := Lib.hid (al z (.cells #[.string x.k, .string x.v] 106))
  clear hg hz hgl
  go_enter Tryz.func88, Tryz.ntmps88
  go_wp2
  go_ret
  exact ⟨by rw [HE.out]; rfl, HB.out⟩
set_option maxRecDepth 100000 in
set_option maxHeartbeats 2000000 in
theorem isOn_any (b : Bk) (vn vt vb : Value) (k : ByteArray) (w : World) (hB : Books w w.heap.size vn vt vb b) :
    Calls Tryz.prog 47 #[.agg #[vn, vt, vb, .int .u64 (b.fe : Nat)], .string k] w fun e w' => e = .returned (.bool (hasK (b.bs.map (·.k)) k)) ∧ Below w.heap.size w w' := by
  have hE : ∀ args z, (callFunc 88 args).run Tryz.prog z = .ok (.enter 88 args) z := enters_of Tryz.func88 (by kernel_rfl) rfl
  obtain ⟨W0, hW0⟩ : ∃ W0, W0 = (w.alloc (.cells #[vn, vt, vb, .int .u64 (b.fe : Nat)] 27)).alloc (.cells #[.string k] 9) := ⟨_, rfl⟩
  have hb0 : Below w.heap.size w W0 := by rw [hW0]; exact (al w _).trans ((al _ _).mono (by simp))
  have hk : W0.cell? ⟨w.heap.size + 1, 0, none⟩ = some (.string k) := by
    rw [hW0]
    have := cell_new (w.alloc (.cells #[vn, vt, vb, .int .u64 (b.fe : Nat)] 27)) (.string k) 9
    rw [World.size_alloc] at this
    exact this
  have hx0 : Hd.Bxn W0 w.heap.size [vn, vt, vb, .int .u64 (b.fe : Nat)] := by rw [hW0]; exact (Hd.Bxn.made w _ _).below (al _ _)
  have HC : Hid (Calls Tryz.prog 87 #[vb, .func (.func 88) #[] #[.pointer (some ⟨w.heap.size + 1, 0, none⟩)]] W0 fun e w' => e = .returned (.bool (hasK (b.bs.map (·.k)) k)) ∧ Below W0.heap.size W0 w') := by
    refine (contains_b 88 hE (.pointer (some ⟨w.heap.size + 1, 0, none⟩)) (fun x => decide (x.k = k)) vb b.bs W0 (hB.on hb0).hb.1 (fun x _ z hz => isOn1 k _ x W0 z hk hz)).mono ?_
    rintro e w' ⟨he, hb⟩
    refine ⟨?_, hb⟩
    rw [he]
    unfold hasK
    rw [List.any_map]
    rfl
  obtain ⟨an, cn, hvn⟩ := hB.hn.slice
  obtain ⟨at', ct, hvt⟩ := hB.ht.slice
  obtain ⟨ab, cb, hvb⟩ := hB.hb.slice
  subst hvn hvt hvb
  have HB0 := Lib.hid hb0
  have HX0 := Lib.hid hx0
  have HW := Lib.hid hW0
  generalize hasK (b.bs.map (·.k)) k = r at *
  clear hW0 hb0 hx0 hB hk
  go_enter Tryz.func47, Tryz.ntmps47
  go_upto_region 1 with fail
  rw [← HW.out]
  have b2 : W0.cell? ⟨w.heap.size, 2, none⟩ = some (.slice ab b.bs.length cb) := HX0.out.cell 2
  go_wp2_with fail
  refine HC.out.mono ?_
  rintro e w1 ⟨rfl, hb⟩
  have H1 : Hid (Below w.heap.size w w1) := HB0.out.trans (hb.mono HB0.out.size)
  clear hb b2
  go_wp2
  go_ret
  exact ⟨rfl, H1.out⟩
end Bo
end Go.Proofs.YthbmnkeigmbbdaaGreat

/-
  slices.SortFunc of tasks: the library's own text, laid.
-/
namespace Go.Proofs.YthbmnkeigmbbdaaGreat
open Go.Shelf
namespace Bo
def sortT_ren : Go.Shelf.Ren := ⟨fun | 6 => 37 | 15 => 78 | 14 => 77 | 28 => 146 | 29 => 147 | 20 => 138 | 21 => 139 | 22 => 140 | 23 => 141 | 24 => 142 | 25 => 143 | 26 => 144 | 27 => 145 | 46 => 192 | 47 => 193 | 48 => 194 | 49 => 195 | 50 => 196 | 57 => 215 | n => n, fun | 22 => 23 | 24 => 42 | 25 => 81 | 3 => 3 | 39 => 126 | 0 => 0 | 53 => 185 | 55 => 25 | 4 => 4 | 46 => 179 | 45 => 178 | 50 => 117 | 5 => 5 | 9 => 9 | 66 => 217 | 70 => 221 | 76 => 234 | 77 => 235 | n => n, fun | n => n⟩
theorem sortT : Go.Proofs.SlLaysF0.n6 Tryz.prog sortT_ren := {
  mixed := by kernel_rfl,
  f6 := ⟨Tryz.f37.name, by decide, Tryz.func37.trans (congrArg some (by kernel_rfl))⟩,
  f14 := ⟨Tryz.f77.name, by decide, Tryz.func77.trans (congrArg some (by kernel_rfl))⟩,
  f15 := Tryz.func78.trans (congrArg some (by kernel_rfl)),
  f20 := ⟨Tryz.f138.name, by decide, Tryz.func138.trans (congrArg some (by kernel_rfl))⟩,
  f21 := ⟨Tryz.f139.name, by decide, Tryz.func139.trans (congrArg some (by kernel_rfl))⟩,
  f22 := ⟨Tryz.f140.name, by decide, Tryz.func140.trans (congrArg some (by kernel_rfl))⟩,
  f23 := ⟨Tryz.f141.name, by decide, Tryz.func141.trans (congrArg some (by kernel_rfl))⟩,
  f24 := ⟨Tryz.f142.name, by decide, Tryz.func142.trans (congrArg some (by kernel_rfl))⟩,
  f25 := ⟨Tryz.f143.name, by decide, Tryz.func143.trans (congrArg some (by kernel_rfl))⟩,
  f26 := ⟨Tryz.f144.name, by decide, Tryz.func144.trans (congrArg some (by kernel_rfl))⟩,
  f27 := ⟨Tryz.f145.name, by decide, Tryz.func145.trans (congrArg some (by kernel_rfl))⟩,
  f28 := Tryz.func146.trans (congrArg some (by kernel_rfl)),
  f29 := Tryz.func147.trans (congrArg some (by kernel_rfl)),
  f46 := ⟨Tryz.f192.name, by decide, Tryz.func192.trans (congrArg some (by kernel_rfl))⟩,
  f47 := Tryz.func193.trans (congrArg some (by kernel_rfl)),
  f48 := Tryz.func194.trans (congrArg some (by kernel_rfl)),
  f49 := ⟨Tryz.f195.name, by decide, Tryz.func195.trans (congrArg some (by kernel_rfl))⟩,
  f50 := ⟨Tryz.f196.name, by decide, Tryz.func196.trans (congrArg some (by kernel_rfl))⟩,
  f57 := ⟨Tryz.f215.name, by decide, Tryz.func215.trans (congrArg some (by kernel_rfl))⟩,
  t0 := Tryz.underlying0,
  a0 := Tryz.isAgg0,
  z0 := Tryz.sizeOf0,
  v0 := Tryz.zeroValue0,
  t3 := Tryz.underlying3,
  a3 := Tryz.isAgg3,
  z3 := Tryz.sizeOf3,
  v3 := Tryz.zeroValue3,
  t4 := Tryz.underlying4,
  a4 := Tryz.isAgg4,
  z4 := Tryz.sizeOf4,
  v4 := Tryz.zeroValue4,
  t5 := Tryz.underlying5,
  a5 := Tryz.isAgg5,
  z5 := Tryz.sizeOf5,
  v5 := Tryz.zeroValue5,
  t9 := Tryz.underlying9,
  a9 := Tryz.isAgg9,
  z9 := Tryz.sizeOf9,
  v9 := Tryz.zeroValue9,
  t22 := Tryz.underlying23,
  a22 := Tryz.isAgg23,
  z22 := Tryz.sizeOf23,
  v22 := Tryz.zeroValue23,
  t25 := Tryz.underlying81,
  a25 := Tryz.isAgg81,
  z25 := Tryz.sizeOf81,
  v25 := Tryz.zeroValue81,
  t39 := Tryz.underlying126,
  a39 := Tryz.isAgg126,
  z39 := Tryz.sizeOf126,
  v39 := Tryz.zeroValue126,
  t45 := Tryz.underlying178,
  a45 := Tryz.isAgg178,
  z45 := Tryz.sizeOf178,
  v45 := Tryz.zeroValue178,
  t46 := Tryz.underlying179,
  a46 := Tryz.isAgg179,
  z46 := Tryz.sizeOf179,
  v46 := Tryz.zeroValue179,
  t50 := Tryz.underlying117,
  a50 := Tryz.isAgg117,
  z50 := Tryz.sizeOf117,
  v50 := Tryz.zeroValue117,
  t53 := Tryz.underlying185,
  a53 := Tryz.isAgg185,
  z53 := Tryz.sizeOf185,
  v53 := Tryz.zeroValue185,
  t55 := Tryz.underlying25,
  a55 := Tryz.isAgg25,
  z55 := Tryz.sizeOf25,
  v55 := Tryz.zeroValue25,
  t66 := Tryz.underlying217,
  a66 := Tryz.isAgg217,
  z66 := Tryz.sizeOf217,
  v66 := Tryz.zeroValue217,
  t70 := Tryz.underlying221,
  a70 := Tryz.isAgg221,
  z70 := Tryz.sizeOf221,
  v70 := Tryz.zeroValue221,
  t76 := Tryz.underlying234,
  a76 := Tryz.isAgg234,
  z76 := Tryz.sizeOf234,
  v76 := Tryz.zeroValue234,
  t77 := Tryz.underlying235,
  a77 := Tryz.isAgg235,
  z77 := Tryz.sizeOf235,
  v77 := Tryz.zeroValue235 }

end Bo
end Go.Proofs.YthbmnkeigmbbdaaGreat

/-
  slices.SortFunc of tasks by queue.inOrder: a row of one's own, sorted.
-/
namespace Go.Proofs.YthbmnkeigmbbdaaGreat
open Go.Shelf Go.RowKit Go.Lib Go.Sort
namespace Bo
open Rw
set_option linter.unusedVariables false
theorem cmpLays_inO (blk off size : Nat) (w : World) : CmpLays Tryz.prog 38 #[] tdE 9 (fun x y : TdM => inO x.td y.td) blk off size w := fun _ _ _ _ x y => inO_any x y _
theorem ltOf_inO (x y : TdM) : ltOf (fun x y : TdM => inO x.td y.td) x y = ahB x.td y.td := inO_lt x.td y.td
theorem swo_inO : SWO (ltOf fun x y : TdM => inO x.td y.td) where
  irrefl x := by rw [ltOf_inO]; exact ah_irr _
  trans x y z h1 h2 := by rw [ltOf_inO] at *; exact ah_trans h1 h2
  ntrans x y z h1 h2 := by rw [ltOf_inO] at *; exact ah_ntrans h1 h2
/-- What the sort leaves. -/
def SortedT (w : World) (base : Nat) (v : Value) (m : List TdM) (e : Ending) (w' : World) : Prop := e = .returned (.tuple #[]) ∧ ∃ m', Own w' base 42 v m' ∧ m'.map (·.td) = srtT (m.map (·.td)) ∧ m'.Perm m ∧ w.grownBy w' v.ownBlock
theorem sort_own (v : Value) (m : List TdM) (base : Nat) (w : World) (ho : Own w base 42 v m) (hn : ((m.map (·.td)).map (·.n)).Nodup) (hl : m.length ≤ 4096) :
    Calls Tryz.prog 37 #[v, .func (.func 38) #[] #[]] w (SortedT w base v m) := by
  have eg : ∀ args w, (callFunc 38 args).run Tryz.prog w = .ok (.enter 38 args) w := enters_of Tryz.func38 (by kernel_rfl) rfl
  by_cases h0 : m = []
  · subst h0
    obtain ⟨a, c, rfl⟩ := ho.slice
    refine (AnyF.slices_SortFunc_none sortT a c (.func (.func 38) #[] #[]) w).mono ?_
    rintro e w' ⟨rfl, rfl⟩
    exact ⟨rfl, [], ho, rfl, List.Perm.refl _, ⟨rfl, rfl, rfl, Nat.le_refl _, fun _ _ _ => rfl⟩⟩
  · have hp : 0 < m.length := List.length_pos_iff.2 h0
    obtain ⟨g, cap, rfl, hbg, hgl, -, -⟩ := ho.form hp
    have hcon := AnyQ.slices_SortFunc sortT 9 Tryz.isAgg42 Tryz.sizeOf42 tdE (fun _ => rfl) tdE_one (fun x y : TdM => inO x.td y.td) swo_inO 38 #[] g 0 cap m.toArray w eg (cmpLays_inO g 0 m.toArray.size w) (Own.holdsK ho) hgl (by rw [List.size_toArray]; omega)
    rw [List.size_toArray] at hcon
    refine Calls.mono hcon ?_
    rintro e w' ⟨rfl, d', n, os, hpm, hso, rfl⟩
    refine ⟨rfl, d'.toList, ?_⟩
    have hsz : d'.toList.length = m.length := by have := hpm.1; simpa using this
    have hper : d'.toList.Perm m := by
      have h2 := hpm.2.2
      rw [show m.length = d'.size by simpa using hsz.symm] at h2
      have h3 : d'.toList.Perm (List.take d'.size m) := by simpa [hsz] using h2
      have h4 : d'.size = m.length := by simpa using hsz
      rwa [List.take_of_length_le (by omega)] at h3
    obtain ⟨h1, h2⟩ := Own.sorted (n := n) (os := os) (m := d'.toList) ho hsz
    rw [Array.toArray_toList] at h1 h2
    rw [hsz] at h1
    refine ⟨h1, ?_, hper, h2⟩
    refine srt_uniq hn (hper.map _) (fun i j hi hj => ?_)
    rw [List.length_map] at hj
    have hs := hso i j (Nat.zero_le _) hi (by omega)
    rw [ltOf_inO] at hs
    have e1 : d'[j]! = d'.toList[j] := by rw [getElem!_pos d' j (by simpa using hj)]; simp
    have e2 : d'[i]! = d'.toList[i] := by rw [getElem!_pos d' i (by simp at hj; omega)]; simp
    rw [e1, e2] at hs
    simpa using hs
end Bo
end Go.Proofs.YthbmnkeigmbbdaaGreat
