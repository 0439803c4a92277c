/-
  WHAT IS TAKEN OUT OF LOADS: slices.DeleteFunc.
-/
import Derived.Test.YthbmnkeigmbbdaaGreatScIdx
import Derived.Test.YthbmnkeigmbbdaaGreatBoOwn
namespace Go.Proofs.YthbmnkeigmbbdaaGreat
open Go.RowKit Go.Lib
namespace Bo
open Rw
set_option linter.unusedVariables false
theorem run_clear_n {P : Program} (w : World) (t ty elem : TypeId) (z : Value) (k g o n c : Nat) (cur : List Value) (te : TypeId)
    (hu : P.underlying t = some (.slice elem)) (hz : (zeroValue elem).run P w = .ok z w) (hk : z.cells.size = k) (h1 : ∀ v ∈ z.cells.toList, v.oneCell' = true)
    (hg : w.heap[g]? = some (.cells cur.toArray te (0, 0))) (hn : 0 < n) (hfit : o + n * k ≤ cur.length) :
    ∃ zs : List Value, zs.length = n * k ∧ (Builtin.clear_ #[t] ty #[.slice (some ⟨g, o, none⟩) n c]).run P w = .ok (.tuple #[]) (w.setRow g (splice cur o zs).toArray) := by
  obtain ⟨zs, hzs⟩ : ∃ zs, zs = (Builtin.zeroCells z.cells n).toList := ⟨_, rfl⟩
  have hl : zs.length = n * k := by rw [hzs, ← hk]; simp [Builtin.zeroCells]
  have h2 : ∀ v ∈ zs, v.oneCell' = true := by
    intro v hv
    rw [hzs] at hv
    simp only [Builtin.zeroCells, Array.toList_map, List.mem_map] at hv
    obtain ⟨i, hi, rfl⟩ := hv
    have hi2 : i < n * z.cells.size := by simpa using hi
    have hp : 0 < z.cells.size := by
      rcases Nat.eq_zero_or_pos z.cells.size with h | h
      · rw [h, Nat.mul_zero] at hi2; omega
      · exact h
    have hm : i % z.cells.size < z.cells.size := Nat.mod_lt _ hp
    rw [getElem!_pos z.cells _ hm]
    exact h1 _ (by simp)
  have hst := run_storeCells_at P g o te zs 0 cur.toArray w hg (by simp; omega) h2
  simp only [Nat.add_zero] at hst
  obtain ⟨m, rfl⟩ : ∃ m, n = m + 1 := ⟨n - 1, by omega⟩
  refine ⟨zs, hl, ?_⟩
  simp [Builtin.clear_, run_underlying hu, hz, ← hzs, hst, splice]
theorem zero_l (w : World) : (zeroValue 47).run Tryz.prog w = .ok (.agg #[.string ByteArray.empty, .int .i64 0, .int .i64 0, .int .i64 0, .slice none 0 0, .slice none 0 0, .int .i64 0, .int .i64 0, .int .i64 0]) w := by
  obtain ⟨i0, hi0, hz0, hz1, hz2⟩ := info_parts info_ld
  simp [zeroValue, typeInfo, hi0, hz0]
theorem cleared {w : World} {base g n c i : Nat} {T : TypeId} {l : List LdM} (h : Own w base T (.slice (some ⟨g, 0, none⟩) n c) l) (hi : i ≤ l.length) (zs : List Value) (cur : List Value) (hg : w.heap[g]? = some (.cells cur.toArray T (0, 0))) (hz : zs.length = (l.length - i) * 9) :
    Own (w.setRow g (splice cur (i * 9) zs).toArray) base T (.slice (some ⟨g, 0, none⟩) i c) (l.take i) := by
  rcases h.2 with ⟨h1, _⟩ | ⟨g', cap, cur', hv, hb, hg', h1, h2, h3, h4⟩
  · cases h1
  · simp only [Value.slice.injEq, Option.some.injEq, Addr.mk.injEq, and_true] at hv
    obtain ⟨rfl, rfl, rfl⟩ := hv
    rw [hg] at hg'
    simp only [Option.some.injEq, Obj.cells.injEq, and_true] at hg'
    obtain rfl := hg'
    have h3 : cur.length = c * 9 := h3
    have h4 : cur.take (l.length * 9) = flat l := h4
    have e1 : i * 9 ≤ l.length * 9 := Nat.mul_le_mul_right _ hi
    have e2 : l.length * 9 ≤ c * 9 := Nat.mul_le_mul_right _ h1
    have e3 : (l.length - i) * 9 = l.length * 9 - i * 9 := Nat.sub_mul _ _ _
    have hsl : (splice cur (i * 9) zs).length = c * 9 := by rw [length_splice _ _ _ (by rw [h3, hz]; omega), h3]
    refine ⟨by rw [flat_len, List.length_take, Nat.min_eq_left hi], .inr ⟨g, c, _, by rw [List.length_take, Nat.min_eq_left hi], hb, setRow_heap _ g _ _ _ _ hg, by rw [List.length_take]; omega, h2, by rw [List.size_toArray, hsl]; rfl, ?_⟩⟩
    show ((splice cur (i * 9) zs).toArray.toList).take ((l.take i).length * 9) = flat (l.take i)
    rw [List.length_take, Nat.min_eq_left hi]
    have e4 : (flat l).take (i * 9) = flat (l.take i) := flat_take l i
    rw [← e4, ← h4, List.take_take, Nat.min_eq_left e1]
    show (splice cur (i * 9) zs).take (i * 9) = _
    unfold splice
    rw [List.take_append_of_le_length (by rw [List.length_take, h3]; omega), List.take_take, Nat.min_self]
set_option maxRecDepth 100000 in
set_option maxHeartbeats 4000000 in
theorem deletef_l (fn : FuncId) (hE : ∀ args z, (callFunc fn args).run Tryz.prog z = .ok (.enter fn args) z) (c0 : Value) (f : LdM → Bool) (v : Value) (l : List LdM) (base : Nat) (w : World) (ho : Own w base 47 v l) (h4 : l.length ≤ 4096)
    (hf : ∀ y ∈ l, ∀ z, w.grownBy z v.ownBlock → Calls Tryz.prog fn #[.agg #[.string y.x.nd.n, .int .i64 y.x.nd.z0, .int .i64 y.x.nd.z1, .int .i64 y.x.nd.z2, .slice y.x.a2 y.x.nd.ls.length y.x.c2, .slice y.x.a3 y.x.nd.ts.length y.x.c3, .int .i64 y.u0, .int .i64 y.u1, .int .i64 y.u2], c0] z fun e z' => e = .returned (.bool (f y)) ∧ Below z.heap.size z z') :
    Calls Tryz.prog 105 #[v, .func (.func fn) #[] #[c0]] w fun e w' => ∃ v', e = .returned v' ∧ Own w' base 47 v' (l.filter (fun y => !f y)) ∧ w.grownBy w' v.ownBlock := by
  have gb : ∀ (q : Option Nat) (a b : World), Below a.heap.size a b → a.grownBy b q := fun q a b h => ⟨h.os, h.tape, h.output, h.size, fun k hk _ => h.block k hk⟩
  have gt : ∀ (q : Option Nat) (a b c : World), a.grownBy b q → b.grownBy c q → a.grownBy c q := fun q a b c h k => ⟨k.os.trans h.os, k.tape.trans h.tape, k.output.trans h.output, Nat.le_trans h.size k.size, fun i hi hn => (k.block i (Nat.lt_of_lt_of_le hi h.size) hn).trans (h.block i hi hn)⟩
  have HIX : Hid (Calls Tryz.prog 170 #[v, .func (.func fn) #[] #[c0]] w fun e w' => FirstIs l f e ∧ Below w.heap.size w w') := index_l fn hE c0 f v l w (ho.sl (by omega)) (fun y hy z hz => hf y hy z (gb _ _ _ hz))
  cases hany : l.any f
  · have hfl : l.filter (fun y => !f y) = l := List.filter_eq_self.2 (fun y hy => by
      cases hq : f y
      · rfl
      · have : l.any f = true := List.any_eq_true.2 ⟨y, hy, hq⟩
        rw [hany] at this; cases this)
    rw [hfl]
    have HR : Hid (∀ w', Below w.heap.size w w' → Own w' base 47 v l ∧ w.grownBy w' v.ownBlock) := fun w' hb => ⟨ho.keep hb, gb _ _ _ hb⟩
    have HA := Lib.hid hany
    obtain ⟨a, c, rfl⟩ := ho.slice
    clear hfl hf gb gt ho hany
    go_enter Tryz.func105, Tryz.ntmps105
    go_wp2_with fail
    refine HIX.out.mono ?_
    rintro e w1 ⟨⟨-, rfl⟩ | ⟨k, hk, -, h3, -⟩, hb⟩
    · have HB := Lib.hid (HR.out _ hb)
      clear hb
      go_wp2
      go_ret
      exact ⟨_, rfl, HB.out.1, HB.out.2⟩
    · exfalso
      have h5 := HA.out
      obtain ⟨y, hy, hq⟩ := List.any_eq_true.1 h3
      rw [List.any_eq_true.2 ⟨y, List.mem_of_mem_take hy, hq⟩] at h5
      cases h5
  · have hpos : 0 < l.length := by
      cases l with
      | nil => cases hany
      | cons _ _ => simp
    obtain ⟨g, cap, rfl, hbg, hgl, -, -⟩ := ho.form hpos
    have HF : Hid (∀ y ∈ l, ∀ z, w.grownBy z (some g) → Calls Tryz.prog fn #[.agg #[.string y.x.nd.n, .int .i64 y.x.nd.z0, .int .i64 y.x.nd.z1, .int .i64 y.x.nd.z2, .slice y.x.a2 y.x.nd.ls.length y.x.c2, .slice y.x.a3 y.x.nd.ts.length y.x.c3, .int .i64 y.u0, .int .i64 y.u1, .int .i64 y.u2], c0] z fun e z' => e = .returned (.bool (f y)) ∧ Below z.heap.size z z') := hf
    have HO0 := Lib.hid ho
    have HA := Lib.hid hany
    have HGB := Lib.hid gb
    have HGT := Lib.hid gt
    have HLN := Lib.hid h4
    have HPO := Lib.hid hpos
    have HGL := Lib.hid hgl
    have HCP : Hid (l.length ≤ cap ∧ cap ≤ 9223372036854775807) := by
      rcases ho.2 with ⟨h1, _⟩ | ⟨g', cap', cur', hv, _, _, h1, h2, _⟩
      · cases h1
      · simp only [Value.slice.injEq, Option.some.injEq, Addr.mk.injEq, and_true, true_and] at hv
        obtain ⟨-, rfl⟩ := hv
        exact ⟨h1, by simpa [maxLen] using h2⟩
    have HPT : Hid (∀ (j : Nat) (h : j < l.length), (l.take (j + 1)).filter (fun y => !f y) = (l.take j).filter (fun y => !f y) ++ (if f l[j] = true then [] else [l[j]])) := fun j h => by
      rw [List.take_succ_eq_append_getElem h, List.filter_append]
      cases hq : f l[j]
      · rw [List.filter_cons_of_pos (by simp [hq])]; simp
      · rw [List.filter_cons_of_neg (by simp [hq])]; simp
    clear hf gb gt ho hany hpos h4 hgl
    go_enter Tryz.func105, Tryz.ntmps105
    go_wp2_with fail
    refine HIX.out.mono ?_
    rintro e w1 ⟨⟨h3, -⟩ | ⟨k, hk, h2, h3, rfl⟩, hb⟩
    · exfalso
      have h5 := HA.out
      rw [h3] at h5
      cases h5
    have HG1 : Hid (w.grownBy w1 (some g)) := HGB.out _ _ _ hb
    have HO1 := Lib.hid (HO0.out.keep hb)
    have HK : Hid (k < l.length ∧ (l.take (k + 1)).filter (fun y => !f y) = l.take k) := ⟨hk, by
      have h5 : f l[k] = true := by
        rw [List.take_succ_eq_append_getElem hk, List.any_append, h2] at h3
        simpa using h3
      rw [HPT.out k hk, if_pos h5, List.append_nil]
      refine List.filter_eq_self.2 (fun y hy => ?_)
      cases hq : f y
      · rfl
      · rw [List.any_eq_true.2 ⟨y, hy, hq⟩] at h2; cases h2⟩
    have t0 : ((k : Int) == -1) = false := by simp
    have t0b : ¬ (k : Int) = -1 := by omega
    have t1 : IntKind.i64.wrap ((k : Int) + 1) = ((k + 1 : Nat) : Int) := by rw [IntKind.wrap_i64]; have := HLN.out; omega
    clear h2 h3 hk hb HIX HO0
    go_wp2
    go_loopg [5, 6] (l.length - (k + 1)) (fun gg iv jv wx => ∃ (i j : Nat) (lm : List LdM), j + gg = l.length ∧ iv = .int .i64 i ∧ jv = .int .i64 j ∧ Aside (i < j ∧ lm.length = l.length ∧ lm.take i = (l.take j).filter (fun y => !f y) ∧ lm.drop j = l.drop j) ∧ Aside (Own wx base 47 (.slice (some ⟨g, 0, none⟩) l.length cap) lm) ∧ Aside (w.grownBy wx (some g)))
    case atStart => exact ⟨k, k + 1, l, by have := HK.out.1; omega, rfl, by simp, ⟨by omega, rfl, HK.out.2.symm, rfl⟩, HO1.out, HG1.out⟩
    case round =>
      obtain ⟨i, j, lm, hjg, rfl, rfl, HI, HO, HG⟩ := hrel
      have HIJ := Lib.hid HI.out
      have HOM := Lib.hid HO.out
      have HGM := Lib.hid HG.out
      clear HI HO HG
      cases gk with
      | zero =>
        obtain rfl : j = l.length := by omega
        have hil : i < l.length := HIJ.out.1
        have hmi : lm.take i = l.filter (fun y => !f y) := by have := HIJ.out.2.2.1; rwa [List.take_length] at this
        obtain ⟨cur, hcur⟩ : ∃ cur : List Value, wr.heap[g]? = some (.cells cur.toArray 47 (0, 0)) ∧ cur.length = cap * 9 := by
          rcases HOM.out.2 with ⟨h1, _⟩ | ⟨g', cap', cur', hv, _, hg', _, _, h3, _⟩
          · cases h1
          · simp only [Value.slice.injEq, Option.some.injEq, Addr.mk.injEq, and_true] at hv
            obtain ⟨rfl, -, rfl⟩ := hv
            exact ⟨cur'.toList, by simpa using hg', by rw [Array.length_toList]; exact h3⟩
        have hfit : i * 9 + (l.length - i) * 9 ≤ cur.length := by
          rw [hcur.2, ← Nat.add_mul]
          exact Nat.mul_le_mul_right _ (by have := HCP.out.1; omega)
        obtain ⟨zs, hzl, hclr⟩ := run_clear_n (P := Tryz.prog) wr 31 0 47 _ 9 g (i * 9) (l.length - i) (cap - i) cur 47 Tryz.underlying31 (zero_l wr) rfl (by intro v hv; simp [Value.cells] at hv; rcases hv with rfl | rfl | rfl | rfl <;> rfl) hcur.1 (by omega) hfit
        have HFIN : Hid (Own (wr.setRow g (splice cur (i * 9) zs).toArray) base 47 (.slice (some ⟨g, 0, none⟩) i cap) (l.filter (fun y => !f y)) ∧ w.grownBy (wr.setRow g (splice cur (i * 9) zs).toArray) (some g)) := by
          refine ⟨?_, HGT.out _ _ _ _ HGM.out ⟨rfl, rfl, rfl, by simp [World.setRow], fun q _ hq => setRow_other _ g q _ (fun e => hq (by rw [e]))⟩⟩
          rw [← hmi]
          exact cleared HOM.out (by rw [HIJ.out.2.1]; omega) zs cur hcur.1 (by rw [HIJ.out.2.1]; exact hzl)
        have HC9 := Lib.hid hclr
        have t5 : (i : Int) ≤ (l.length : Int) := by omega
        have t6 : (i : Int) ≤ (cap : Int) := by have := HCP.out.1; omega
        have t7 : (l.length : Int) ≤ (cap : Int) := by have := HCP.out.1; omega
        have t8 : (0 : Int) ≤ (i : Int) := by omega
        have t9 : ¬ l.length = i := by omega
        have t9b : ¬ cap = i := by have := HCP.out.1; omega
        have h7 := HC9.out
        clear hcur hfit hzl hclr hmi hjg hil
        go_wp2
        go_ret
        exact ⟨_, rfl, HFIN.out.1, HFIN.out.2⟩
      | succ gg =>
      have hlj : j < l.length := by omega
      have t2 : (j : Int) < (l.length : Int) := by omega
      have t3 : IntKind.i64.wrap ((j : Int) + 1) = (j : Int) + 1 := by rw [IntKind.wrap_i64]; have := HLN.out; omega
      have t3i : IntKind.i64.wrap ((i : Int) + 1) = (i : Int) + 1 := by rw [IntKind.wrap_i64]; have := HLN.out; have := HIJ.out.1; omega
      have t4 : (0 : Int) ≤ (j : Int) := by omega
      have t4i : (0 : Int) ≤ (i : Int) := by omega
      have t2i : (i : Int) < (l.length : Int) := by have := HIJ.out.1; omega
      have hjm : j < lm.length := by rw [HIJ.out.2.1]; exact hlj
      have hmj : lm[j] = l[j] := by
        have h1 := congrArg (fun q => q[0]?) HIJ.out.2.2.2
        simp only [List.getElem?_drop, Nat.add_zero] at h1
        rw [List.getElem?_eq_getElem hjm, List.getElem?_eq_getElem hlj] at h1
        exact Option.some.inj h1
      obtain ⟨g', cap', hv, -, -, hat, hth⟩ := HOM.out.form (by omega)
      simp only [Value.slice.injEq, Option.some.injEq, Addr.mk.injEq, and_true] at hv
      obtain ⟨rfl, -, rfl⟩ := hv
      have HTH : Hid (wr.there g (i * 9) 9) := hth i (by rw [HIJ.out.2.1]; have := HIJ.out.1; omega)
      obtain ⟨d0, d1, d2, d3, d4, d5, d6, d7, d8⟩ := at_ld (show At wr g (j * 9) l[j] from hmj ▸ hat j hjm)
      have HNP := Lib.hid (HPT.out j hlj)
      have HDJ : Hid (lm.drop (j + 1) = l.drop (j + 1)) := by
        have h1 := congrArg (List.drop 1) HIJ.out.2.2.2
        rwa [List.drop_drop, List.drop_drop] at h1
      have HCF := Lib.hid (HF.out l[j] (List.getElem_mem hlj))
      have HYJ : Hid (lm[j]? = some l[j]) := by show _ = _; rw [List.getElem?_eq_getElem hjm, hmj]
      have HJG := Lib.hid hjg
      have HLJ := Lib.hid hlj
      clear hat hth hmj hjg
      generalize l[j] = y at *
      have e0 : wr.cell? ⟨g, j * 9, none⟩ = some (.string y.x.nd.n) := d0
      have e1 : wr.cell? ⟨g, j * 9 + 1, none⟩ = some (.int .i64 y.x.nd.z0) := d1
      have e2 : wr.cell? ⟨g, j * 9 + 2, none⟩ = some (.int .i64 y.x.nd.z1) := d2
      have e3 : wr.cell? ⟨g, j * 9 + 3, none⟩ = some (.int .i64 y.x.nd.z2) := d3
      have e4 : wr.cell? ⟨g, j * 9 + 4, none⟩ = some (.slice y.x.a2 y.x.nd.ls.length y.x.c2) := d4
      have e5 : wr.cell? ⟨g, j * 9 + 5, none⟩ = some (.slice y.x.a3 y.x.nd.ts.length y.x.c3) := d5
      have e6 : wr.cell? ⟨g, j * 9 + 6, none⟩ = some (.int .i64 y.u0) := d6
      have e7 : wr.cell? ⟨g, j * 9 + 7, none⟩ = some (.int .i64 y.u1) := d7
      have e8 : wr.cell? ⟨g, j * 9 + 8, none⟩ = some (.int .i64 y.u2) := d8
      clear d0 d1 d2 d3 d4 d5 d6 d7 d8 hjm hlj
      have HEN : Hid (Flat.enc y = [.string y.x.nd.n, .int .i64 y.x.nd.z0, .int .i64 y.x.nd.z1, .int .i64 y.x.nd.z2, .slice y.x.a2 y.x.nd.ls.length y.x.c2, .slice y.x.a3 y.x.nd.ts.length y.x.c3, .int .i64 y.u0, .int .i64 y.u1, .int .i64 y.u2]) := rfl
      generalize y.x.nd.ls.length = n1 at *
      generalize y.x.nd.ts.length = n2 at *
      obtain ⟨wy, hwy⟩ : ∃ wy, wy = wr.alloc (.cells #[.string y.x.nd.n, .int .i64 y.x.nd.z0, .int .i64 y.x.nd.z1, .int .i64 y.x.nd.z2, .slice y.x.a2 n1 y.x.c2, .slice y.x.a3 n2 y.x.c3, .int .i64 y.u0, .int .i64 y.u1, .int .i64 y.u2] 47) := ⟨_, rfl⟩
      have HYX : Hid (Hd.Bxn wy wr.heap.size [.string y.x.nd.n, .int .i64 y.x.nd.z0, .int .i64 y.x.nd.z1, .int .i64 y.x.nd.z2, .slice y.x.a2 n1 y.x.c2, .slice y.x.a3 n2 y.x.c3, .int .i64 y.u0, .int .i64 y.u1, .int .i64 y.u2]) := by rw [hwy]; exact Hd.Bxn.made wr _ _
      have HYB : Hid (Below wr.heap.size wr wy) := by rw [hwy]; exact al _ _
      have HWY := Lib.hid hwy
      clear hwy
      go_upto_region 8 with fail
      rw [← HWY.out]
      clear e0 e1 e2 e3 e4 e5 e6 e7 e8 HWY
      have HGY : Hid (w.grownBy wy (some g)) := HGT.out _ _ _ _ HGM.out (HGB.out _ _ _ HYB.out)
      have HOY := Lib.hid (HOM.out.keep HYB.out)
      have HKC := Lib.hid (HCF.out wy HGY.out)
      have q0 : wy.cell? ⟨wr.heap.size, 0, none⟩ = some (.string y.x.nd.n) := HYX.out.cell 0
      have q1 : wy.cell? ⟨wr.heap.size, 1, none⟩ = some (.int .i64 y.x.nd.z0) := HYX.out.cell 1
      have q2 : wy.cell? ⟨wr.heap.size, 2, none⟩ = some (.int .i64 y.x.nd.z1) := HYX.out.cell 2
      have q3 : wy.cell? ⟨wr.heap.size, 3, none⟩ = some (.int .i64 y.x.nd.z2) := HYX.out.cell 3
      have q4 : wy.cell? ⟨wr.heap.size, 4, none⟩ = some (.slice y.x.a2 n1 y.x.c2) := HYX.out.cell 4
      have q5 : wy.cell? ⟨wr.heap.size, 5, none⟩ = some (.slice y.x.a3 n2 y.x.c3) := HYX.out.cell 5
      have q6 : wy.cell? ⟨wr.heap.size, 6, none⟩ = some (.int .i64 y.u0) := HYX.out.cell 6
      have q7 : wy.cell? ⟨wr.heap.size, 7, none⟩ = some (.int .i64 y.u1) := HYX.out.cell 7
      have q8 : wy.cell? ⟨wr.heap.size, 8, none⟩ = some (.int .i64 y.u2) := HYX.out.cell 8
      cases hfy : f y
      · rw [hfy] at HKC HNP
        go_wp2_with fail
        refine HKC.out.mono ?_
        rintro e w2 ⟨rfl, hb2⟩
        have HY2 := Lib.hid (HYX.out.below hb2)
        have HG2 : Hid (w.grownBy w2 (some g)) := HGT.out _ _ _ _ HGY.out (HGB.out _ _ _ hb2)
        have HO2 := Lib.hid (HOY.out.keep hb2)
        have hth2 : w2.there g (i * 9) 9 := by
          obtain ⟨g', cap', hv, -, -, -, hth⟩ := HO2.out.form (by rw [HIJ.out.2.1]; exact HPO.out)
          simp only [Value.slice.injEq, Option.some.injEq, Addr.mk.injEq, and_true] at hv
          obtain ⟨rfl, -, rfl⟩ := hv
          exact hth i (by rw [HIJ.out.2.1]; have := HIJ.out.1; have := HLJ.out; omega)
        clear hb2 hfy q0 q1 q2 q3 q4 q5 q6 q7 q8 HYX HKC
        go_upto_region 9 with fail
        refine wp_region_list ?_
        refine wpList_plain rfl fun K hK => ?_
        go_simp
        refine hK _ _ ?_
        clear hK K
        refine wpList_plain rfl fun K hK => ?_
        go_simp
        refine hK _ _ ?_
        clear hK K
        refine wpList_load_mid rfl 47 (.tmp 7) rfl (wr.heap.size) (0) rfl [.string y.x.nd.n, .int .i64 y.x.nd.z0, .int .i64 y.x.nd.z1, .int .i64 y.x.nd.z2, .slice y.x.a2 n1 y.x.c2, .slice y.x.a3 n2 y.x.c3, .int .i64 y.u0, .int .i64 y.u1, .int .i64 y.u2] _ (HY2.out.range 0) Tryz.underlying47 rfl rfl ?_
        refine wpList_plain rfl fun K hK => ?_
        go_simp
        refine hK _ _ ?_
        clear hK K
        refine wpList_store_mid rfl 47 (.tmp 33) (.tmp 32) rfl g (i * 9) #[.string y.x.nd.n, .int .i64 y.x.nd.z0, .int .i64 y.x.nd.z1, .int .i64 y.x.nd.z2, .slice y.x.a2 n1 y.x.c2, .slice y.x.a3 n2 y.x.c3, .int .i64 y.u0, .int .i64 y.u1, .int .i64 y.u2] rfl rfl hth2 rfl (all_oneCell_toArray (List.all_eq_true.1 (show List.all ([.string y.x.nd.n, .int .i64 y.x.nd.z0, .int .i64 y.x.nd.z1, .int .i64 y.x.nd.z2, .slice y.x.a2 n1 y.x.c2, .slice y.x.a3 n2 y.x.c3, .int .i64 y.u0, .int .i64 y.u1, .int .i64 y.u2] : List Value) (fun v => v.oneCell') = true from rfl))) ?_
        rw [show (#[.string y.x.nd.n, .int .i64 y.x.nd.z0, .int .i64 y.x.nd.z1, .int .i64 y.x.nd.z2, .slice y.x.a2 n1 y.x.c2, .slice y.x.a3 n2 y.x.c3, .int .i64 y.u0, .int .i64 y.u1, .int .i64 y.u2] : Array Value).toList = [.string y.x.nd.n, .int .i64 y.x.nd.z0, .int .i64 y.x.nd.z1, .int .i64 y.x.nd.z2, .slice y.x.a2 n1 y.x.c2, .slice y.x.a3 n2 y.x.c3, .int .i64 y.u0, .int .i64 y.u1, .int .i64 y.u2] from rfl]
        have HO3 : Hid (Own (w2.setCells g (i * 9) [.string y.x.nd.n, .int .i64 y.x.nd.z0, .int .i64 y.x.nd.z1, .int .i64 y.x.nd.z2, .slice y.x.a2 n1 y.x.c2, .slice y.x.a3 n2 y.x.c3, .int .i64 y.u0, .int .i64 y.u1, .int .i64 y.u2]) base 47 (.slice (some ⟨g, 0, none⟩) l.length cap) (lm.set i y)) := by
          have h1 := Own.set HO2.out i (by rw [HIJ.out.2.1]; have := HIJ.out.1; have := HLJ.out; omega) y
          rw [HEN.out] at h1
          exact h1
        have HG3 : Hid (w.grownBy (w2.setCells g (i * 9) [.string y.x.nd.n, .int .i64 y.x.nd.z0, .int .i64 y.x.nd.z1, .int .i64 y.x.nd.z2, .slice y.x.a2 n1 y.x.c2, .slice y.x.a3 n2 y.x.c3, .int .i64 y.u0, .int .i64 y.u1, .int .i64 y.u2]) (some g)) := HGT.out _ _ _ _ HG2.out (grown_setCells _ _ _ _)
        have HLI : Hid (i + 1 < j + 1 ∧ (lm.set i y).length = l.length ∧ (lm.set i y).take (i + 1) = (l.take (j + 1)).filter (fun y => !f y) ∧ (lm.set i y).drop (j + 1) = l.drop (j + 1)) := by
          have h1 := HIJ.out.1
          have h2 := HIJ.out.2.1
          have h3 := HLJ.out
          refine ⟨by omega, by rw [List.length_set, h2], ?_, ?_⟩
          · rw [HNP.out, if_neg (by decide), ← HIJ.out.2.2.1]
            have h4 : i < (lm.set i y).length := by rw [List.length_set, h2]; omega
            rw [List.take_succ_eq_append_getElem h4, List.getElem_set_self, List.take_set_of_le (Nat.le_refl _)]
          · rw [List.drop_set_of_lt (by omega), HDJ.out]
        clear hth2 HO2 HG2 HY2
        generalize w2.setCells g (i * 9) [.string y.x.nd.n, .int .i64 y.x.nd.z0, .int .i64 y.x.nd.z1, .int .i64 y.x.nd.z2, .slice y.x.a2 n1 y.x.c2, .slice y.x.a3 n2 y.x.c3, .int .i64 y.u0, .int .i64 y.u1, .int .i64 y.u2] = w3 at *
        refine wpList_nil ?_
        go_wp2
        go_roundg gg
        case measure => omega
        case rel => exact ⟨i + 1, j + 1, lm.set i y, by have := HJG.out; omega, by simp, by simp, HLI.out, HO3.out, HG3.out⟩
      · rw [hfy] at HKC HNP
        go_wp2_with fail
        refine HKC.out.mono ?_
        rintro e w2 ⟨rfl, hb2⟩
        have HG2 : Hid (w.grownBy w2 (some g)) := HGT.out _ _ _ _ HGY.out (HGB.out _ _ _ hb2)
        have HO2 := Lib.hid (HOY.out.keep hb2)
        have HLI : Hid (i < j + 1 ∧ lm.length = l.length ∧ lm.take i = (l.take (j + 1)).filter (fun y => !f y) ∧ lm.drop (j + 1) = l.drop (j + 1)) := ⟨by have := HIJ.out.1; omega, HIJ.out.2.1, by rw [HNP.out, if_pos trivial, List.append_nil]; exact HIJ.out.2.2.1, HDJ.out⟩
        clear hb2 hfy q0 q1 q2 q3 q4 q5 q6 q7 q8 HYX HKC
        go_wp2
        go_roundg gg
        case measure => omega
        case rel => exact ⟨i, j + 1, lm, by have := HJG.out; omega, rfl, by simp, HLI.out, HO2.out, HG2.out⟩
end Bo
end Go.Proofs.YthbmnkeigmbbdaaGreat
