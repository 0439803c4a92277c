/-
  ARGUMENTS: a disk, and a slice of ints, that came in.
-/
import Derived.Test.YtjgdmdgiicpemaaDisk
import Derived.Test.YtjgdmdgiicpemaaDiskCrash
import Derived.ProofKit
import Derived.SliceStrings
import Derived.SizedLaws
import Derived.Deep.Strs
namespace Go.Proofs.Ytjgdmdgiicpemaa
open Go.RowKit Go.WideShapes Go.ChangeShapes
namespace Dk

theorem spot_none (w : World) (a : Addr) (v : Value) (h : w.cell? a = some v) : a.spot = none := by
  unfold World.cell? at h
  split at h
  · cases hs : a.spot with
    | none => rfl
    | some q => rw [hs] at h; simp at h
  · cases h
theorem add_form (a : Addr) (i : Nat) (h : a.spot = none) : a.add i = ⟨a.block, a.off + i, none⟩ := by
  cases a with
  | mk b o s => subst h; rw [Addr.add_lit]
theorem block_add0 (a : Addr) : a.add 0 = a := by unfold Addr.add; split <;> simp_all
theorem list_of {α : Type} (R : Nat → α → Prop) : ∀ n, (∀ i, i < n → ∃ f, R i f) → ∃ l : List α, l.length = n ∧ ∀ i (h : i < l.length), R i l[i]
  | 0, _ => ⟨[], rfl, fun i h => absurd h (Nat.not_lt_zero _)⟩
  | n + 1, h => by
    obtain ⟨l, hl, hr⟩ := list_of R n (fun i hi => h i (by omega))
    obtain ⟨f, hf⟩ := h n (by omega)
    refine ⟨l ++ [f], by simp [hl], fun i hi => ?_⟩
    by_cases hin : i < l.length
    · rw [List.getElem_append_left hin]; exact hr i hin
    · have : i = n := by simp at hi; omega
      subst this
      rw [List.getElem_append_right (by omega)]
      simpa [hl] using hf

section
variable {H : Type} {enc : TypeId × Value → H} {P : Program} {w : World} {spare : Nat → Bool} {held : Bool}
theorem file_of {e : TypeId} {g0 g1 g2 : Field} {n : Nat} {cs : List Value} {y : DataW H × List MemPlace} (he : P.underlying e = some (.struct #[g0, g1, g2])) (h0 : P.underlying g0.type = some .string) (h1 : P.underlying g1.type = some .string)
    (h2 : P.underlying g2.type = some (.int .i64)) (o0 : g0.offset = 0) (o1 : g1.offset = 1) (o2 : g2.offset = 2) (c0 : P.cellsOf g0.type = 1) (c1 : P.cellsOf g1.type = 1) (c2 : P.cellsOf g2.type = 1)
    (h : DataW.trod enc P w 0 spare held n e cs = some y) (hw : ∀ n ∈ y.1.weights P e, n ≤ reachBytes) : ∃ f : Fl, cs[0]? = some (.string f.nm) ∧ cs[1]? = some (.string f.da) ∧ cs[2]? = some (.int .i64 f.sy) ∧ f.da.size ≤ reachBytes ∧ f.nm.size ≤ reachBytes ∧ -9223372036854775808 ≤ f.sy ∧ f.sy ≤ 9223372036854775807 := by
  obtain ⟨y0, y1, y2, m, rfl, -, t0, t1, t2⟩ := Go.Deep.trod_struct3 he h
  rw [o0, c0] at t0
  rw [o1, c1] at t1
  rw [o2, c2] at t2
  obtain ⟨s0, e0, rfl, z0⟩ := DataW.trod_string h0 t0
  obtain ⟨s1, e1, rfl, z1⟩ := DataW.trod_string h1 t1
  obtain ⟨s2, e2, rfl, z2⟩ := DataW.trod_int h2 t2
  refine ⟨⟨s0, s1, s2⟩, cell_of_cut e0, cell_of_cut e1, cell_of_cut e2, ?_, ?_, bounds_i64 z2⟩
  · refine hw s1.size ?_
    simp [DataW.weights, DataW.weightsEach, he]
  · refine hw s0.size ?_
    simp [DataW.weights, DataW.weightsEach, he]

theorem all_mem {e : TypeId} {y : DataW H} : ∀ {l : List (DataW H)}, y ∈ l → ∀ n ∈ y.weights P e, n ∈ DataW.weightsAll P e l
  | [], h, _, _ => absurd h List.not_mem_nil
  | d :: r, h, n, hn => by
    unfold DataW.weightsAll
    rcases List.mem_cons.1 h with rfl | h
    · exact List.mem_append_left _ hn
    · exact List.mem_append_right _ (all_mem h n hn)
theorem slice_len {t e : TypeId} {a b : List (DataW H)} (ht : P.underlying t = some (.slice e)) (hw : ∀ n ∈ (DataW.slice a b).weights P t, n ≤ reachBytes) : a.length * P.bytesOf e ≤ reachBytes := by
  have := hw ((a.length + b.length) * P.bytesOf e) (by simp [DataW.weights, ht])
  exact Nat.le_trans (Nat.mul_le_mul_right _ (by omega)) this
theorem files_of {t e : TypeId} {g0 g1 g2 : Field} {n : Nat} {cs : List Value} {y : DataW H × List MemPlace} (ht : P.underlying t = some (.slice e)) (hc : P.cellsOf e = 3) (he : P.underlying e = some (.struct #[g0, g1, g2])) (h0 : P.underlying g0.type = some .string) (h1 : P.underlying g1.type = some .string)
    (h2 : P.underlying g2.type = some (.int .i64)) (o0 : g0.offset = 0) (o1 : g1.offset = 1) (o2 : g2.offset = 2) (c0 : P.cellsOf g0.type = 1) (c1 : P.cellsOf g1.type = 1) (c2 : P.cellsOf g2.type = 1)
    (h : DataW.trod enc P w 0 spare held n t cs = some y) (hby : P.bytesOf e = 40) (hw : ∀ n ∈ y.1.weights P t, n ≤ reachBytes) : ∃ v fs, cs = [v] ∧ Files w w.heap.size v fs ∧ (∀ f ∈ fs, f.da.size ≤ reachBytes ∧ f.nm.size ≤ reachBytes) ∧ fs.length * 40 ≤ reachBytes := by
  rcases DataW.trod_slice ht h with ⟨rfl, -⟩ | ⟨a, len, cap, elems, rest, m, -, rfl, rfl, hb, hl, hm, hlen, hel, -, -⟩
  · exact ⟨_, [], rfl, ⟨none, 0, rfl, by simp, by simp, by simp⟩, by simp, by simp⟩
  · have hln := slice_len ht hw
    rw [hby, List.length_map, hlen] at hln
    have hwe : ∀ y ∈ elems, ∀ n ∈ y.1.weights P e, n ≤ reachBytes := by
      intro y hy n hn
      refine hw n ?_
      have := all_mem (List.mem_map_of_mem (f := (·.1)) hy) n hn
      simp only [DataW.weights, ht, List.mem_cons, List.mem_append]
      exact .inr (.inl this)
    have each : ∀ i, i < len → ∃ f : Fl, (w.cell? (a.add (i * 3)) = some (.string f.nm) ∧ w.cell? ((a.add (i * 3)).add 1) = some (.string f.da) ∧ w.cell? ((a.add (i * 3)).add 2) = some (.int .i64 f.sy)) ∧ f.da.size ≤ reachBytes ∧ f.nm.size ≤ reachBytes ∧ -9223372036854775808 ≤ f.sy ∧ f.sy ≤ 9223372036854775807 := by
      intro i hi
      have hy := hel i hi
      rw [List.getElem?_eq_getElem (by omega : i < elems.length), hc, Option.bind_eq_some_iff] at hy
      obtain ⟨cs', hcs, hy'⟩ := hy
      obtain ⟨f, f0, f1, f2, f3⟩ := file_of he h0 h1 h2 o0 o1 o2 c0 c1 c2 hy' (hwe _ (List.getElem_mem _))
      obtain ⟨-, -, hcell⟩ := World.cells?_some hcs
      refine ⟨f, ⟨?_, ?_, ?_⟩, f3⟩
      · have := hcell 0 (by omega)
        rw [f0] at this
        rw [block_add0] at this
        exact this
      · exact (hcell 1 (by omega)).trans f1
      · exact (hcell 2 (by omega)).trans f2
    obtain ⟨fs, hfl, hfs⟩ := list_of _ len each
    refine ⟨_, fs, rfl, ⟨some a, cap, by rw [hfl], by rw [hfl]; simp only [reachBytes] at hln; omega, fun f hf => ?_, fun hp => ?_⟩, fun f hf => ?_, by rw [hfl]; exact hln⟩
    · obtain ⟨i, hi, rfl⟩ := List.getElem_of_mem hf
      have h9 := (hfs i hi).2
      exact ⟨by have := h9.1; simp only [reachBytes] at this; simp only [maxLen]; omega, h9.2.2⟩
    · have hz := (hfs 0 hp).1.1
      have hx := World.block_lt_of_cell? w _ hz
      have hsp : a.spot = none := by
        have := spot_none w _ _ hz
        simpa [Addr.add] using this
      refine ⟨a.block, a.off, by cases a; simp_all, by simpa [Addr.add] using hx, fun i hi => ?_⟩
      obtain ⟨k0, k1, k2⟩ := (hfs i hi).1
      rw [add_form a _ hsp] at k0 k1 k2
      exact ⟨k0, k1, k2⟩
    · obtain ⟨i, hi, rfl⟩ := List.getElem_of_mem hf
      exact ⟨(hfs i hi).2.1, (hfs i hi).2.2.1⟩

theorem disk_of' {t e : TypeId} {f0 f1 f2 g0 g1 g2 : Field} {v : Value} {d : DataW H} {ps : List MemPlace} {base : Nat} (hd : P.underlying t = some (.struct #[f0, f1, f2])) (hd0 : P.underlying f0.type = some (.slice e)) (hd1 : P.underlying f1.type = some .bool)
    (hd2 : P.underlying f2.type = some (.int .i64)) (p0 : f0.offset = 0) (p1 : f1.offset = 1) (p2 : f2.offset = 2) (q0 : P.cellsOf f0.type = 1) (q1 : P.cellsOf f1.type = 1) (q2 : P.cellsOf f2.type = 1) (qt : P.cellsOf t = 3)
    (hc : P.cellsOf e = 3) (he : P.underlying e = some (.struct #[g0, g1, g2])) (h0 : P.underlying g0.type = some .string) (h1 : P.underlying g1.type = some .string)
    (h2 : P.underlying g2.type = some (.int .i64)) (o0 : g0.offset = 0) (o1 : g1.offset = 1) (o2 : g2.offset = 2) (c0 : P.cellsOf g0.type = 1) (c1 : P.cellsOf g1.type = 1) (c2 : P.cellsOf g2.type = 1)
    (ho : Value.okWide P w .any base t v) (hk : DataW.Trod enc P w 0 spare held t v d ps) (hby : P.bytesOf e = 40) (hw : ∀ n ∈ d.weights P t, n ≤ reachBytes) : ∃ sv dn fu fs, v = .agg #[sv, .bool dn, .int .i64 fu] ∧ Files w w.heap.size sv fs ∧ (∀ f ∈ fs, f.da.size ≤ reachBytes ∧ f.nm.size ≤ reachBytes) ∧ fs.length * 40 ≤ reachBytes ∧ -9223372036854775808 ≤ fu ∧ fu ≤ 9223372036854775807 := by
  obtain ⟨cs, rfl, hcs⟩ := okWide_struct hd ho
  obtain ⟨fuel, hf⟩ := hk
  obtain ⟨y0, y1, y2, m, hx, -, u0, u1, u2⟩ := Go.Deep.trod_struct3 hd hf
  cases hx
  rw [p0, q0] at u0
  rw [p1, q1] at u1
  rw [p2, q2] at u2
  obtain ⟨sv, fs, e0, hfs, hnm, hln⟩ := files_of hd0 hc he h0 h1 h2 o0 o1 o2 c0 c1 c2 u0 hby (fun n hn => hw n (by simp only [DataW.weights, hd, DataW.weightsEach, List.map_cons, List.map_nil, List.mem_append]; exact .inl hn))
  obtain ⟨b, e1, -⟩ := DataW.trod_bool hd1 u1
  obtain ⟨z, e2, -, z2⟩ := DataW.trod_int hd2 u2
  have k0 := cell_of_cut e0
  have k1 := cell_of_cut e1
  have k2 := cell_of_cut e2
  refine ⟨sv, b, z, fs, ?_, hfs, hnm, hln, bounds_i64 z2⟩
  rw [qt] at hcs
  simp only [Value.cells] at k0 k1 k2
  rcases cs with ⟨l⟩
  match l, hcs with
  | [x0, x1, x2], _ =>
    simp at k0 k1 k2
    subst k0 k1 k2
    rfl

theorem ints_of' {t e : TypeId} {v : Value} {d : DataW H} {ps : List MemPlace} {base : Nat} (ht : P.underlying t = some (.slice e)) (he : P.underlying e = some (.int .i64)) (hc : P.cellsOf e = 1)
    (ho : Value.okWide P w .any base t v) (hk : DataW.Trod enc P w 0 spare held t v d ps) (hby : P.bytesOf e = 8) (hw : ∀ n ∈ d.weights P t, n ≤ reachBytes) : ∃ ks, Ints w w.heap.size v ks := by
  obtain ⟨a0, len0, cap0, rfl⟩ := okWide_slice ht ho
  obtain ⟨fuel, hf⟩ := hk
  rcases DataW.trod_slice ht hf with ⟨hcs, -⟩ | ⟨a, len, cap, elems, rest, m, -, hcs, hx, hb, hl, hm, hlen, hel, -, -⟩
  · simp [Value.cells] at hcs
    obtain ⟨rfl, rfl, rfl⟩ := hcs
    exact ⟨[], none, 0, rfl, by simp, by simp, by simp⟩
  · simp [Value.cells] at hcs
    obtain ⟨rfl, rfl, rfl⟩ := hcs
    cases hx
    have hln := slice_len ht hw
    rw [hby, List.length_map, hlen] at hln
    have each : ∀ i, i < len0 → ∃ z : Int, w.cell? (a.add i) = some (.int .i64 z) ∧ -9223372036854775808 ≤ z ∧ z ≤ 9223372036854775807 := by
      intro i hi
      have hy := hel i hi
      rw [List.getElem?_eq_getElem (by omega : i < elems.length), hc, Nat.mul_one, Option.bind_eq_some_iff] at hy
      obtain ⟨cs', hcs, hy'⟩ := hy
      obtain ⟨z, rfl, -, hz⟩ := DataW.trod_int he hy'
      exact ⟨z, cell_of_cells?_one hcs, bounds_i64 hz⟩
    obtain ⟨ks, hkl, hks⟩ := list_of _ len0 each
    refine ⟨ks, some a, cap0, by rw [hkl], by rw [hkl]; simp only [reachBytes] at hln; omega, fun x hx => ?_, fun hp => ?_⟩
    · obtain ⟨i, hi, rfl⟩ := List.getElem_of_mem hx
      exact (hks i hi).2
    · have hz := (hks 0 hp).1
      have hx := World.block_lt_of_cell? w _ hz
      have hsp : a.spot = none := by
        have := spot_none w _ _ hz
        simpa [Addr.add] using this
      refine ⟨a.block, a.off, by cases a; simp_all, by simpa [Addr.add] using hx, fun i hi => ?_⟩
      have k0 := (hks i hi).1
      rw [add_form a _ hsp] at k0
      exact k0
end
set_option maxRecDepth 100000 in
theorem disk_of {H : Type} {enc : TypeId × Value → H} {w : World} {v : Value} {d : DataW H} {ps : List MemPlace} {base : Nat}
    (ho : Value.okWide Try.prog w .any base 27 v) (hk : DataW.Trod enc Try.prog w 0 (fun _ => true) true 27 v d ps) (hw : ∀ n ∈ d.weights Try.prog 27, n ≤ reachBytes) : ∃ sv dn fu fs, v = .agg #[sv, .bool dn, .int .i64 fu] ∧ Files w w.heap.size sv fs ∧ (∀ f ∈ fs, f.da.size ≤ reachBytes ∧ f.nm.size ≤ reachBytes) ∧ fs.length * 40 ≤ reachBytes ∧ -9223372036854775808 ≤ fu ∧ fu ≤ 9223372036854775807 :=
  disk_of' Try.underlying27 Try.underlying25 rfl rfl rfl rfl rfl rfl rfl rfl rfl rfl Try.underlying55 rfl rfl rfl rfl rfl rfl rfl rfl rfl ho hk rfl hw
set_option maxRecDepth 100000 in
theorem ints_of {H : Type} {enc : TypeId × Value → H} {w : World} {v : Value} {d : DataW H} {ps : List MemPlace} {base : Nat}
    (ho : Value.okWide Try.prog w .any base 23 v) (hk : DataW.Trod enc Try.prog w 0 (fun _ => true) true 23 v d ps) (hw : ∀ n ∈ d.weights Try.prog 23, n ≤ reachBytes) : ∃ ks, Ints w w.heap.size v ks :=
  ints_of' Try.underlying23 rfl rfl ho hk rfl hw
end Dk
end Go.Proofs.Ytjgdmdgiicpemaa
