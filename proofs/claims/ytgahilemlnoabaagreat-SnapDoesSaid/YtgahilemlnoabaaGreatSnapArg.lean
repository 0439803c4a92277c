/-
  ARGUMENTS: a snapshot that came in.
-/
import Derived.Test.YtgahilemlnoabaaGreatDiskArg
namespace Go.Proofs.YtgahilemlnoabaaGreat
open Go.RowKit Go.WideShapes Go.ChangeShapes
namespace Dk
section
variable {H : Type} {enc : TypeId × Value → H} {P : Program} {w : World} {spare : Nat → Bool} {held : Bool}
theorem ints_trod {t e : TypeId} {n : Nat} {cs : List Value} {y : DataW H × List MemPlace} (ht : P.underlying t = some (.slice e)) (he : P.underlying e = some (.int .i64)) (hc : P.cellsOf e = 1)
    (h : DataW.trod enc P w 0 spare held n t cs = some y) (hby : P.bytesOf e = 8) (hw : ∀ n ∈ y.1.weights P t, n ≤ reachBytes) : ∃ v ks, cs = [v] ∧ Ints w w.heap.size v ks := by
  rcases DataW.trod_slice ht h with ⟨rfl, -⟩ | ⟨a, len, cap, elems, rest, m, -, rfl, rfl, hb, hl, hm, hlen, hel, -, -⟩
  · exact ⟨_, [], rfl, none, 0, rfl, by simp, by simp, by simp⟩
  · have hln := slice_len ht hw
    rw [hby, List.length_map, hlen] at hln
    have each : ∀ i, i < len → ∃ z : Int, w.cell? (a.add i) = some (.int .i64 z) ∧ -9223372036854775808 ≤ z ∧ z ≤ 9223372036854775807 := by
      intro i hi
      have hy := hel i hi
      rw [List.getElem?_eq_getElem (by omega : i < elems.length), hc, Nat.mul_one, Option.bind_eq_some_iff] at hy
      obtain ⟨cs', hcs, hy'⟩ := hy
      obtain ⟨z, rfl, -, hz⟩ := DataW.trod_int he hy'
      exact ⟨z, cell_of_cells?_one hcs, bounds_i64 hz⟩
    obtain ⟨ks, hkl, hks⟩ := list_of _ len each
    refine ⟨_, ks, rfl, some a, cap, by rw [hkl], by rw [hkl]; simp only [reachBytes] at hln; omega, fun x hx => ?_, fun hp => ?_⟩
    · obtain ⟨i, hi, rfl⟩ := List.getElem_of_mem hx
      exact (hks i hi).2
    · have hz := (hks 0 hp).1
      have hx := World.block_lt_of_cell? w _ hz
      have hsp : a.spot = none := by
        have := spot_none w _ _ hz
        simpa [Addr.add] using this
      refine ⟨a.block, a.off, by cases a; simp_all, by simpa [Addr.add] using hx, fun i hi => ?_⟩
      have k0 := (hks i hi).1
      rw [add_form a _ hsp] at k0
      exact k0
theorem trod_struct4 {t : TypeId} {f0 f1 f2 f3 : Field} {n : Nat} {cs : List Value} {x : DataW H × List MemPlace} (ht : P.underlying t = some (.struct #[f0, f1, f2, f3])) (hx : DataW.trod enc P w 0 spare held n t cs = some x) :
    cs.length = P.cellsOf t ∧ ∃ y0 y1 y2 y3 m, x.1 = .agg [y0.1, y1.1, y2.1, y3.1] ∧ DataW.trod enc P w 0 spare held m f0.type ((cs.drop f0.offset).take (P.cellsOf f0.type)) = some y0 ∧ DataW.trod enc P w 0 spare held m f1.type ((cs.drop f1.offset).take (P.cellsOf f1.type)) = some y1 ∧
      DataW.trod enc P w 0 spare held m f2.type ((cs.drop f2.offset).take (P.cellsOf f2.type)) = some y2 ∧ DataW.trod enc P w 0 spare held m f3.type ((cs.drop f3.offset).take (P.cellsOf f3.type)) = some y3 := by
  obtain ⟨xs, m, -, hd, hl, hlen, hf⟩ := DataW.trod_struct ht hx
  match xs, hlen with
  | [y0, y1, y2, y3], _ =>
    exact ⟨hl, y0, y1, y2, y3, m, by rw [hd]; rfl, hf 0 _ rfl, hf 1 _ rfl, hf 2 _ rfl, hf 3 _ rfl⟩
end
set_option maxRecDepth 100000 in
theorem snap_of {H : Type} {enc : TypeId × Value → H} {w : World} {v : Value} {d : DataW H} {ps : List MemPlace} {base : Nat}
    (ho : Value.okWide Tryz.prog w .any base 28 v) (hk : DataW.Trod enc Tryz.prog w 0 (fun _ => true) true 28 v d ps) (hw : ∀ n ∈ d.weights Tryz.prog 28, n ≤ reachBytes) :
    ∃ (i t : Nat) (u : Value) (ks : List Int) (s : ByteArray), v = .agg #[.int .u64 (i : Nat), .int .u64 (t : Nat), u, .string s] ∧ i < 2 ^ 64 ∧ t < 2 ^ 64 ∧ Ints w w.heap.size u ks ∧ s.size ≤ reachBytes := by
  obtain ⟨cs, rfl, hcs⟩ := okWide_struct Tryz.underlying28 ho
  obtain ⟨fuel, hf⟩ := hk
  have hu := Tryz.underlying28
  obtain ⟨-, y0, y1, y2, y3, m, hd, t0, t1, t2, t3⟩ := trod_struct4 hu hf
  have hd : d = .agg [y0.1, y1.1, y2.1, y3.1] := hd
  subst hd
  rcases cs with ⟨l⟩
  have hl2 : l.length = 4 := hcs
  match l, hl2 with
  | [c0, c1, c2, c3], _ =>
    have t0 : DataW.trod enc Tryz.prog w 0 (fun _ => true) true m 25 [c0] = some y0 := t0
    have t1 : DataW.trod enc Tryz.prog w 0 (fun _ => true) true m 25 [c1] = some y1 := t1
    have t2 : DataW.trod enc Tryz.prog w 0 (fun _ => true) true m 26 [c2] = some y2 := t2
    have t3 : DataW.trod enc Tryz.prog w 0 (fun _ => true) true m 9 [c3] = some y3 := t3
    obtain ⟨s0, e0, -, z0⟩ := DataW.trod_int Tryz.underlying25 t0
    obtain ⟨s1, e1, -, z1⟩ := DataW.trod_int Tryz.underlying25 t1
    obtain ⟨s3, e3, q3, z3⟩ := DataW.trod_string Tryz.underlying9 t3
    have hw2 : ∀ n ∈ y2.1.weights Tryz.prog 26, n ≤ reachBytes := by
      intro n hn
      refine hw n ?_
      simp only [DataW.weights, hu, DataW.weightsEach, List.map_cons, List.map_nil, List.mem_append]
      first | exact .inr (.inr (.inl hn)) | (simp; exact .inr (.inr (.inl hn)))
    obtain ⟨u, ks, e2, hI⟩ := ints_trod Tryz.underlying26 Tryz.underlying3 rfl t2 rfl hw2
    have h3 : s3.size ≤ reachBytes := by
      refine hw s3.size ?_
      rw [q3]
      simp [DataW.weights, hu, DataW.weightsEach]
    have hx0 : 0 ≤ s0 ∧ s0 ≤ 18446744073709551615 := by simpa [Lit.wf, IntKind.min, IntKind.max, IntKind.signed, IntKind.bits] using z0
    have hx1 : 0 ≤ s1 ∧ s1 ≤ 18446744073709551615 := by simpa [Lit.wf, IntKind.min, IntKind.max, IntKind.signed, IntKind.bits] using z1
    obtain ⟨i, rfl⟩ := Int.eq_ofNat_of_zero_le hx0.1
    obtain ⟨t, rfl⟩ := Int.eq_ofNat_of_zero_le hx1.1
    cases e0
    cases e1
    cases e2
    cases e3
    exact ⟨i, t, _, ks, s3, rfl, by omega, by omega, hI, h3⟩
end Dk
end Go.Proofs.YtgahilemlnoabaaGreat
