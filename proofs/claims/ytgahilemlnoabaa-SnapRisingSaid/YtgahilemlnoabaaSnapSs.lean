/-
  ARGUMENTS: snapshots that came in, a slice of them.
-/
import Derived.Test.YtgahilemlnoabaaSnapArg
namespace Go.Proofs.Ytgahilemlnoabaa
open Go.RowKit Go.WideShapes Go.ChangeShapes
namespace Dk
/-- A snapshot in memory. -/
structure Sn where
  i : Nat
  t : Nat
  u : Value
  ks : List Int
  d : ByteArray
/-- v is a slice of the snapshots l, in memory below block B. -/
def Snaps (w : World) (B : Nat) (v : Value) (l : List Sn) : Prop :=
  ∃ a c, v = .slice a l.length c ∧ l.length ≤ 4611686018427387904 ∧ (∀ x ∈ l, x.i < 2 ^ 64 ∧ x.t < 2 ^ 64 ∧ Ints w B x.u x.ks) ∧
    (0 < l.length → ∃ b off, a = some ⟨b, off, none⟩ ∧ b < B ∧ ∀ i (h : i < l.length), w.cell? ⟨b, off + i * 4, none⟩ = some (.int .u64 (l[i].i : Nat)) ∧ w.cell? ⟨b, off + i * 4 + 1, none⟩ = some (.int .u64 (l[i].t : Nat)) ∧ w.cell? ⟨b, off + i * 4 + 2, none⟩ = some l[i].u ∧ w.cell? ⟨b, off + i * 4 + 3, none⟩ = some (.string l[i].d))
set_option maxRecDepth 100000 in
theorem snap_trod {H : Type} {enc : TypeId × Value → H} {w : World} {cs : List Value} {y : DataW H × List MemPlace} {n : Nat} (hf : DataW.trod enc Try.prog w 0 (fun _ => true) true n 25 cs = some y) (hw : ∀ n ∈ y.1.weights Try.prog 25, n ≤ reachBytes) :
    ∃ x : Sn, cs = [.int .u64 (x.i : Nat), .int .u64 (x.t : Nat), x.u, .string x.d] ∧ x.i < 2 ^ 64 ∧ x.t < 2 ^ 64 ∧ Ints w w.heap.size x.u x.ks := by
  have hu := Try.underlying25
  obtain ⟨hl, y0, y1, y2, y3, m, hd, t0, t1, t2, t3⟩ := trod_struct4 hu hf
  have hl : cs.length = 4 := hl
  match cs, hl with
  | [c0, c1, c2, c3], _ =>
    have t0 : DataW.trod enc Try.prog w 0 (fun _ => true) true m 22 [c0] = some y0 := t0
    have t1 : DataW.trod enc Try.prog w 0 (fun _ => true) true m 22 [c1] = some y1 := t1
    have t2 : DataW.trod enc Try.prog w 0 (fun _ => true) true m 23 [c2] = some y2 := t2
    have t3 : DataW.trod enc Try.prog w 0 (fun _ => true) true m 9 [c3] = some y3 := t3
    obtain ⟨s0, e0, -, z0⟩ := DataW.trod_int Try.underlying22 t0
    obtain ⟨s1, e1, -, z1⟩ := DataW.trod_int Try.underlying22 t1
    obtain ⟨s3, e3, -, z3⟩ := DataW.trod_string Try.underlying9 t3
    have hw2 : ∀ n ∈ y2.1.weights Try.prog 23, n ≤ reachBytes := by
      intro n hn
      refine hw n ?_
      rw [hd]
      simp only [DataW.weights, hu, DataW.weightsEach, List.map_cons, List.map_nil, List.mem_append]
      first | exact .inr (.inr (.inl hn)) | (simp; exact .inr (.inr (.inl hn)))
    obtain ⟨u, ks, e2, hI⟩ := ints_trod Try.underlying23 Try.underlying3 rfl t2 rfl hw2
    have hx0 : 0 ≤ s0 ∧ s0 ≤ 18446744073709551615 := by simpa [Lit.wf, IntKind.min, IntKind.max, IntKind.signed, IntKind.bits] using z0
    have hx1 : 0 ≤ s1 ∧ s1 ≤ 18446744073709551615 := by simpa [Lit.wf, IntKind.min, IntKind.max, IntKind.signed, IntKind.bits] using z1
    obtain ⟨i, rfl⟩ := Int.eq_ofNat_of_zero_le hx0.1
    obtain ⟨t, rfl⟩ := Int.eq_ofNat_of_zero_le hx1.1
    cases e0
    cases e1
    cases e2
    cases e3
    exact ⟨⟨i, t, _, ks, s3⟩, rfl, by show i < 2 ^ 64; omega, by show t < 2 ^ 64; omega, hI⟩
set_option maxRecDepth 100000 in
theorem snaps_of {H : Type} {enc : TypeId × Value → H} {w : World} {v : Value} {d : DataW H} {ps : List MemPlace} {base : Nat}
    (ho : Value.okWide Try.prog w .any base 44 v) (hk : DataW.Trod enc Try.prog w 0 (fun _ => true) true 44 v d ps) (hw : ∀ n ∈ d.weights Try.prog 44, n ≤ reachBytes) :
    ∃ l, Snaps w w.heap.size v l := by
  have ht := Try.underlying44
  obtain ⟨a0, len0, cap0, rfl⟩ := okWide_slice ht ho
  obtain ⟨fuel, hf⟩ := hk
  rcases DataW.trod_slice ht hf with ⟨hcs, -⟩ | ⟨a, len, cap, elems, rest, m, -, hcs, hx, hb, hl, hm, hlen, hel, -, -⟩
  · simp [Value.cells] at hcs
    obtain ⟨rfl, rfl, rfl⟩ := hcs
    exact ⟨[], none, 0, rfl, by simp, by simp, by simp⟩
  · simp [Value.cells] at hcs
    obtain ⟨rfl, rfl, rfl⟩ := hcs
    cases hx
    have hln := slice_len ht hw
    rw [show Try.prog.bytesOf 25 = 56 from rfl, List.length_map, hlen] at hln
    have hwe : ∀ y ∈ elems, ∀ n ∈ y.1.weights Try.prog 25, n ≤ reachBytes := by
      intro y hy n hn
      refine hw n ?_
      have := all_mem (List.mem_map_of_mem (f := (·.1)) hy) n hn
      simp only [DataW.weights, ht, List.mem_cons, List.mem_append]
      exact .inr (.inl this)
    have each : ∀ i, i < len0 → ∃ x : Sn, (w.cell? (a.add (i * 4)) = some (.int .u64 (x.i : Nat)) ∧ w.cell? ((a.add (i * 4)).add 1) = some (.int .u64 (x.t : Nat)) ∧ w.cell? ((a.add (i * 4)).add 2) = some x.u ∧ w.cell? ((a.add (i * 4)).add 3) = some (.string x.d)) ∧ x.i < 2 ^ 64 ∧ x.t < 2 ^ 64 ∧ Ints w w.heap.size x.u x.ks := by
      intro i hi
      have hy := hel i hi
      rw [List.getElem?_eq_getElem (by omega : i < elems.length), show Try.prog.cellsOf 25 = 4 from rfl, Option.bind_eq_some_iff] at hy
      obtain ⟨cs', hcs, hy'⟩ := hy
      obtain ⟨-, -, hcell⟩ := World.cells?_some hcs
      obtain ⟨x, e, hx⟩ := snap_trod hy' (hwe _ (List.getElem_mem _))
      subst e
      refine ⟨x, ⟨?_, hcell 1 (by omega), hcell 2 (by omega), hcell 3 (by omega)⟩, hx⟩
      have := hcell 0 (by omega)
      rw [block_add0] at this
      exact this
    obtain ⟨l, hfl, hfs⟩ := list_of _ len0 each
    refine ⟨l, some a, cap0, by rw [hfl], by rw [hfl]; simp only [reachBytes] at hln; omega, fun x hx => ?_, fun hp => ?_⟩
    · obtain ⟨i, hi, rfl⟩ := List.getElem_of_mem hx
      exact (hfs i hi).2
    · have hz := (hfs 0 hp).1.1
      have hx := World.block_lt_of_cell? w _ hz
      have hsp : a.spot = none := by
        have := spot_none w _ _ hz
        simpa [Addr.add] using this
      refine ⟨a.block, a.off, by cases a; simp_all, by simpa [Addr.add] using hx, fun i hi => ?_⟩
      have hh := (hfs i hi).1
      simp only [add_form a _ hsp, Addr.add_lit] at hh
      exact hh
end Dk
end Go.Proofs.Ytgahilemlnoabaa
