/-
  ARGUMENTS: peers that came in; members with the room behind them.
-/
import Derived.Test.YtndihliagcgdeaaLogArg
import Derived.Test.YtndihliagcgdeaaQuSet
namespace Go.Proofs.Ytndihliagcgdeaa
open Go.RowKit Go.WideShapes Go.ChangeShapes
namespace Qu
open Lo
set_option maxRecDepth 100000 in
theorem pe_trod {H : Type} {enc : TypeId × Value → H} {w : World} {cs : List Value} {y : DataW H × List MemPlace} {n : Nat} (hf : DataW.trod enc Try.prog w 0 (fun _ => true) true n 34 cs = some y) :
    ∃ p : Pe, cs = [.int .i64 p.id, .int .u64 (p.nx : Nat), .int .u64 (p.ma : Nat)] ∧ (-9223372036854775808 ≤ p.id ∧ p.id ≤ 9223372036854775807) ∧ Lt64 p.nx ∧ Lt64 p.ma := by
  have hu := Try.underlying34
  have hl : cs.length = 3 := by
    obtain ⟨xs, m, -, hd, hl, hlen, hff⟩ := DataW.trod_struct hu hf
    exact hl
  obtain ⟨y0, y1, y2, m, hd, -, t0, t1, t2⟩ := Go.Deep.trod_struct3 hu hf
  match cs, hl with
  | [c0, c1, c2], _ =>
    have t0 : DataW.trod enc Try.prog w 0 (fun _ => true) true m 3 [c0] = some y0 := t0
    have t1 : DataW.trod enc Try.prog w 0 (fun _ => true) true m 27 [c1] = some y1 := t1
    have t2 : DataW.trod enc Try.prog w 0 (fun _ => true) true m 27 [c2] = some y2 := t2
    obtain ⟨s0, e0, -, z0⟩ := DataW.trod_int Try.underlying3 t0
    obtain ⟨s1, e1, -, z1⟩ := DataW.trod_int Try.underlying27 t1
    obtain ⟨s2, e2, -, z2⟩ := DataW.trod_int Try.underlying27 t2
    have hx1 : 0 ≤ s1 ∧ s1 ≤ 18446744073709551615 := by simpa [Lit.wf, IntKind.min, IntKind.max, IntKind.signed, IntKind.bits] using z1
    have hx2 : 0 ≤ s2 ∧ s2 ≤ 18446744073709551615 := by simpa [Lit.wf, IntKind.min, IntKind.max, IntKind.signed, IntKind.bits] using z2
    obtain ⟨a, rfl⟩ := Int.eq_ofNat_of_zero_le hx1.1
    obtain ⟨b, rfl⟩ := Int.eq_ofNat_of_zero_le hx2.1
    cases e0
    cases e1
    cases e2
    exact ⟨⟨s0, a, b⟩, rfl, bounds_i64 z0, by unfold Lt64; show a < _; omega, by unfold Lt64; show b < _; omega⟩
set_option maxRecDepth 100000 in
theorem pes_trod {H : Type} {enc : TypeId × Value → H} {w : World} {n : Nat} {cs : List Value} {y : DataW H × List MemPlace} (h : DataW.trod enc Try.prog w 0 (fun _ => true) true n 28 cs = some y) (hw : ∀ n ∈ y.1.weights Try.prog 28, n ≤ reachBytes) :
    ∃ v l, cs = [v] ∧ PeR w 0 w.heap.size v l := by
  have ht := Try.underlying28
  rcases DataW.trod_slice ht h with ⟨rfl, -⟩ | ⟨a, len, cap, elems, rest, m, -, rfl, rfl, hb, hl, hm, hlen, hel, -, -⟩
  · exact ⟨_, [], rfl, none, 0, rfl, by simp, by simp, by simp⟩
  · have hln := slice_len ht hw
    rw [show Try.prog.bytesOf 34 = 24 from rfl, List.length_map, hlen] at hln
    have each : ∀ i, i < len → ∃ p : Pe, (w.cell? (a.add (i * 3)) = some (.int .i64 p.id) ∧ w.cell? ((a.add (i * 3)).add 1) = some (.int .u64 (p.nx : Nat)) ∧ w.cell? ((a.add (i * 3)).add 2) = some (.int .u64 (p.ma : Nat))) ∧ (-9223372036854775808 ≤ p.id ∧ p.id ≤ 9223372036854775807) ∧ Lt64 p.nx ∧ Lt64 p.ma := by
      intro i hi
      have hy := hel i hi
      rw [List.getElem?_eq_getElem (by omega : i < elems.length), show Try.prog.cellsOf 34 = 3 from rfl, Option.bind_eq_some_iff] at hy
      obtain ⟨cs', hcs, hy'⟩ := hy
      obtain ⟨-, -, hcell⟩ := World.cells?_some hcs
      obtain ⟨p, e, hp⟩ := pe_trod hy'
      subst e
      refine ⟨p, ⟨?_, hcell 1 (by omega), hcell 2 (by omega)⟩, hp⟩
      have := hcell 0 (by omega)
      rw [block_add0] at this
      exact this
    obtain ⟨l, hll, hls⟩ := list_of _ len each
    refine ⟨_, l, rfl, some a, cap, by rw [hll], by rw [hll]; simp only [reachBytes] at hln; omega, fun p hp => ?_, fun hp => ?_⟩
    · obtain ⟨i, hi, rfl⟩ := List.getElem_of_mem hp
      exact (hls i hi).2
    · have hz := (hls 0 hp).1.1
      have hx := World.block_lt_of_cell? w _ hz
      have hsp : a.spot = none := by
        have := spot_none w _ _ hz
        simpa [Addr.add] using this
      refine ⟨a.block, a.off, by cases a; simp_all, Nat.zero_le _, by simpa [Addr.add] using hx, fun i hi => ?_⟩
      obtain ⟨k0, k1, k2⟩ := (hls i hi).1
      simp only [add_form a _ hsp, Addr.add_lit] at k0 k1 k2
      exact ⟨k0, k1, k2⟩
set_option maxRecDepth 100000 in
theorem peers_of {H : Type} {enc : TypeId × Value → H} {w : World} {v : Value} {d : DataW H} {ps : List MemPlace} {base : Nat}
    (ho : Value.okWide Try.prog w .any base 28 v) (hk : DataW.Trod enc Try.prog w 0 (fun _ => true) true 28 v d ps) (hw : ∀ n ∈ d.weights Try.prog 28, n ≤ reachBytes) :
    ∃ l, PeR w 0 w.heap.size v l := by
  obtain ⟨a0, len0, cap0, rfl⟩ := okWide_slice Try.underlying28 ho
  obtain ⟨fuel, hf⟩ := hk
  obtain ⟨u, l, e, hI⟩ := pes_trod hf hw
  have e : [Value.slice a0 len0 cap0] = [u] := e
  cases e
  exact ⟨l, hI⟩
/-- Members, with as much room at least as there are of them. -/
def IntsC (w : World) (v : Value) (ks : List Int) : Prop := IntsR w 0 w.heap.size v ks ∧ ∃ a c, v = .slice a ks.length c ∧ ks.length ≤ c ∧ (a = none → c = 0)
set_option maxRecDepth 100000 in
theorem room_of {H : Type} {enc : TypeId × Value → H} {w : World} {v : Value} {d : DataW H} {ps : List MemPlace} {base : Nat}
    (ho : Value.okWide Try.prog w .any base 22 v) (hk : DataW.Trod enc Try.prog w 0 (fun _ => true) true 22 v d ps) (hw : ∀ n ∈ d.weights Try.prog 22, n ≤ reachBytes) :
    ∃ ks, IntsC w v ks ∧ ks.length ≤ Rows.uptoBulk d := by
  obtain ⟨ks, hI⟩ := ints_of ho hk hw
  rw [show (∃ ks, IntsC w v ks ∧ ks.length ≤ Rows.uptoBulk d) ↔ (∃ ks, IntsR w 0 w.heap.size v ks ∧ (∃ a c, v = .slice a ks.length c ∧ ks.length ≤ c ∧ (a = none → c = 0)) ∧ ks.length ≤ Rows.uptoBulk d) from ⟨fun ⟨ks, h1, h2⟩ => ⟨ks, h1.1, h1.2, h2⟩, fun ⟨ks, h1, h2, h3⟩ => ⟨ks, ⟨h1, h2⟩, h3⟩⟩]
  refine ⟨ks, hI, ?_⟩
  obtain ⟨a0, len0, cap0, rfl⟩ := okWide_slice Try.underlying22 ho
  obtain ⟨fuel, hf⟩ := hk
  have hlen : len0 = ks.length := by
    obtain ⟨a, c, e, -⟩ := hI
    simp only [Value.slice.injEq] at e
    exact e.2.1
  rcases DataW.trod_slice Try.underlying22 hf with ⟨e, -⟩ | ⟨a, len, cap, elems, rest, m, -, e, hy, hb, hl, hm, hln, -⟩
  · have e : [Value.slice a0 len0 cap0] = [Value.slice none 0 0] := e
    simp only [List.cons.injEq, Value.slice.injEq, and_true] at e
    obtain ⟨rfl, rfl, rfl⟩ := e
    exact ⟨⟨none, 0, by rw [← hlen], by omega, fun _ => rfl⟩, by omega⟩
  · have e : [Value.slice a0 len0 cap0] = [Value.slice (some a) len cap] := e
    simp only [List.cons.injEq, Value.slice.injEq, and_true] at e
    obtain ⟨rfl, rfl, rfl⟩ := e
    refine ⟨⟨some a, cap0, by rw [hlen], by rw [← hlen]; exact hl, fun e => by cases e⟩, ?_⟩
    simp only [Prod.mk.injEq] at hy
    rw [hy.1]
    simp only [Rows.uptoBulk]
    have h9 := bulk_len (elems.map (·.1))
    rw [List.length_map] at h9
    omega
end Qu
end Go.Proofs.Ytndihliagcgdeaa
