/-
  ARGUMENTS: numbers that came in.
-/
import Derived.Test.YtejolapbdkkdaaaNetArg
import Derived.Test.YtejolapbdkkdaaaNetLaw2
namespace Go.Proofs.Ytejolapbdkkdaaa
open Go.RowKit Go.WideShapes Go.ChangeShapes
namespace Nt
open Rw
set_option maxRecDepth 100000 in
theorem ints_of {H : Type} {enc : TypeId × Value → H} {w : World} {v : Value} {d : DataW H} {ps : List MemPlace} {base : Nat}
    (ho : Value.okWide Try.prog w .any base 41 v) (hk : DataW.Trod enc Try.prog w 0 (fun _ => true) true 41 v d ps) (hw : ∀ n ∈ d.weights Try.prog 41, n ≤ reachBytes) :
    ∃ ks, IntS w w.heap.size v ks := by
  obtain ⟨a0, len0, cap0, rfl⟩ := okWide_slice Try.underlying41 ho
  obtain ⟨fuel, hf⟩ := hk
  rcases DataW.trod_slice Try.underlying41 hf with ⟨e, -⟩ | ⟨a, len, cap, elems, rest, m, -, e, hy, hb, hl, hm, hlen, hel, -, -⟩
  · have e : [Value.slice a0 len0 cap0] = [Value.slice none 0 0] := e
    simp only [List.cons.injEq, Value.slice.injEq, and_true] at e
    obtain ⟨rfl, rfl, rfl⟩ := e
    exact ⟨[], none, 0, rfl, by simp, by simp⟩
  · have e : [Value.slice a0 len0 cap0] = [Value.slice (some a) len cap] := e
    simp only [List.cons.injEq, Value.slice.injEq, and_true] at e
    obtain ⟨rfl, rfl, rfl⟩ := e
    simp only [Prod.mk.injEq] at hy
    rw [hy.1] at hw
    have hln := slice_len Try.underlying41 hw
    rw [show Try.prog.bytesOf 3 = 8 from rfl, List.length_map, hlen] at hln
    have each : ∀ i, i < len0 → ∃ z : Int, w.cell? (a.add i) = some (.int .i64 z) := by
      intro i hi
      have hy := hel i hi
      rw [List.getElem?_eq_getElem (by omega : i < elems.length), show Try.prog.cellsOf 3 = 1 from rfl, Nat.mul_one, Option.bind_eq_some_iff] at hy
      obtain ⟨cs', hcs, hy'⟩ := hy
      obtain ⟨z, rfl, -, hz⟩ := DataW.trod_int Try.underlying3 hy'
      exact ⟨z, cell_of_cells?_one hcs⟩
    obtain ⟨ks, hkl, hks⟩ := list_of _ len0 each
    refine ⟨ks, some a, cap0, by rw [hkl], by rw [hkl]; simp only [reachBytes] at hln; omega, fun hp => ?_⟩
    have hz := hks 0 hp
    have hx := World.block_lt_of_cell? w _ hz
    have hsp : a.spot = none := by
      have := spot_none w _ _ hz
      simpa [Addr.add] using this
    refine ⟨a.block, a.off, by cases a; simp_all, by simpa [Addr.add] using hx, fun i hi => ?_⟩
    have k0 := hks i hi
    rw [add_form a _ hsp] at k0
    exact k0
end Nt
end Go.Proofs.Ytejolapbdkkdaaa
