/-
  ARGUMENTS of the law on frames: texts, bools, ints that came in.
-/
import Derived.Test.YtnhkpbdggjmgdaaTopFrames
import Derived.Test.YtnhkpbdggjmgdaaDiskArg
namespace Go.Proofs.Ytnhkpbdggjmgdaa
open Go.RowKit Go.WideShapes Go.ChangeShapes
namespace Dk
theorem bools_of {H : Type} {enc : TypeId × Value → H} {w : World} {v : Value} {d : DataW H} {ps : List MemPlace} {base : Nat}
    (ho : Value.okWide Try.prog w .any base 23 v) (hk : DataW.Trod enc Try.prog w 0 (fun _ => true) true 23 v d ps) (hw : ∀ n ∈ d.weights Try.prog 23, n ≤ reachBytes) : ∃ ys, IsBools w w.heap.size v ys := by
  have ht := Try.underlying23
  have he := Try.underlying4
  obtain ⟨a0, len0, cap0, rfl⟩ := okWide_slice ht ho
  obtain ⟨fuel, hf⟩ := hk
  rcases DataW.trod_slice ht hf with ⟨hcs, -⟩ | ⟨a, len, cap, elems, rest, m, -, hcs, hx, hb, hl, hm, hlen, hel, -, -⟩
  · simp [Value.cells] at hcs
    obtain ⟨rfl, rfl, rfl⟩ := hcs
    exact ⟨[], none, 0, rfl, by simp, by simp⟩
  · simp [Value.cells] at hcs
    obtain ⟨rfl, rfl, rfl⟩ := hcs
    cases hx
    have hln := slice_len ht hw
    rw [show Try.prog.bytesOf 4 = 1 from rfl, List.length_map, hlen] at hln
    have each : ∀ i, i < len0 → ∃ z : Bool, w.cell? (a.add i) = some (.bool z) := by
      intro i hi
      have hy := hel i hi
      rw [List.getElem?_eq_getElem (by omega : i < elems.length), show Try.prog.cellsOf 4 = 1 from rfl, Nat.mul_one, Option.bind_eq_some_iff] at hy
      obtain ⟨cs', hcs, hy'⟩ := hy
      obtain ⟨z, rfl, -⟩ := DataW.trod_bool he hy'
      exact ⟨z, cell_of_cells?_one hcs⟩
    obtain ⟨ys, hkl, hks⟩ := list_of _ len0 each
    refine ⟨ys, some a, cap0, by rw [hkl], by rw [hkl]; simp only [reachBytes] at hln; omega, fun hp => ?_⟩
    have hz := hks 0 hp
    have hx := World.block_lt_of_cell? w _ hz
    have hsp : a.spot = none := by
      have := spot_none w _ _ hz
      simpa [Addr.add] using this
    refine ⟨a.block, a.off, by cases a; simp_all, by simpa [Addr.add] using hx, fun i hi => ?_⟩
    have k0 := hks i hi
    rw [add_form a _ hsp] at k0
    exact k0
end Dk
end Go.Proofs.Ytnhkpbdggjmgdaa
