/-
  A function that hands back a disk (out of its own box) and an error.
-/
import Derived.Test.YtjgdmdgiicpemaaDiskDo
import Derived.Laws.ResultCell
namespace Go.Proofs.Ytjgdmdgiicpemaa
open Go.RowKit Go.Lib Go.Sort
namespace Dk
theorem load_disk (w : World) (B : Nat) (v : Value) (dn : Bool) (fu : Int) (h0 : w.cell? ⟨B, 0, none⟩ = some v) (h1 : w.cell? ⟨B, 1, none⟩ = some (.bool dn)) (h2 : w.cell? ⟨B, 2, none⟩ = some (.int .i64 fu)) :
    (loadVar 27 ⟨B, 0, none⟩).run Try.prog w = .ok (.agg #[v, .bool dn, .int .i64 fu]) w := by
  have a := Try.isAgg27 w
  have b := Try.sizeOf27 w
  go_simp
theorem bodyPost_disk {fn : Func} {p u : Tmp} (h : fn.results = #[.cell p 27, .tmp u]) {R : Ending → World → Prop} {a : Act} {w : World} (B : Nat) (v : Value) (dn : Bool) (fu : Int) (hd : a.defers = [])
    (hp : a.tmps.getD p undef = .pointer (some ⟨B, 0, none⟩)) (h0 : w.cell? ⟨B, 0, none⟩ = some v) (h1 : w.cell? ⟨B, 1, none⟩ = some (.bool dn)) (h2 : w.cell? ⟨B, 2, none⟩ = some (.int .i64 fu))
    (hR : R (.returned (.tuple #[.agg #[v, .bool dn, .int .i64 fu], a.tmps.getD u undef])) w) : bodyPost Try.prog fn R .ret a w := by
  refine bodyPost_ret ?_ hd hR
  rw [results_cell_tmp h, hp]
  have := load_disk w B v dn fu h0 h1 h2
  simp [asAddr, this, Result.andThen]
end Dk
end Go.Proofs.Ytjgdmdgiicpemaa
