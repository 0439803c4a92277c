/-
  WHETHER TWO BOOKS ARE ONE, where they are: gafferref08.Same.
-/
import Derived.Test.YthbmnkeigmbbdaaGreatBgB
import Derived.BigQuiet
import Derived.Deep.RegionHeld3
import Derived.Deep.LoopGhost
namespace Go.Proofs.YthbmnkeigmbbdaaGreat
open Go.RowKit Go.Lib
namespace Bo
open Rw
set_option linter.unusedVariables false
theorem Nds.row {w : World} {B : Nat} {v : Value} {l : List Hd.Nd} (h : Nds w B v l) : ∃ a c, v = .slice a l.length c ∧ (0 < l.length → ∃ b off, a = some ⟨b, off, none⟩ ∧ b < B ∧ ∀ i (hi : i < l.length), ∃ x : NdM, x.nd = l[i] ∧ At w b (off + i * 6) x ∧ DeepN w B x ∧ FitN x.nd) := by
  obtain ⟨m, rfl, ⟨a, c, rfl, -, -, -, hc⟩, h2, -⟩ := h
  refine ⟨a, c, by rw [List.length_map], fun hp => ?_⟩
  obtain ⟨b, off, ha, -, hlt, hcc⟩ := hc (by simpa using hp)
  refine ⟨b, off, ha, hlt, fun i hi => ?_⟩
  have hi2 : i < m.length := by simpa using hi
  exact ⟨m[i], by simp, hcc i hi2, (h2 _ (List.getElem_mem hi2)).1, (h2 _ (List.getElem_mem hi2)).2⟩
theorem Tds.row {w : World} {B : Nat} {v : Value} {l : List Hd.Td} (h : Tds w B v l) : ∃ a c, v = .slice a l.length c ∧ (0 < l.length → ∃ b off, a = some ⟨b, off, none⟩ ∧ b < B ∧ ∀ i (hi : i < l.length), ∃ x : TdM, x.td = l[i] ∧ At w b (off + i * 9) x ∧ DeepT w B x ∧ FitT x.td) := by
  obtain ⟨m, rfl, ⟨a, c, rfl, -, -, -, hc⟩, h2, -⟩ := h
  refine ⟨a, c, by rw [List.length_map], fun hp => ?_⟩
  obtain ⟨b, off, ha, -, hlt, hcc⟩ := hc (by simpa using hp)
  refine ⟨b, off, ha, hlt, fun i hi => ?_⟩
  have hi2 : i < m.length := by simpa using hi
  exact ⟨m[i], by simp, hcc i hi2, (h2 _ (List.getElem_mem hi2)).1, (h2 _ (List.getElem_mem hi2)).2⟩
theorem Bds.row {w : World} {B : Nat} {v : Value} {l : List Rg.Pr} (h : Bds w B v l) : ∃ a c, v = .slice a l.length c ∧ (0 < l.length → ∃ b off, a = some ⟨b, off, none⟩ ∧ b < B ∧ ∀ i (hi : i < l.length), At w b (off + i * 2) l[i]) := by
  obtain ⟨⟨a, c, rfl, -, -, -, hc⟩, -, -⟩ := h
  refine ⟨a, c, rfl, fun hp => ?_⟩
  obtain ⟨b, off, ha, -, hlt, hcc⟩ := hc hp
  exact ⟨b, off, ha, hlt, hcc⟩
set_option maxRecDepth 100000 in
theorem neq_bind (k1 v1 : ByteArray) (w : World) : (binOp .neq 106 (.agg #[.string k1, .string v1]) (.agg #[.string k1, .string v1])).run Tryz.prog w = .ok (.bool false) w := by
  have u9 := Tryz.underlying9
  have a9 := Tryz.isAgg9
  have z9 := Tryz.sizeOf9
  have hS : Tryz.prog.underlying 106 = some (.struct (Tryz.prog.fieldsOf 106)) := by kernel_rfl
  have hp : Tryz.prog.stoodInHeld 106 = false := by kernel_rfl
  rw [run_neq_struct, show (10000 : Nat) = 9999 + 1 from rfl, run_equalIn_agg w 9999 106 _ _ hS hp]
  simp only [Program.fieldsOf, Tryz.underlying106]
  go_simp
theorem guard_bind : Tryz.prog.eqGuardType Tryz.prog.depth 106 = false := by kernel_rfl
end Bo
end Go.Proofs.YthbmnkeigmbbdaaGreat
