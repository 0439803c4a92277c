/-
  WALKS of the laws on scores and on the best.
-/
import Derived.Test.YthnajkpnchaciaaScoreOf
import Derived.Deep.RegionHeld3
namespace Go.Proofs.Ythnajkpnchaciaa
open Go.RowKit
namespace Rg
set_option maxRecDepth 100000 in
set_option maxHeartbeats 4000000 in
theorem scoreDoes (yn yg ya : ByteArray) (y0 y1 y2 yr : Int) (ywa yba : Option Addr) (ywn ywc ybn ybc : Nat) (xn : ByteArray) (x0 x1 x2 : Int) (xla xta : Option Addr) (xln xlc xtn xtc : Nat) (xu0 xu1 xu2 : Int) (ws bs ls ts : List Pr) (w : World) (hx : xn.size ≤ maxLen) (hy : yn.size ≤ maxLen ∧ yg.size ≤ maxLen ∧ ya.size ≤ maxLen)
    (h1 : Pairs w w.heap.size (.slice ywa ywn ywc) ws) (h2 : Pairs w w.heap.size (.slice yba ybn ybc) bs) (h3 : Pairs w w.heap.size (.slice xla xln xlc) ls) (h4 : Pairs w w.heap.size (.slice xta xtn xtc) ts) :
    Calls Try.prog 3 #[.agg #[.string yn, .int .i64 y0, .int .i64 y1, .int .i64 y2, .slice ywa ywn ywc, .slice yba ybn ybc, .string yg, .string ya, .int .i64 yr], .agg #[.string xn, .int .i64 x0, .int .i64 x1, .int .i64 x2, .slice xla xln xlc, .slice xta xtn xtc, .int .i64 xu0, .int .i64 xu1, .int .i64 xu2]] w fun e w' => e = .returned (.bool true) ∧ Below w.heap.size w w' := by
  have g1 := fun z (hb : Below w.heap.size w z) => score_any yn yg ya y0 y1 y2 yr ywa yba ywn ywc ybn ybc xn x0 x1 x2 xla xta xln xlc xtn xtc xu0 xu1 xu2 ws bs ls ts z hx hy (h1.ovr hb) (h2.ovr hb) (h3.ovr hb) (h4.ovr hb)
  have g2 := fun z (hb : Below w.heap.size w z) => score_ref yn yg ya y0 y1 y2 yr ywa yba ywn ywc ybn ybc xn x0 x1 x2 xla xta xln xlc xtn xtc xu0 xu1 xu2 ws bs ls ts z hx hy (h1.ovr hb) (h2.ovr hb) (h3.ovr hb) (h4.ovr hb)
  have g3 := fun z (hb : Below w.heap.size w z) => lcheck_any xn x0 x1 x2 xla xta xln xlc xtn xtc xu0 xu1 xu2 ls ts z hx (h3.ovr hb) (h4.ovr hb)
  have g4 := fun z (hb : Below w.heap.size w z) => lcheck_ref xn x0 x1 x2 xla xta xln xlc xtn xtc xu0 xu1 xu2 ls ts z hx (h3.ovr hb) (h4.ovr hb)
  generalize fitE (taskE yn yg ya y0 y1 y2 yr ws bs) (loadE xn x0 x1 x2 ls ts xu0 xu1 xu2) (suitB ws ls ts bs) (roomB x0 x1 x2 xu0 xu1 xu2 y0 y1 y2) = er at g1 g2
  generalize sumS x0 x1 x2 xu0 xu1 xu2 y0 y1 y2 = sv at g1 g2
  generalize loadE xn x0 x1 x2 ls ts xu0 xu1 xu2 = le at g3 g4
  unfold ScoreIs at g1 g2
  generalize fitV er sv = vv at g1 g2
  have G1 := Lib.hid g1
  have G2 := Lib.hid g2
  have L0 : Hid (∀ z, (z.cell? ⟨w.heap.size, 0, none⟩ = some (.string yn) ∧ z.cell? ⟨w.heap.size, 1, none⟩ = some (.int .i64 y0) ∧ z.cell? ⟨w.heap.size, 2, none⟩ = some (.int .i64 y1) ∧ z.cell? ⟨w.heap.size, 3, none⟩ = some (.int .i64 y2) ∧ z.cell? ⟨w.heap.size, 4, none⟩ = some (.slice ywa ywn ywc) ∧ z.cell? ⟨w.heap.size, 5, none⟩ = some (.slice yba ybn ybc) ∧ z.cell? ⟨w.heap.size, 6, none⟩ = some (.string yg) ∧ z.cell? ⟨w.heap.size, 7, none⟩ = some (.string ya) ∧ z.cell? ⟨w.heap.size, 8, none⟩ = some (.int .i64 yr) ∧ z.cell? ⟨w.heap.size + 1, 0, none⟩ = some (.string xn) ∧ z.cell? ⟨w.heap.size + 1, 1, none⟩ = some (.int .i64 x0) ∧ z.cell? ⟨w.heap.size + 1, 2, none⟩ = some (.int .i64 x1) ∧ z.cell? ⟨w.heap.size + 1, 3, none⟩ = some (.int .i64 x2) ∧ z.cell? ⟨w.heap.size + 1, 4, none⟩ = some (.slice xla xln xlc) ∧ z.cell? ⟨w.heap.size + 1, 5, none⟩ = some (.slice xta xtn xtc) ∧ z.cell? ⟨w.heap.size + 1, 6, none⟩ = some (.int .i64 xu0) ∧ z.cell? ⟨w.heap.size + 1, 7, none⟩ = some (.int .i64 xu1) ∧ z.cell? ⟨w.heap.size + 1, 8, none⟩ = some (.int .i64 xu2) ∧ Hid (Below w.heap.size w z ∧ w.heap.size + 2 ≤ z.heap.size)) → ∀ z', Below z.heap.size z z' → (z'.cell? ⟨w.heap.size, 0, none⟩ = some (.string yn) ∧ z'.cell? ⟨w.heap.size, 1, none⟩ = some (.int .i64 y0) ∧ z'.cell? ⟨w.heap.size, 2, none⟩ = some (.int .i64 y1) ∧ z'.cell? ⟨w.heap.size, 3, none⟩ = some (.int .i64 y2) ∧ z'.cell? ⟨w.heap.size, 4, none⟩ = some (.slice ywa ywn ywc) ∧ z'.cell? ⟨w.heap.size, 5, none⟩ = some (.slice yba ybn ybc) ∧ z'.cell? ⟨w.heap.size, 6, none⟩ = some (.string yg) ∧ z'.cell? ⟨w.heap.size, 7, none⟩ = some (.string ya) ∧ z'.cell? ⟨w.heap.size, 8, none⟩ = some (.int .i64 yr) ∧ z'.cell? ⟨w.heap.size + 1, 0, none⟩ = some (.string xn) ∧ z'.cell? ⟨w.heap.size + 1, 1, none⟩ = some (.int .i64 x0) ∧ z'.cell? ⟨w.heap.size + 1, 2, none⟩ = some (.int .i64 x1) ∧ z'.cell? ⟨w.heap.size + 1, 3, none⟩ = some (.int .i64 x2) ∧ z'.cell? ⟨w.heap.size + 1, 4, none⟩ = some (.slice xla xln xlc) ∧ z'.cell? ⟨w.heap.size + 1, 5, none⟩ = some (.slice xta xtn xtc) ∧ z'.cell? ⟨w.heap.size + 1, 6, none⟩ = some (.int .i64 xu0) ∧ z'.cell? ⟨w.heap.size + 1, 7, none⟩ = some (.int .i64 xu1) ∧ z'.cell? ⟨w.heap.size + 1, 8, none⟩ = some (.int .i64 xu2) ∧ Hid (Below w.heap.size w z' ∧ w.heap.size + 2 ≤ z'.heap.size))) := by
    intro z h z' hb
    obtain ⟨a0, a1, a2, a3, a4, a5, a6, a7, a8, b0, b1, b2, b3, b4, b5, b6, b7, b8, hS⟩ := h
    have hz := hS.out.2
    have k0 : ∀ i, z'.cell? ⟨w.heap.size, i, none⟩ = z.cell? ⟨w.heap.size, i, none⟩ := fun i => hb.cell (by show w.heap.size < _; omega)
    have k1 : ∀ i, z'.cell? ⟨w.heap.size + 1, i, none⟩ = z.cell? ⟨w.heap.size + 1, i, none⟩ := fun i => hb.cell (by show w.heap.size + 1 < _; omega)
    have hE : Hid (Below w.heap.size w z' ∧ w.heap.size + 2 ≤ z'.heap.size) := ⟨hS.out.1.trans (hb.mono (by omega)), by have := hb.size; omega⟩
    simp only [k0, k1]
    exact ⟨a0, a1, a2, a3, a4, a5, a6, a7, a8, b0, b1, b2, b3, b4, b5, b6, b7, b8, hE⟩
  have KB : Hid (∀ z, (z.cell? ⟨w.heap.size, 0, none⟩ = some (.string yn) ∧ z.cell? ⟨w.heap.size, 1, none⟩ = some (.int .i64 y0) ∧ z.cell? ⟨w.heap.size, 2, none⟩ = some (.int .i64 y1) ∧ z.cell? ⟨w.heap.size, 3, none⟩ = some (.int .i64 y2) ∧ z.cell? ⟨w.heap.size, 4, none⟩ = some (.slice ywa ywn ywc) ∧ z.cell? ⟨w.heap.size, 5, none⟩ = some (.slice yba ybn ybc) ∧ z.cell? ⟨w.heap.size, 6, none⟩ = some (.string yg) ∧ z.cell? ⟨w.heap.size, 7, none⟩ = some (.string ya) ∧ z.cell? ⟨w.heap.size, 8, none⟩ = some (.int .i64 yr) ∧ z.cell? ⟨w.heap.size + 1, 0, none⟩ = some (.string xn) ∧ z.cell? ⟨w.heap.size + 1, 1, none⟩ = some (.int .i64 x0) ∧ z.cell? ⟨w.heap.size + 1, 2, none⟩ = some (.int .i64 x1) ∧ z.cell? ⟨w.heap.size + 1, 3, none⟩ = some (.int .i64 x2) ∧ z.cell? ⟨w.heap.size + 1, 4, none⟩ = some (.slice xla xln xlc) ∧ z.cell? ⟨w.heap.size + 1, 5, none⟩ = some (.slice xta xtn xtc) ∧ z.cell? ⟨w.heap.size + 1, 6, none⟩ = some (.int .i64 xu0) ∧ z.cell? ⟨w.heap.size + 1, 7, none⟩ = some (.int .i64 xu1) ∧ z.cell? ⟨w.heap.size + 1, 8, none⟩ = some (.int .i64 xu2) ∧ Hid (Below w.heap.size w z ∧ w.heap.size + 2 ≤ z.heap.size)) → Below w.heap.size w z) := by
    intro z h
    obtain ⟨a0, a1, a2, a3, a4, a5, a6, a7, a8, b0, b1, b2, b3, b4, b5, b6, b7, b8, hS⟩ := h
    exact hS.out.1
  have K0 : Hid (∀ z, (z.cell? ⟨w.heap.size, 0, none⟩ = some (.string yn) ∧ z.cell? ⟨w.heap.size, 1, none⟩ = some (.int .i64 y0) ∧ z.cell? ⟨w.heap.size, 2, none⟩ = some (.int .i64 y1) ∧ z.cell? ⟨w.heap.size, 3, none⟩ = some (.int .i64 y2) ∧ z.cell? ⟨w.heap.size, 4, none⟩ = some (.slice ywa ywn ywc) ∧ z.cell? ⟨w.heap.size, 5, none⟩ = some (.slice yba ybn ybc) ∧ z.cell? ⟨w.heap.size, 6, none⟩ = some (.string yg) ∧ z.cell? ⟨w.heap.size, 7, none⟩ = some (.string ya) ∧ z.cell? ⟨w.heap.size, 8, none⟩ = some (.int .i64 yr) ∧ z.cell? ⟨w.heap.size + 1, 0, none⟩ = some (.string xn) ∧ z.cell? ⟨w.heap.size + 1, 1, none⟩ = some (.int .i64 x0) ∧ z.cell? ⟨w.heap.size + 1, 2, none⟩ = some (.int .i64 x1) ∧ z.cell? ⟨w.heap.size + 1, 3, none⟩ = some (.int .i64 x2) ∧ z.cell? ⟨w.heap.size + 1, 4, none⟩ = some (.slice xla xln xlc) ∧ z.cell? ⟨w.heap.size + 1, 5, none⟩ = some (.slice xta xtn xtc) ∧ z.cell? ⟨w.heap.size + 1, 6, none⟩ = some (.int .i64 xu0) ∧ z.cell? ⟨w.heap.size + 1, 7, none⟩ = some (.int .i64 xu1) ∧ z.cell? ⟨w.heap.size + 1, 8, none⟩ = some (.int .i64 xu2) ∧ Hid (Below w.heap.size w z ∧ w.heap.size + 2 ≤ z.heap.size)) → Calls Try.prog 11 #[] z fun e z' => e = .returned (.bool true) ∧ (z'.cell? ⟨w.heap.size, 0, none⟩ = some (.string yn) ∧ z'.cell? ⟨w.heap.size, 1, none⟩ = some (.int .i64 y0) ∧ z'.cell? ⟨w.heap.size, 2, none⟩ = some (.int .i64 y1) ∧ z'.cell? ⟨w.heap.size, 3, none⟩ = some (.int .i64 y2) ∧ z'.cell? ⟨w.heap.size, 4, none⟩ = some (.slice ywa ywn ywc) ∧ z'.cell? ⟨w.heap.size, 5, none⟩ = some (.slice yba ybn ybc) ∧ z'.cell? ⟨w.heap.size, 6, none⟩ = some (.string yg) ∧ z'.cell? ⟨w.heap.size, 7, none⟩ = some (.string ya) ∧ z'.cell? ⟨w.heap.size, 8, none⟩ = some (.int .i64 yr) ∧ z'.cell? ⟨w.heap.size + 1, 0, none⟩ = some (.string xn) ∧ z'.cell? ⟨w.heap.size + 1, 1, none⟩ = some (.int .i64 x0) ∧ z'.cell? ⟨w.heap.size + 1, 2, none⟩ = some (.int .i64 x1) ∧ z'.cell? ⟨w.heap.size + 1, 3, none⟩ = some (.int .i64 x2) ∧ z'.cell? ⟨w.heap.size + 1, 4, none⟩ = some (.slice xla xln xlc) ∧ z'.cell? ⟨w.heap.size + 1, 5, none⟩ = some (.slice xta xtn xtc) ∧ z'.cell? ⟨w.heap.size + 1, 6, none⟩ = some (.int .i64 xu0) ∧ z'.cell? ⟨w.heap.size + 1, 7, none⟩ = some (.int .i64 xu1) ∧ z'.cell? ⟨w.heap.size + 1, 8, none⟩ = some (.int .i64 xu2) ∧ Hid (Below w.heap.size w z' ∧ w.heap.size + 2 ≤ z'.heap.size))) := fun z h => (lives_true z).mono fun e z' ⟨he, hb⟩ => ⟨he, L0.out z h z' hb⟩
  have K1 : Hid (∀ z, (z.cell? ⟨w.heap.size, 0, none⟩ = some (.string yn) ∧ z.cell? ⟨w.heap.size, 1, none⟩ = some (.int .i64 y0) ∧ z.cell? ⟨w.heap.size, 2, none⟩ = some (.int .i64 y1) ∧ z.cell? ⟨w.heap.size, 3, none⟩ = some (.int .i64 y2) ∧ z.cell? ⟨w.heap.size, 4, none⟩ = some (.slice ywa ywn ywc) ∧ z.cell? ⟨w.heap.size, 5, none⟩ = some (.slice yba ybn ybc) ∧ z.cell? ⟨w.heap.size, 6, none⟩ = some (.string yg) ∧ z.cell? ⟨w.heap.size, 7, none⟩ = some (.string ya) ∧ z.cell? ⟨w.heap.size, 8, none⟩ = some (.int .i64 yr) ∧ z.cell? ⟨w.heap.size + 1, 0, none⟩ = some (.string xn) ∧ z.cell? ⟨w.heap.size + 1, 1, none⟩ = some (.int .i64 x0) ∧ z.cell? ⟨w.heap.size + 1, 2, none⟩ = some (.int .i64 x1) ∧ z.cell? ⟨w.heap.size + 1, 3, none⟩ = some (.int .i64 x2) ∧ z.cell? ⟨w.heap.size + 1, 4, none⟩ = some (.slice xla xln xlc) ∧ z.cell? ⟨w.heap.size + 1, 5, none⟩ = some (.slice xta xtn xtc) ∧ z.cell? ⟨w.heap.size + 1, 6, none⟩ = some (.int .i64 xu0) ∧ z.cell? ⟨w.heap.size + 1, 7, none⟩ = some (.int .i64 xu1) ∧ z.cell? ⟨w.heap.size + 1, 8, none⟩ = some (.int .i64 xu2) ∧ Hid (Below w.heap.size w z ∧ w.heap.size + 2 ≤ z.heap.size)) → Calls Try.prog 12 #[.agg #[.string xn, .int .i64 x0, .int .i64 x1, .int .i64 x2, .slice xla xln xlc, .slice xta xtn xtc, .int .i64 xu0, .int .i64 xu1, .int .i64 xu2]] z fun e z' => e = .returned (.int .i64 (le : Nat)) ∧ (z'.cell? ⟨w.heap.size, 0, none⟩ = some (.string yn) ∧ z'.cell? ⟨w.heap.size, 1, none⟩ = some (.int .i64 y0) ∧ z'.cell? ⟨w.heap.size, 2, none⟩ = some (.int .i64 y1) ∧ z'.cell? ⟨w.heap.size, 3, none⟩ = some (.int .i64 y2) ∧ z'.cell? ⟨w.heap.size, 4, none⟩ = some (.slice ywa ywn ywc) ∧ z'.cell? ⟨w.heap.size, 5, none⟩ = some (.slice yba ybn ybc) ∧ z'.cell? ⟨w.heap.size, 6, none⟩ = some (.string yg) ∧ z'.cell? ⟨w.heap.size, 7, none⟩ = some (.string ya) ∧ z'.cell? ⟨w.heap.size, 8, none⟩ = some (.int .i64 yr) ∧ z'.cell? ⟨w.heap.size + 1, 0, none⟩ = some (.string xn) ∧ z'.cell? ⟨w.heap.size + 1, 1, none⟩ = some (.int .i64 x0) ∧ z'.cell? ⟨w.heap.size + 1, 2, none⟩ = some (.int .i64 x1) ∧ z'.cell? ⟨w.heap.size + 1, 3, none⟩ = some (.int .i64 x2) ∧ z'.cell? ⟨w.heap.size + 1, 4, none⟩ = some (.slice xla xln xlc) ∧ z'.cell? ⟨w.heap.size + 1, 5, none⟩ = some (.slice xta xtn xtc) ∧ z'.cell? ⟨w.heap.size + 1, 6, none⟩ = some (.int .i64 xu0) ∧ z'.cell? ⟨w.heap.size + 1, 7, none⟩ = some (.int .i64 xu1) ∧ z'.cell? ⟨w.heap.size + 1, 8, none⟩ = some (.int .i64 xu2) ∧ Hid (Below w.heap.size w z' ∧ w.heap.size + 2 ≤ z'.heap.size))) := fun z h => (g3 z (KB.out z h)).mono fun e z' ⟨he, hb⟩ => ⟨he, L0.out z h z' hb⟩
  have K2 : Hid (∀ z, (z.cell? ⟨w.heap.size, 0, none⟩ = some (.string yn) ∧ z.cell? ⟨w.heap.size, 1, none⟩ = some (.int .i64 y0) ∧ z.cell? ⟨w.heap.size, 2, none⟩ = some (.int .i64 y1) ∧ z.cell? ⟨w.heap.size, 3, none⟩ = some (.int .i64 y2) ∧ z.cell? ⟨w.heap.size, 4, none⟩ = some (.slice ywa ywn ywc) ∧ z.cell? ⟨w.heap.size, 5, none⟩ = some (.slice yba ybn ybc) ∧ z.cell? ⟨w.heap.size, 6, none⟩ = some (.string yg) ∧ z.cell? ⟨w.heap.size, 7, none⟩ = some (.string ya) ∧ z.cell? ⟨w.heap.size, 8, none⟩ = some (.int .i64 yr) ∧ z.cell? ⟨w.heap.size + 1, 0, none⟩ = some (.string xn) ∧ z.cell? ⟨w.heap.size + 1, 1, none⟩ = some (.int .i64 x0) ∧ z.cell? ⟨w.heap.size + 1, 2, none⟩ = some (.int .i64 x1) ∧ z.cell? ⟨w.heap.size + 1, 3, none⟩ = some (.int .i64 x2) ∧ z.cell? ⟨w.heap.size + 1, 4, none⟩ = some (.slice xla xln xlc) ∧ z.cell? ⟨w.heap.size + 1, 5, none⟩ = some (.slice xta xtn xtc) ∧ z.cell? ⟨w.heap.size + 1, 6, none⟩ = some (.int .i64 xu0) ∧ z.cell? ⟨w.heap.size + 1, 7, none⟩ = some (.int .i64 xu1) ∧ z.cell? ⟨w.heap.size + 1, 8, none⟩ = some (.int .i64 xu2) ∧ Hid (Below w.heap.size w z ∧ w.heap.size + 2 ≤ z.heap.size)) → Calls Try.prog 13 #[.agg #[.string xn, .int .i64 x0, .int .i64 x1, .int .i64 x2, .slice xla xln xlc, .slice xta xtn xtc, .int .i64 xu0, .int .i64 xu1, .int .i64 xu2]] z fun e z' => e = .returned (.int .i64 (le : Nat)) ∧ (z'.cell? ⟨w.heap.size, 0, none⟩ = some (.string yn) ∧ z'.cell? ⟨w.heap.size, 1, none⟩ = some (.int .i64 y0) ∧ z'.cell? ⟨w.heap.size, 2, none⟩ = some (.int .i64 y1) ∧ z'.cell? ⟨w.heap.size, 3, none⟩ = some (.int .i64 y2) ∧ z'.cell? ⟨w.heap.size, 4, none⟩ = some (.slice ywa ywn ywc) ∧ z'.cell? ⟨w.heap.size, 5, none⟩ = some (.slice yba ybn ybc) ∧ z'.cell? ⟨w.heap.size, 6, none⟩ = some (.string yg) ∧ z'.cell? ⟨w.heap.size, 7, none⟩ = some (.string ya) ∧ z'.cell? ⟨w.heap.size, 8, none⟩ = some (.int .i64 yr) ∧ z'.cell? ⟨w.heap.size + 1, 0, none⟩ = some (.string xn) ∧ z'.cell? ⟨w.heap.size + 1, 1, none⟩ = some (.int .i64 x0) ∧ z'.cell? ⟨w.heap.size + 1, 2, none⟩ = some (.int .i64 x1) ∧ z'.cell? ⟨w.heap.size + 1, 3, none⟩ = some (.int .i64 x2) ∧ z'.cell? ⟨w.heap.size + 1, 4, none⟩ = some (.slice xla xln xlc) ∧ z'.cell? ⟨w.heap.size + 1, 5, none⟩ = some (.slice xta xtn xtc) ∧ z'.cell? ⟨w.heap.size + 1, 6, none⟩ = some (.int .i64 xu0) ∧ z'.cell? ⟨w.heap.size + 1, 7, none⟩ = some (.int .i64 xu1) ∧ z'.cell? ⟨w.heap.size + 1, 8, none⟩ = some (.int .i64 xu2) ∧ Hid (Below w.heap.size w z' ∧ w.heap.size + 2 ≤ z'.heap.size))) := fun z h => (g4 z (KB.out z h)).mono fun e z' ⟨he, hb⟩ => ⟨he, L0.out z h z' hb⟩
  have KD : Hid (∀ z, Below w.heap.size w z → (∀ i, z.cell? ⟨w.heap.size, i, none⟩ = #[.string yn, .int .i64 y0, .int .i64 y1, .int .i64 y2, .slice ywa ywn ywc, .slice yba ybn ybc, .string yg, .string ya, .int .i64 yr][i]?) → (∀ i, z.cell? ⟨w.heap.size + 1, i, none⟩ = #[.string xn, .int .i64 x0, .int .i64 x1, .int .i64 x2, .slice xla xln xlc, .slice xta xtn xtc, .int .i64 xu0, .int .i64 xu1, .int .i64 xu2][i]?) → w.heap.size + 2 ≤ z.heap.size → (z.drew.cell? ⟨w.heap.size, 0, none⟩ = some (.string yn) ∧ z.drew.cell? ⟨w.heap.size, 1, none⟩ = some (.int .i64 y0) ∧ z.drew.cell? ⟨w.heap.size, 2, none⟩ = some (.int .i64 y1) ∧ z.drew.cell? ⟨w.heap.size, 3, none⟩ = some (.int .i64 y2) ∧ z.drew.cell? ⟨w.heap.size, 4, none⟩ = some (.slice ywa ywn ywc) ∧ z.drew.cell? ⟨w.heap.size, 5, none⟩ = some (.slice yba ybn ybc) ∧ z.drew.cell? ⟨w.heap.size, 6, none⟩ = some (.string yg) ∧ z.drew.cell? ⟨w.heap.size, 7, none⟩ = some (.string ya) ∧ z.drew.cell? ⟨w.heap.size, 8, none⟩ = some (.int .i64 yr) ∧ z.drew.cell? ⟨w.heap.size + 1, 0, none⟩ = some (.string xn) ∧ z.drew.cell? ⟨w.heap.size + 1, 1, none⟩ = some (.int .i64 x0) ∧ z.drew.cell? ⟨w.heap.size + 1, 2, none⟩ = some (.int .i64 x1) ∧ z.drew.cell? ⟨w.heap.size + 1, 3, none⟩ = some (.int .i64 x2) ∧ z.drew.cell? ⟨w.heap.size + 1, 4, none⟩ = some (.slice xla xln xlc) ∧ z.drew.cell? ⟨w.heap.size + 1, 5, none⟩ = some (.slice xta xtn xtc) ∧ z.drew.cell? ⟨w.heap.size + 1, 6, none⟩ = some (.int .i64 xu0) ∧ z.drew.cell? ⟨w.heap.size + 1, 7, none⟩ = some (.int .i64 xu1) ∧ z.drew.cell? ⟨w.heap.size + 1, 8, none⟩ = some (.int .i64 xu2) ∧ Hid (Below w.heap.size w z.drew ∧ w.heap.size + 2 ≤ z.drew.heap.size))) := by
    intro z hb h0 h1 hz
    have hE : Hid (Below w.heap.size w z.drew ∧ w.heap.size + 2 ≤ z.drew.heap.size) := ⟨bdN hb 1, hz⟩
    exact ⟨h0 0, h0 1, h0 2, h0 3, h0 4, h0 5, h0 6, h0 7, h0 8, h1 0, h1 1, h1 2, h1 3, h1 4, h1 5, h1 6, h1 7, h1 8, hE⟩
  have HT := Lib.hid (two w (.cells #[.string yn, .int .i64 y0, .int .i64 y1, .int .i64 y2, .slice ywa ywn ywc, .slice yba ybn ybc, .string yg, .string ya, .int .i64 yr] 25) (.cells #[.string xn, .int .i64 x0, .int .i64 x1, .int .i64 x2, .slice xla xln xlc, .slice xta xtn xtc, .int .i64 xu0, .int .i64 xu1, .int .i64 xu2] 29))
  clear g1 g2 g3 g4 L0 h1 h2 h3 h4 hx hy
  go_enter Try.func3, Try.ntmps3
  go_wp2_with fail
  refine (G1.out _ HT.out).mono ?_
  rintro e w1 ⟨rfl, hb⟩
  obtain ⟨c0, c1, hbw⟩ := boxedL hb
  have hz1 := hb.size
  simp at hz1
  have HB1 := Lib.hid hb
  have HW1 := Lib.hid hbw
  clear hb hbw
  go_wp2_with fail
  refine (G2.out _ HW1.out).mono ?_
  rintro e w2 ⟨rfl, hb⟩
  have HB2 := Lib.hid (HB1.out.trans (hb.mono HB1.out.size))
  have hz2 := hb.size
  clear hb c0 c1
  obtain ⟨c0, c1, hbw⟩ := boxedL HB2.out
  have KE := Lib.hid (KD.out w2 hbw c0 c1 (by omega))
  clear c0 c1 hbw KD HB1 HB2 HW1 HT G1 G2
  go_wp2
  go_region_held3 (fun z => (z.cell? ⟨w.heap.size, 0, none⟩ = some (.string yn) ∧ z.cell? ⟨w.heap.size, 1, none⟩ = some (.int .i64 y0) ∧ z.cell? ⟨w.heap.size, 2, none⟩ = some (.int .i64 y1) ∧ z.cell? ⟨w.heap.size, 3, none⟩ = some (.int .i64 y2) ∧ z.cell? ⟨w.heap.size, 4, none⟩ = some (.slice ywa ywn ywc) ∧ z.cell? ⟨w.heap.size, 5, none⟩ = some (.slice yba ybn ybc) ∧ z.cell? ⟨w.heap.size, 6, none⟩ = some (.string yg) ∧ z.cell? ⟨w.heap.size, 7, none⟩ = some (.string ya) ∧ z.cell? ⟨w.heap.size, 8, none⟩ = some (.int .i64 yr) ∧ z.cell? ⟨w.heap.size + 1, 0, none⟩ = some (.string xn) ∧ z.cell? ⟨w.heap.size + 1, 1, none⟩ = some (.int .i64 x0) ∧ z.cell? ⟨w.heap.size + 1, 2, none⟩ = some (.int .i64 x1) ∧ z.cell? ⟨w.heap.size + 1, 3, none⟩ = some (.int .i64 x2) ∧ z.cell? ⟨w.heap.size + 1, 4, none⟩ = some (.slice xla xln xlc) ∧ z.cell? ⟨w.heap.size + 1, 5, none⟩ = some (.slice xta xtn xtc) ∧ z.cell? ⟨w.heap.size + 1, 6, none⟩ = some (.int .i64 xu0) ∧ z.cell? ⟨w.heap.size + 1, 7, none⟩ = some (.int .i64 xu1) ∧ z.cell? ⟨w.heap.size + 1, 8, none⟩ = some (.int .i64 xu2) ∧ Hid (Below w.heap.size w z ∧ w.heap.size + 2 ≤ z.heap.size))) (first | assumption | exact KE.out)
    (first
      | (go_at_call 11; go_loud ((with_reducible refine (K0.out _ ?_).mono ?_); assumption; rintro e w7 ⟨rfl, hS⟩))
      | (go_at_call 13; go_loud ((with_reducible refine (K2.out _ ?_).mono ?_); assumption; rintro e w7 ⟨rfl, hS⟩))
      | (go_at_call 12; go_loud ((with_reducible refine (K1.out _ ?_).mono ?_); assumption; rintro e w7 ⟨rfl, hS⟩)))
  all_goals
    go_wp2
    go_ret
    exact ⟨by simp, KB.out _ hS⟩
set_option maxRecDepth 100000 in
set_option maxHeartbeats 4000000 in
theorem scoreBest (yn yg ya : ByteArray) (y0 y1 y2 yr : Int) (ywa yba : Option Addr) (ywn ywc ybn ybc : Nat) (ws bs : List Pr) (l : List Ld) (v : Value) (w : World) (hl : Loads w w.heap.size v l) (hy : yn.size ≤ maxLen ∧ yg.size ≤ maxLen ∧ ya.size ≤ maxLen)
    (h1 : Pairs w w.heap.size (.slice ywa ywn ywc) ws) (h2 : Pairs w w.heap.size (.slice yba ybn ybc) bs) :
    Calls Try.prog 4 #[.agg #[.string yn, .int .i64 y0, .int .i64 y1, .int .i64 y2, .slice ywa ywn ywc, .slice yba ybn ybc, .string yg, .string ya, .int .i64 yr], v] w fun e w' => e = .returned (.bool true) ∧ Below w.heap.size w w' := by
  have g1 := fun z (hb : Below w.heap.size w z) => best_of yn yg ya y0 y1 y2 yr ywa yba ywn ywc ybn ybc ws bs l v z (hl.over hb) hy (h1.ovr hb) (h2.ovr hb)
  have g2 := fun z (hb : Below w.heap.size w z) => best_of_ref yn yg ya y0 y1 y2 yr ywa yba ywn ywc ybn ybc ws bs l v z (hl.over hb) hy (h1.ovr hb) (h2.ovr hb)
  unfold BestIs at g1 g2
  generalize bestE (taskE yn yg ya y0 y1 y2 yr ws bs) ldE (scE (taskE yn yg ya y0 y1 y2 yr ws bs) ws bs y0 y1 y2) (scV y0 y1 y2) l = er at g1 g2
  generalize bestV (taskE yn yg ya y0 y1 y2 yr ws bs) ldE (scE (taskE yn yg ya y0 y1 y2 yr ws bs) ws bs y0 y1 y2) (scV y0 y1 y2) l = vv at g1 g2
  have G1 := Lib.hid g1
  have G2 := Lib.hid g2
  have HT := Lib.hid (one_ w (.cells #[.string yn, .int .i64 y0, .int .i64 y1, .int .i64 y2, .slice ywa ywn ywc, .slice yba ybn ybc, .string yg, .string ya, .int .i64 yr] 25))
  clear g1 g2 hl h1 h2 hy
  go_enter Try.func4, Try.ntmps4
  go_wp2_with fail
  refine (G1.out _ HT.out).mono ?_
  rintro e w1 ⟨rfl, hb⟩
  obtain ⟨c0, hbw⟩ := boxed1 hb
  have HW1 := Lib.hid hbw
  clear hb hbw
  go_wp2_with fail
  refine (G2.out _ HW1.out).mono ?_
  rintro e w2 ⟨rfl, hb⟩
  have HW2 := Lib.hid (HW1.out.trans (hb.mono HW1.out.size))
  clear hb c0
  go_wp2_with fail
  refine (lives_true _).mono ?_
  rintro e w3 ⟨rfl, hb⟩
  have HW3 := Lib.hid (HW2.out.trans (hb.mono HW2.out.size))
  clear hb
  go_wp2
  go_ret
  exact ⟨by simp, HW3.out⟩
end Rg
end Go.Proofs.Ythnajkpnchaciaa
