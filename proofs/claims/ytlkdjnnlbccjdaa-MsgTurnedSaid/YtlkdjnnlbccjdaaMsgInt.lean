/-
  A SLICE OF INTS in memory below a block: what the texts over disks say of it, for seats without disks.
-/
import Derived.Test.YtlkdjnnlbccjdaaLgB
namespace Go.Proofs.Ytlkdjnnlbccjdaa
open Go.RowKit Go.Lib
namespace Dk
/-- v is a slice of the ints ks, in memory below block B. -/
def Ints (w : World) (B : Nat) (v : Value) (ks : List Int) : Prop :=
  ∃ a c, v = .slice a ks.length c ∧ ks.length ≤ 4611686018427387904 ∧ (∀ x ∈ ks, -9223372036854775808 ≤ x ∧ x ≤ 9223372036854775807) ∧
    (0 < ks.length → ∃ b off, a = some ⟨b, off, none⟩ ∧ b < B ∧ ∀ i (h : i < ks.length), w.cell? ⟨b, off + i, none⟩ = some (.int .i64 ks[i]))
theorem Ints.keep {w w' : World} {B : Nat} {v : Value} {ks : List Int} (h : Ints w B v ks) (hb : Below B w w') : Ints w' B v ks := by
  obtain ⟨a, c, rfl, h1, h2, h3⟩ := h
  refine ⟨a, c, rfl, h1, h2, fun hp => ?_⟩
  obtain ⟨b, off, rfl, hlt, hc⟩ := h3 hp
  exact ⟨b, off, rfl, hlt, fun i hi => (hb.cell (by exact hlt)).trans (hc i hi)⟩
theorem Ints.more {w : World} {B B' : Nat} {v : Value} {ks : List Int} (h : Ints w B v ks) (hb : B ≤ B') : Ints w B' v ks := by
  obtain ⟨a, c, rfl, h1, h2, h3⟩ := h
  refine ⟨a, c, rfl, h1, h2, fun hp => ?_⟩
  obtain ⟨b, off, rfl, hlt, hc⟩ := h3 hp
  exact ⟨b, off, rfl, by omega, hc⟩
theorem Ints.on {w w' : World} {v : Value} {ks : List Int} (h : Ints w w.heap.size v ks) (hb : Below w.heap.size w w') : Ints w' w'.heap.size v ks := (h.keep hb).more hb.size
end Dk
namespace Lo
/-- The same numbers, as the other texts say it. -/
theorem IntsR.ints {w : World} {A B : Nat} {v : Value} {ks : List Int} (h : IntsR w A B v ks) : Dk.Ints w B v ks := by
  obtain ⟨a, c, rfl, h1, h2, h3⟩ := h
  refine ⟨a, c, rfl, by omega, h2, fun hp => ?_⟩
  obtain ⟨b, off, rfl, -, hlt, hc⟩ := h3 hp
  exact ⟨b, off, rfl, hlt, hc⟩
end Lo
end Go.Proofs.Ytlkdjnnlbccjdaa
