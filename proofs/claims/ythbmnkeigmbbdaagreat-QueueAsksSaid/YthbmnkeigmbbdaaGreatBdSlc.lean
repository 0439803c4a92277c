/-
  PARTS OF A ROW, in a region that draws its order: what s[:k] and s[k:] are.
-/
import Derived.Test.YthbmnkeigmbbdaaGreatBgP
import Derived.Deep.RegionHeld3
namespace Go.Proofs.YthbmnkeigmbbdaaGreat
open Go.RowKit Go.Lib
namespace Rw
set_option linter.unusedVariables false
section
variable {P : Program}
theorem yieldsIf_slice_h {ops : Array Oper} {S : World → Prop} {op : Oper} {a : Act} (hw : Region.wanted op (yielded ops a.tmps) = true) (t : TypeId) (x hi : Operand) (ho : op.op = .slice t x none (some hi) none)
    (ad : Option Addr) (n c : Nat) (hx : a.eval x = .slice ad n c) (k : Nat) (hh : a.eval hi = .int .i64 (k : Int)) (ht : P.underlying t = some (.slice (P.elem t))) (s : Nat) (hs : ∀ w, (sizeOf (P.elem t)).run P w = .ok s w) (hk : k ≤ c) :
    YieldsIf P ops S op (sliced ad 0 k c s) a :=
  .inl ⟨hw, fun w _ => by
    unfold execOp
    simp only [ho, hx, hh, Option.map, run_sliceAt_slice w t _ _ _ _ ht, run_slice_h w t ad n c ht .i64 (k : Int) (by omega) (by omega), hs, Sem.run_bind, Sem.run_pure, Result.andThen, Int.toNat_natCast]⟩
theorem yieldsIf_slice_l {ops : Array Oper} {S : World → Prop} {op : Oper} {a : Act} (hw : Region.wanted op (yielded ops a.tmps) = true) (t : TypeId) (x lo : Operand) (ho : op.op = .slice t x (some lo) none none)
    (ad : Option Addr) (n c : Nat) (hx : a.eval x = .slice ad n c) (k : Nat) (hh : a.eval lo = .int .i64 (k : Int)) (ht : P.underlying t = some (.slice (P.elem t))) (s : Nat) (hs : ∀ w, (sizeOf (P.elem t)).run P w = .ok s w) (hk : k ≤ n) :
    YieldsIf P ops S op (sliced ad k n c s) a :=
  .inl ⟨hw, fun w _ => by
    unfold execOp
    simp only [ho, hx, hh, Option.map, run_sliceAt_slice w t _ _ _ _ ht, run_slice_l w t ad n c ht .i64 (k : Int) (by omega) (by omega), hs, Sem.run_bind, Sem.run_pure, Result.andThen, Int.toNat_natCast]⟩
end
section
variable {α : Type} [F : Flat α]
theorem sl_pre {w : World} {A B : Nat} {a : Option Addr} {n c : Nat} {l : List α} (h : Sl w A B (.slice a n c) l) (k : Nat) (hk : k ≤ l.length) : Sl w A B (sliced a 0 k c F.k) (l.take k) := by
  obtain ⟨a', c', he, h1, h2, h3, h4⟩ := h
  simp only [Value.slice.injEq] at he
  obtain ⟨rfl, rfl, rfl⟩ := he
  have hl : (l.take k).length = k := by rw [List.length_take]; omega
  unfold sliced
  rcases Nat.eq_zero_or_pos l.length with h0 | h0
  · obtain rfl : k = 0 := by omega
    rw [List.take_zero]
    refine Sl.empty _ _ _ _ _ fun hn => ?_
    rw [Nat.sub_zero]
    cases a with
    | none => exact h2 rfl
    | some ad =>
      split at hn
      · assumption
      · cases hn
  · obtain ⟨b, off, rfl, hA, hlt, hc⟩ := h4 h0
    rw [if_neg (by omega), Option.map_some, Addr.add_mid, Nat.zero_mul, Nat.add_zero, Nat.sub_zero, Nat.sub_zero]
    refine ⟨some ⟨b, off, none⟩, c, by rw [hl], by omega, fun e => (by cases e), by omega, fun _ => ⟨b, off, rfl, hA, hlt, fun i hi => ?_⟩⟩
    rw [List.getElem_take]
    exact hc i (by omega)
theorem sl_suf {w : World} {A B : Nat} {a : Option Addr} {n c : Nat} {l : List α} (h : Sl w A B (.slice a n c) l) (k : Nat) (hk : k ≤ l.length) : Sl w A B (sliced a k n c F.k) (l.drop k) := by
  obtain ⟨a', c', he, h1, h2, h3, h4⟩ := h
  simp only [Value.slice.injEq] at he
  obtain ⟨rfl, rfl, rfl⟩ := he
  have hl : (l.drop k).length = l.length - k := List.length_drop
  unfold sliced
  rcases Nat.lt_or_ge k l.length with h0 | h0
  · obtain ⟨b, off, rfl, hA, hlt, hc⟩ := h4 (by omega)
    rw [if_neg (by omega), Option.map_some, Addr.add_mid]
    refine ⟨some ⟨b, off + k * F.k, none⟩, c - k, by rw [hl], by omega, fun e => (by cases e), by omega, fun _ => ⟨b, off + k * F.k, rfl, hA, hlt, fun i hi => ?_⟩⟩
    rw [List.getElem_drop]
    have h5 := hc (k + i) (by omega)
    rw [Nat.add_mul, ← Nat.add_assoc] at h5
    exact h5
  · rw [List.drop_eq_nil_of_le h0, show l.length - k = 0 by omega]
    refine Sl.empty _ _ _ _ _ fun hn => ?_
    cases a with
    | none => have := h2 rfl; omega
    | some ad =>
      split at hn
      · omega
      · cases hn
end
end Rw
end Go.Proofs.YthbmnkeigmbbdaaGreat
