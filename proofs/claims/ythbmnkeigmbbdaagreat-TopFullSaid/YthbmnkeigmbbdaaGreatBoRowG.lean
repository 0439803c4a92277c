/-
  ROWS OF k CELLS: copy; something put in; lists of cells.
-/
import Derived.Test.YthbmnkeigmbbdaaGreatBoBase
import Derived.Deep.RegionLaw
import Derived.Laws.IdiomRangeMap
import Derived.Lib.AppendZerosOnto
import Derived.Lib.Overlaps
import Derived.Shelf.Spec.SlicesInsert
namespace Go.Proofs.YthbmnkeigmbbdaaGreat
open Go.RowKit Go.Lib Go.Sort
namespace Rw
set_option linter.unusedVariables false
section
variable {P : Program}
theorem run_copyK (k : Nat) (w : World) (dT sT ty elem : TypeId) (g o dLen dCap : Nat) (a : Addr) (sLen sCap : Nat) (cur : List Value) (t : TypeId) (cs : List Value)
    (hu : P.underlying dT = some (.slice elem)) (hs : (P.info? elem).map (·.size) = some k)
    (hg : w.heap[g]? = some (.cells cur.toArray t (0, 0))) (hn : cs.length = Nat.min sLen dLen * k)
    (hsrc : ∀ j v, cs[j]? = some v → w.cell? (a.add j) = some v) (hfit : o + cs.length ≤ cur.length) (h1 : ∀ v ∈ cs, v.oneCell' = true) :
    (Builtin.copy_ #[dT, sT] ty #[.slice (some ⟨g, o, none⟩) dLen dCap, .slice (some a) sLen sCap]).run P w =
      .ok (goInt (Nat.min sLen dLen : Nat)) (w.setRow g (splice cur o cs).toArray) := by
  have hl := run_loadCells_list (P := P) w a cs hsrc
  have hst := run_storeCells_at P g o t cs 0 cur.toArray w hg (by simpa using hfit) h1
  rw [hn] at hl
  cases hq : P.info? elem with
  | none => simp [hq] at hs
  | some i =>
    have hi : i.size = k := by simpa [hq] using hs
    have hm : ∀ x y : Nat, x.min y = min x y := fun _ _ => rfl
    simp only [Nat.add_zero] at hst
    simp [Builtin.copy_, run_underlying hu, Builtin.lenOf, Builtin.firstCells, sizeOf, typeInfo, hq, hi, hl, hst, splice]
end
theorem step_copy_runI {P : Program} {w : World} {ops : Array Oper} {o : Oper} {a : Act} {K : Act → World → Prop} {Q : Exit → Act → World → Prop} {E : Prop}
    (hg : o.guard = none) (d x : Operand) (dT sT : TypeId) (hop : o.op = Op.call { callee := Callee.builtin Builtin.copy, args := #[d, x], argTypes := #[dT, sT] })
    (v u : Value) (hd : a.eval d = v) (hx : a.eval x = u) {n : Value} {w' : World} (hr : (Builtin.copy_ #[dT, sT] o.type #[v, u]).run P w = .ok n w') (hK : K (a.put o.dst n) w') :
    if Region.wanted o (yielded ops a.tmps) = true then Oper.wp P o a w K Q else E := by
  have hw : Region.wanted o (yielded ops a.tmps) = true := by simp [Region.wanted, hg]
  rw [if_pos hw]
  unfold Oper.wp
  simp [execOp, hop, resolve, invoke, builtin, hd, hx, hr, Result.andThen]
  exact hK
/-- fs with f put ahead of number i. -/
def insR {α : Type} (fs : List α) (i : Nat) (f : α) : List α := fs.take i ++ f :: fs.drop i
theorem insR_len {α : Type} (fs : List α) (i : Nat) (f : α) (h : i ≤ fs.length) : (insR fs i f).length = fs.length + 1 := by simp [insR]; omega
theorem insR_end {α : Type} (fs : List α) (f : α) : insR fs fs.length f = fs ++ [f] := by simp [insR]
theorem insR_map {α β : Type} (g : α → β) (fs : List α) (i : Nat) (f : α) : (insR fs i f).map g = insR (fs.map g) i (g f) := by simp [insR, List.map_take, List.map_drop]
section
variable {α : Type} [F : Flat α]
theorem flat_ins (fs : List α) (i : Nat) (f : α) : flat (insR fs i f) = flat (fs.take i) ++ (F.enc f ++ flat (fs.drop i)) := by
  unfold insR
  rw [flat_app]
  rfl
/-- The row behind something was put in, in place: the rest moved up, then the new one laid. -/
theorem splice_ins (L : List Value) (fs : List α) (f : α) (i : Nat) (hi : i ≤ fs.length) (hL : L.take (fs.length * F.k) = flat fs) (hl : (fs.length + 1) * F.k ≤ L.length) :
    (splice (splice L ((i + 1) * F.k) (flat (fs.drop i))) (i * F.k) (F.enc f)).take ((fs.length + 1) * F.k) = flat (insR fs i f) := by
  have hik : i * F.k ≤ fs.length * F.k := Nat.mul_le_mul_right _ hi
  have hfk : (fs.length + 1) * F.k = fs.length * F.k + F.k := by rw [Nat.add_mul]; omega
  have hik1 : (i + 1) * F.k = i * F.k + F.k := by rw [Nat.add_mul]; omega
  have h1 : L.take (i * F.k) = flat (fs.take i) := by
    rw [← flat_take, ← hL, List.take_take]
    congr 1; omega
  have hd : (flat (fs.drop i)).length = fs.length * F.k - i * F.k := by rw [flat_len, List.length_drop, Nat.sub_mul]
  have ht : (flat (fs.take i)).length = i * F.k := by rw [flat_len, List.length_take]; congr 1; omega
  have hf := F.len f
  rw [flat_ins]
  unfold splice
  have e1 : (L.take ((i + 1) * F.k) ++ (flat (fs.drop i) ++ L.drop ((i + 1) * F.k + (flat (fs.drop i)).length))).take (i * F.k) = flat (fs.take i) := by
    rw [List.take_append_of_le_length (by rw [List.length_take]; omega), List.take_take, ← h1]
    congr 1; omega
  have e2 : (L.take ((i + 1) * F.k) ++ (flat (fs.drop i) ++ L.drop ((i + 1) * F.k + (flat (fs.drop i)).length))).drop (i * F.k + (F.enc f).length) = flat (fs.drop i) ++ L.drop ((i + 1) * F.k + (flat (fs.drop i)).length) := by
    rw [hf, List.drop_append_of_le_length (by rw [List.length_take]; omega), List.drop_eq_nil_of_le (by rw [List.length_take]; omega)]
    rfl
  rw [e1, e2, ← List.append_assoc, ← List.append_assoc]
  rw [List.take_append_of_le_length (by rw [List.length_append, List.length_append, ht, hd, hf]; omega)]
  rw [List.take_of_length_le (by rw [List.length_append, List.length_append, ht, hd, hf]; omega), List.append_assoc]
/-- The row behind something was put into a new row. -/
theorem splice_new (Z : List Value) (fs : List α) (f : α) (i : Nat) (hi : i ≤ fs.length) :
    (splice (splice (flat (fs.take i) ++ Z) (i * F.k) (F.enc f)) ((i + 1) * F.k) (flat (fs.drop i))).take ((fs.length + 1) * F.k) = flat (insR fs i f) := by
  have hik : i * F.k ≤ fs.length * F.k := Nat.mul_le_mul_right _ hi
  have hfk : (fs.length + 1) * F.k = fs.length * F.k + F.k := by rw [Nat.add_mul]; omega
  have hik1 : (i + 1) * F.k = i * F.k + F.k := by rw [Nat.add_mul]; omega
  have hd : (flat (fs.drop i)).length = fs.length * F.k - i * F.k := by rw [flat_len, List.length_drop, Nat.sub_mul]
  have ht : (flat (fs.take i)).length = i * F.k := by rw [flat_len, List.length_take]; congr 1; omega
  have hf := F.len f
  rw [flat_ins]
  unfold splice
  rw [List.take_append_of_le_length (l₁ := flat (fs.take i)) (by omega), List.take_of_length_le (l := flat (fs.take i)) (by omega)]
  have e1 : (flat (fs.take i) ++ (F.enc f ++ (flat (fs.take i) ++ Z).drop (i * F.k + (F.enc f).length))).take ((i + 1) * F.k) = flat (fs.take i) ++ F.enc f := by
    rw [← List.append_assoc, List.take_append_of_le_length (by rw [List.length_append, ht, hf]; omega), List.take_of_length_le (by rw [List.length_append, ht, hf]; omega)]
  rw [e1, ← List.append_assoc]
  rw [List.take_append_of_le_length (by rw [List.length_append, List.length_append, ht, hd, hf]; omega)]
  rw [List.take_of_length_le (by rw [List.length_append, List.length_append, ht, hd, hf]; omega), List.append_assoc]
theorem Own.forms {w : World} {base : Nat} {e : TypeId} {v : Value} {fs : List α} (h : Own w base e v fs) : (v = .slice none 0 0 ∧ fs = []) ∨ ∃ g cap, v = .slice (some ⟨g, 0, none⟩) fs.length cap ∧ base ≤ g ∧ g < w.heap.size ∧ fs.length ≤ cap ∧ cap ≤ maxLen := by
  rcases h.2 with ⟨h1, h0⟩ | ⟨g, cap, cur, rfl, hb, hg, h1, h2, h3, h4⟩
  · exact .inl ⟨h1, List.eq_nil_of_length_eq_zero h0⟩
  · exact .inr ⟨g, cap, rfl, hb, (Array.getElem?_eq_some_iff.1 hg).1, h1, h2⟩
end
end Rw
end Go.Proofs.YthbmnkeigmbbdaaGreat
