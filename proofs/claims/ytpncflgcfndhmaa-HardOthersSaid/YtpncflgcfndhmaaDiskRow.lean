/-
  ROWS OF THREE CELLS A FILE, as lists of cells: copy, clear, append in place; a file put in, a file taken out.
-/
import Derived.Test.YtpncflgcfndhmaaDiskInsert
import Derived.Laws.CopyOwn
import Derived.Lib.AppendZerosOnto
import Derived.Lib.Overlaps
import Derived.Shelf.Spec.SlicesInsert
namespace Go.Proofs.Ytpncflgcfndhmaa
open Go.RowKit Go.Lib Go.Sort
namespace Dk
section
variable {P : Program}
theorem run_copy3 (w : World) (dT sT ty elem : TypeId) (g o dLen dCap : Nat) (a : Addr) (sLen sCap : Nat) (cur : List Value) (t : TypeId) (cs : List Value)
    (hu : P.underlying dT = some (.slice elem)) (hs : (P.info? elem).map (·.size) = some 3)
    (hg : w.heap[g]? = some (.cells cur.toArray t (0, 0))) (hn : cs.length = Nat.min sLen dLen * 3)
    (hsrc : ∀ j v, cs[j]? = some v → w.cell? (a.add j) = some v) (hfit : o + cs.length ≤ cur.length) (h1 : ∀ v ∈ cs, v.oneCell' = true) :
    (Builtin.copy_ #[dT, sT] ty #[.slice (some ⟨g, o, none⟩) dLen dCap, .slice (some a) sLen sCap]).run P w =
      .ok (goInt (Nat.min sLen dLen : Nat)) (w.setRow g (splice cur o cs).toArray) := by
  have hl := run_loadCells_list (P := P) w a cs hsrc
  have hst := run_storeCells_at P g o t cs 0 cur.toArray w hg (by simpa using hfit) h1
  rw [hn] at hl
  cases hq : P.info? elem with
  | none => simp [hq] at hs
  | some i =>
    have hi : i.size = 3 := by simpa [hq] using hs
    have hm : ∀ x y : Nat, x.min y = min x y := fun _ _ => rfl
    simp only [Nat.add_zero] at hst
    simp [Builtin.copy_, run_underlying hu, Builtin.lenOf, Builtin.firstCells, sizeOf, typeInfo, hq, hi, hl, hst, splice]
theorem zeros3 (z0 z1 z2 : Value) : (Builtin.zeroCells #[z0, z1, z2] 1).toList = [z0, z1, z2] := by
  simp [Builtin.zeroCells, Array.range]
theorem run_clear3 (w : World) (t ty elem : TypeId) (z0 z1 z2 : Value) (g o c : Nat) (cur : List Value) (te : TypeId)
    (hu : P.underlying t = some (.slice elem)) (hz : (zeroValue elem).run P w = .ok (.agg #[z0, z1, z2]) w) (h1 : ∀ v ∈ [z0, z1, z2], v.oneCell' = true)
    (hg : w.heap[g]? = some (.cells cur.toArray te (0, 0))) (hfit : o + 3 ≤ cur.length) :
    (Builtin.clear_ #[t] ty #[.slice (some ⟨g, o, none⟩) 1 c]).run P w = .ok (.tuple #[]) (w.setRow g (splice cur o [z0, z1, z2]).toArray) := by
  have hst := run_storeCells_at P g o te [z0, z1, z2] 0 cur.toArray w hg (by simpa using hfit) h1
  have h3 := zeros3 z0 z1 z2
  simp only [Nat.add_zero] at hst
  simp [Builtin.clear_, run_underlying hu, hz, Value.cells, h3, hst, splice]
theorem run_append3 (w : World) (t ty e : TypeId) (i : TypeInfo) (ht : P.underlying t = some (.slice e)) (hi : P.info? e = some i) (hi3 : i.size = 3) (g n cap : Nat) (cur : List Value) (te : TypeId) (hg : w.heap[g]? = some (.cells cur.toArray te (0, 0)))
    (sp : Option Addr) (m sc : Nat) (cs : List Value) (hl : cs.length = m * 3) (hsrc : 0 < m → ∃ a, sp = some a ∧ ∀ j v, cs[j]? = some v → w.cell? (a.add j) = some v) (h1 : ∀ v ∈ cs, v.oneCell' = true) (hroom : n + m ≤ cap) (hfit : n * 3 + cs.length ≤ cur.length) :
    (Builtin.append_ #[t, t] ty #[.slice (some ⟨g, 0, none⟩) n cap, .slice sp m sc]).run P w = .ok (.slice (some ⟨g, 0, none⟩) (n + m) cap) (w.setRow g (splice cur (n * 3) cs).toArray) := by
  have hst := run_storeCells_at P g (n * 3) te cs 0 cur.toArray w hg (by simpa using hfit) h1
  simp only [Nat.add_zero] at hst
  have had : (⟨g, 0, none⟩ : Addr).add (n * 3) = ⟨g, n * 3, none⟩ := by rw [Addr.add_lit, Nat.zero_add]
  have hf : (Builtin.firstCells 3 m (.slice sp m sc)).run P w = .ok cs.toArray w := by
    by_cases hm : 0 < m
    · obtain ⟨a, rfl, hs⟩ := hsrc hm
      exact run_firstCells_some w 3 m a m sc cs hl hs
    · have e : cs = [] := List.eq_nil_of_length_eq_zero (by omega)
      obtain rfl : m = 0 := by omega
      subst e
      cases sp with
      | none => simp [Builtin.firstCells]
      | some a => simp [Builtin.firstCells, loadCells, loadCellsFrom]
  simp [Builtin.append_, run_underlying ht, sizeOf, typeInfo, hi, hi3, Builtin.lenOf, hroom, hf, had, hst, splice]
end
/-- fs with f put ahead of number i. -/
def insF (fs : List Fl) (i : Nat) (f : Fl) : List Fl := fs.take i ++ f :: fs.drop i
theorem insF_len (fs : List Fl) (i : Nat) (f : Fl) (h : i ≤ fs.length) : (insF fs i f).length = fs.length + 1 := by simp [insF]; omega
theorem flat_take (fs : List Fl) : ∀ i, (flat fs).take (i * 3) = flat (fs.take i) := by
  induction fs with
  | nil => intro i; simp [flat]
  | cons f r ih =>
    intro i
    cases i with
    | zero => simp [flat]
    | succ i =>
      have e : (i + 1) * 3 = i * 3 + 1 + 1 + 1 := by omega
      simp only [List.take_succ_cons, flat, encF, e, List.cons_append, List.nil_append, ih i]
theorem flat_drop (fs : List Fl) : ∀ i, (flat fs).drop (i * 3) = flat (fs.drop i) := by
  induction fs with
  | nil => intro i; simp [flat]
  | cons f r ih =>
    intro i
    cases i with
    | zero => simp
    | succ i =>
      have e : (i + 1) * 3 = i * 3 + 1 + 1 + 1 := by omega
      simp only [List.drop_succ_cons, flat, encF, e, List.cons_append, List.nil_append, ih i]
theorem flat_ins (fs : List Fl) (i : Nat) (f : Fl) : flat (insF fs i f) = flat (fs.take i) ++ (encF f ++ flat (fs.drop i)) := by
  unfold insF
  rw [flat_app]
  rfl
/-- The row behind a file was put in, in place: the rest moved up, then the file laid. -/
theorem splice_ins (L : List Value) (fs : List Fl) (f : Fl) (i : Nat) (hi : i ≤ fs.length) (hL : L.take (fs.length * 3) = flat fs) (hl : (fs.length + 1) * 3 ≤ L.length) :
    (splice (splice L ((i + 1) * 3) (flat (fs.drop i))) (i * 3) (encF f)).take ((fs.length + 1) * 3) = flat (insF fs i f) := by
  have h1 : L.take (i * 3) = flat (fs.take i) := by
    rw [← flat_take, ← hL, List.take_take]
    congr 1; omega
  have hd : (flat (fs.drop i)).length = (fs.length - i) * 3 := by rw [flat_len, List.length_drop]
  have ht : (flat (fs.take i)).length = i * 3 := by rw [flat_len, List.length_take]; congr 1; omega
  rw [flat_ins]
  unfold splice
  have e1 : (L.take ((i + 1) * 3) ++ (flat (fs.drop i) ++ L.drop ((i + 1) * 3 + (flat (fs.drop i)).length))).take (i * 3) = flat (fs.take i) := by
    rw [List.take_append_of_le_length (by rw [List.length_take]; omega), List.take_take, ← h1]
    congr 1; omega
  have e2 : (L.take ((i + 1) * 3) ++ (flat (fs.drop i) ++ L.drop ((i + 1) * 3 + (flat (fs.drop i)).length))).drop (i * 3 + (encF f).length) = flat (fs.drop i) ++ L.drop ((i + 1) * 3 + (flat (fs.drop i)).length) := by
    rw [encF_len, List.drop_append_of_le_length (by rw [List.length_take]; omega), List.drop_eq_nil_of_le (by rw [List.length_take]; omega)]
    rfl
  rw [e1, e2, ← List.append_assoc, ← List.append_assoc]
  rw [List.take_append_of_le_length (by rw [List.length_append, List.length_append, ht, hd, encF_len]; omega)]
  rw [List.take_of_length_le (by rw [List.length_append, List.length_append, ht, hd, encF_len]; omega), List.append_assoc]
/-- The row behind a file was put into a new row. -/
theorem splice_new (Z : List Value) (fs : List Fl) (f : Fl) (i : Nat) (hi : i ≤ fs.length) :
    (splice (splice (flat (fs.take i) ++ Z) (i * 3) (encF f)) ((i + 1) * 3) (flat (fs.drop i))).take ((fs.length + 1) * 3) = flat (insF fs i f) := by
  have hd : (flat (fs.drop i)).length = (fs.length - i) * 3 := by rw [flat_len, List.length_drop]
  have ht : (flat (fs.take i)).length = i * 3 := by rw [flat_len, List.length_take]; congr 1; omega
  rw [flat_ins]
  unfold splice
  rw [List.take_append_of_le_length (l₁ := flat (fs.take i)) (by omega), List.take_of_length_le (l := flat (fs.take i)) (by omega)]
  have e1 : (flat (fs.take i) ++ (encF f ++ (flat (fs.take i) ++ Z).drop (i * 3 + (encF f).length))).take ((i + 1) * 3) = flat (fs.take i) ++ encF f := by
    rw [← List.append_assoc, List.take_append_of_le_length (by rw [List.length_append, ht, encF_len]; omega), List.take_of_length_le (by rw [List.length_append, ht, encF_len]; omega)]
  rw [e1, ← List.append_assoc]
  rw [List.take_append_of_le_length (by rw [List.length_append, List.length_append, ht, hd, encF_len]; omega)]
  rw [List.take_of_length_le (by rw [List.length_append, List.length_append, ht, hd, encF_len]; omega), List.append_assoc]
/-- The row behind a file was taken out. -/
theorem splice_del (L zs : List Value) (fs : List Fl) (i : Nat) (hi : i < fs.length) (hL : L.take (fs.length * 3) = flat fs) :
    (splice (splice L (i * 3) (flat (fs.drop (i + 1)))) ((fs.length - 1) * 3) zs).take ((fs.length - 1) * 3) = flat (fs.eraseIdx i) := by
  have hd : (flat (fs.drop (i + 1))).length = (fs.length - (i + 1)) * 3 := by rw [flat_len, List.length_drop]
  have h1 : L.take (i * 3) = flat (fs.take i) := by
    rw [← flat_take, ← hL, List.take_take]
    congr 1; omega
  have ht : (flat (fs.take i)).length = i * 3 := by rw [flat_len, List.length_take]; congr 1; omega
  rw [List.eraseIdx_eq_take_drop_succ, flat_app]
  unfold splice
  rw [h1]
  have e1 : (flat (fs.take i) ++ (flat (fs.drop (i + 1)) ++ L.drop (i * 3 + (flat (fs.drop (i + 1))).length))).take ((fs.length - 1) * 3) = flat (fs.take i) ++ flat (fs.drop (i + 1)) := by
    rw [← List.append_assoc, List.take_append_of_le_length (by rw [List.length_append, ht, hd]; omega), List.take_of_length_le (by rw [List.length_append, ht, hd]; omega)]
  rw [e1]
  rw [List.take_append_of_le_length (by rw [List.length_append, ht, hd]; omega), List.take_of_length_le (by rw [List.length_append, ht, hd]; omega)]
end Dk
end Go.Proofs.Ytpncflgcfndhmaa
