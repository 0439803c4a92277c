/-
  Merged: DiskRow, DiskIns, DiskDel, DiskPut, DiskTail.
-/
import Derived.Test.YtjgdmdgiicpemaaDiskInsert
import Derived.Laws.CopyOwn
import Derived.Lib.AppendZerosOnto
import Derived.Lib.Overlaps
import Derived.Shelf.Spec.SlicesInsert
import Derived.Deep.RegionLaw
import Derived.Laws.IdiomRangeMap
import Derived.Test.YtjgdmdgiicpemaaDkM
import Derived.Deep.RegionHeld3
/- ROWS OF THREE CELLS A FILE, as lists of cells: copy, clear, append in place; a file put in, a file taken out. -/
namespace Go.Proofs.Ytjgdmdgiicpemaa
open Go.RowKit Go.Lib Go.Sort
namespace Dk
section
variable {P : Program}
theorem run_copy3 (w : World) (dT sT ty elem : TypeId) (g o dLen dCap : Nat) (a : Addr) (sLen sCap : Nat) (cur : List Value) (t : TypeId) (cs : List Value)
    (hu : P.underlying dT = some (.slice elem)) (hs : (P.info? elem).map (·.size) = some 3)
    (hg : w.heap[g]? = some (.cells cur.toArray t (0, 0))) (hn : cs.length = Nat.min sLen dLen * 3)
    (hsrc : ∀ j v, cs[j]? = some v → w.cell? (a.add j) = some v) (hfit : o + cs.length ≤ cur.length) (h1 : ∀ v ∈ cs, v.oneCell' = true) :
    (Builtin.copy_ #[dT, sT] ty #[.slice (some ⟨g, o, none⟩) dLen dCap, .slice (some a) sLen sCap]).run P w =
      .ok (goInt (Nat.min sLen dLen : Nat)) (w.setRow g (splice cur o cs).toArray) := by
  have hl := run_loadCells_list (P := P) w a cs hsrc
  have hst := run_storeCells_at P g o t cs 0 cur.toArray w hg (by simpa using hfit) h1
  rw [hn] at hl
  cases hq : P.info? elem with
  | none => simp [hq] at hs
  | some i =>
    have hi : i.size = 3 := by simpa [hq] using hs
    have hm : ∀ x y : Nat, x.min y = min x y := fun _ _ => rfl
    simp only [Nat.add_zero] at hst
    simp [Builtin.copy_, run_underlying hu, Builtin.lenOf, Builtin.firstCells, sizeOf, typeInfo, hq, hi, hl, hst, splice]
theorem zeros3 (z0 z1 z2 : Value) : (Builtin.zeroCells #[z0, z1, z2] 1).toList = [z0, z1, z2] := by
  simp [Builtin.zeroCells, Array.range]
theorem run_clear3 (w : World) (t ty elem : TypeId) (z0 z1 z2 : Value) (g o c : Nat) (cur : List Value) (te : TypeId)
    (hu : P.underlying t = some (.slice elem)) (hz : (zeroValue elem).run P w = .ok (.agg #[z0, z1, z2]) w) (h1 : ∀ v ∈ [z0, z1, z2], v.oneCell' = true)
    (hg : w.heap[g]? = some (.cells cur.toArray te (0, 0))) (hfit : o + 3 ≤ cur.length) :
    (Builtin.clear_ #[t] ty #[.slice (some ⟨g, o, none⟩) 1 c]).run P w = .ok (.tuple #[]) (w.setRow g (splice cur o [z0, z1, z2]).toArray) := by
  have hst := run_storeCells_at P g o te [z0, z1, z2] 0 cur.toArray w hg (by simpa using hfit) h1
  have h3 := zeros3 z0 z1 z2
  simp only [Nat.add_zero] at hst
  simp [Builtin.clear_, run_underlying hu, hz, Value.cells, h3, hst, splice]
theorem run_append3 (w : World) (t ty e : TypeId) (i : TypeInfo) (ht : P.underlying t = some (.slice e)) (hi : P.info? e = some i) (hi3 : i.size = 3) (g n cap : Nat) (cur : List Value) (te : TypeId) (hg : w.heap[g]? = some (.cells cur.toArray te (0, 0)))
    (sp : Option Addr) (m sc : Nat) (cs : List Value) (hl : cs.length = m * 3) (hsrc : 0 < m → ∃ a, sp = some a ∧ ∀ j v, cs[j]? = some v → w.cell? (a.add j) = some v) (h1 : ∀ v ∈ cs, v.oneCell' = true) (hroom : n + m ≤ cap) (hfit : n * 3 + cs.length ≤ cur.length) :
    (Builtin.append_ #[t, t] ty #[.slice (some ⟨g, 0, none⟩) n cap, .slice sp m sc]).run P w = .ok (.slice (some ⟨g, 0, none⟩) (n + m) cap) (w.setRow g (splice cur (n * 3) cs).toArray) := by
  have hst := run_storeCells_at P g (n * 3) te cs 0 cur.toArray w hg (by simpa using hfit) h1
  simp only [Nat.add_zero] at hst
  have had : (⟨g, 0, none⟩ : Addr).add (n * 3) = ⟨g, n * 3, none⟩ := by rw [Addr.add_lit, Nat.zero_add]
  have hf : (Builtin.firstCells 3 m (.slice sp m sc)).run P w = .ok cs.toArray w := by
    by_cases hm : 0 < m
    · obtain ⟨a, rfl, hs⟩ := hsrc hm
      exact run_firstCells_some w 3 m a m sc cs hl hs
    · have e : cs = [] := List.eq_nil_of_length_eq_zero (by omega)
      obtain rfl : m = 0 := by omega
      subst e
      cases sp with
      | none => simp [Builtin.firstCells]
      | some a => simp [Builtin.firstCells, loadCells, loadCellsFrom]
  simp [Builtin.append_, run_underlying ht, sizeOf, typeInfo, hi, hi3, Builtin.lenOf, hroom, hf, had, hst, splice]
end
/-- fs with f put ahead of number i. -/
def insF (fs : List Fl) (i : Nat) (f : Fl) : List Fl := fs.take i ++ f :: fs.drop i
theorem insF_len (fs : List Fl) (i : Nat) (f : Fl) (h : i ≤ fs.length) : (insF fs i f).length = fs.length + 1 := by simp [insF]; omega
theorem flat_take (fs : List Fl) : ∀ i, (flat fs).take (i * 3) = flat (fs.take i) := by
  induction fs with
  | nil => intro i; simp [flat]
  | cons f r ih =>
    intro i
    cases i with
    | zero => simp [flat]
    | succ i =>
      have e : (i + 1) * 3 = i * 3 + 1 + 1 + 1 := by omega
      simp only [List.take_succ_cons, flat, encF, e, List.cons_append, List.nil_append, ih i]
theorem flat_drop (fs : List Fl) : ∀ i, (flat fs).drop (i * 3) = flat (fs.drop i) := by
  induction fs with
  | nil => intro i; simp [flat]
  | cons f r ih =>
    intro i
    cases i with
    | zero => simp
    | succ i =>
      have e : (i + 1) * 3 = i * 3 + 1 + 1 + 1 := by omega
      simp only [List.drop_succ_cons, flat, encF, e, List.cons_append, List.nil_append, ih i]
theorem flat_ins (fs : List Fl) (i : Nat) (f : Fl) : flat (insF fs i f) = flat (fs.take i) ++ (encF f ++ flat (fs.drop i)) := by
  unfold insF
  rw [flat_app]
  rfl
/-- The row behind a file was put in, in place: the rest moved up, then the file laid. -/
theorem splice_ins (L : List Value) (fs : List Fl) (f : Fl) (i : Nat) (hi : i ≤ fs.length) (hL : L.take (fs.length * 3) = flat fs) (hl : (fs.length + 1) * 3 ≤ L.length) :
    (splice (splice L ((i + 1) * 3) (flat (fs.drop i))) (i * 3) (encF f)).take ((fs.length + 1) * 3) = flat (insF fs i f) := by
  have h1 : L.take (i * 3) = flat (fs.take i) := by
    rw [← flat_take, ← hL, List.take_take]
    congr 1; omega
  have hd : (flat (fs.drop i)).length = (fs.length - i) * 3 := by rw [flat_len, List.length_drop]
  have ht : (flat (fs.take i)).length = i * 3 := by rw [flat_len, List.length_take]; congr 1; omega
  rw [flat_ins]
  unfold splice
  have e1 : (L.take ((i + 1) * 3) ++ (flat (fs.drop i) ++ L.drop ((i + 1) * 3 + (flat (fs.drop i)).length))).take (i * 3) = flat (fs.take i) := by
    rw [List.take_append_of_le_length (by rw [List.length_take]; omega), List.take_take, ← h1]
    congr 1; omega
  have e2 : (L.take ((i + 1) * 3) ++ (flat (fs.drop i) ++ L.drop ((i + 1) * 3 + (flat (fs.drop i)).length))).drop (i * 3 + (encF f).length) = flat (fs.drop i) ++ L.drop ((i + 1) * 3 + (flat (fs.drop i)).length) := by
    rw [encF_len, List.drop_append_of_le_length (by rw [List.length_take]; omega), List.drop_eq_nil_of_le (by rw [List.length_take]; omega)]
    rfl
  rw [e1, e2, ← List.append_assoc, ← List.append_assoc]
  rw [List.take_append_of_le_length (by rw [List.length_append, List.length_append, ht, hd, encF_len]; omega)]
  rw [List.take_of_length_le (by rw [List.length_append, List.length_append, ht, hd, encF_len]; omega), List.append_assoc]
/-- The row behind a file was put into a new row. -/
theorem splice_new (Z : List Value) (fs : List Fl) (f : Fl) (i : Nat) (hi : i ≤ fs.length) :
    (splice (splice (flat (fs.take i) ++ Z) (i * 3) (encF f)) ((i + 1) * 3) (flat (fs.drop i))).take ((fs.length + 1) * 3) = flat (insF fs i f) := by
  have hd : (flat (fs.drop i)).length = (fs.length - i) * 3 := by rw [flat_len, List.length_drop]
  have ht : (flat (fs.take i)).length = i * 3 := by rw [flat_len, List.length_take]; congr 1; omega
  rw [flat_ins]
  unfold splice
  rw [List.take_append_of_le_length (l₁ := flat (fs.take i)) (by omega), List.take_of_length_le (l := flat (fs.take i)) (by omega)]
  have e1 : (flat (fs.take i) ++ (encF f ++ (flat (fs.take i) ++ Z).drop (i * 3 + (encF f).length))).take ((i + 1) * 3) = flat (fs.take i) ++ encF f := by
    rw [← List.append_assoc, List.take_append_of_le_length (by rw [List.length_append, ht, encF_len]; omega), List.take_of_length_le (by rw [List.length_append, ht, encF_len]; omega)]
  rw [e1, ← List.append_assoc]
  rw [List.take_append_of_le_length (by rw [List.length_append, List.length_append, ht, hd, encF_len]; omega)]
  rw [List.take_of_length_le (by rw [List.length_append, List.length_append, ht, hd, encF_len]; omega), List.append_assoc]
/-- The row behind a file was taken out. -/
theorem splice_del (L zs : List Value) (fs : List Fl) (i : Nat) (hi : i < fs.length) (hL : L.take (fs.length * 3) = flat fs) :
    (splice (splice L (i * 3) (flat (fs.drop (i + 1)))) ((fs.length - 1) * 3) zs).take ((fs.length - 1) * 3) = flat (fs.eraseIdx i) := by
  have hd : (flat (fs.drop (i + 1))).length = (fs.length - (i + 1)) * 3 := by rw [flat_len, List.length_drop]
  have h1 : L.take (i * 3) = flat (fs.take i) := by
    rw [← flat_take, ← hL, List.take_take]
    congr 1; omega
  have ht : (flat (fs.take i)).length = i * 3 := by rw [flat_len, List.length_take]; congr 1; omega
  rw [List.eraseIdx_eq_take_drop_succ, flat_app]
  unfold splice
  rw [h1]
  have e1 : (flat (fs.take i) ++ (flat (fs.drop (i + 1)) ++ L.drop (i * 3 + (flat (fs.drop (i + 1))).length))).take ((fs.length - 1) * 3) = flat (fs.take i) ++ flat (fs.drop (i + 1)) := by
    rw [← List.append_assoc, List.take_append_of_le_length (by rw [List.length_append, ht, hd]; omega), List.take_of_length_le (by rw [List.length_append, ht, hd]; omega)]
  rw [e1]
  rw [List.take_append_of_le_length (by rw [List.length_append, ht, hd]; omega), List.take_of_length_le (by rw [List.length_append, ht, hd]; omega)]
end Dk
end Go.Proofs.Ytjgdmdgiicpemaa

/- slices.Insert: a file put ahead of another. -/
namespace Go.Proofs.Ytjgdmdgiicpemaa
open Go.RowKit Go.Lib Go.Sort
namespace Dk
theorem info3 : (Try.prog.info? 55).map (·.size) = some 3 := by kernel_rfl

set_option maxRecDepth 100000 in
set_option maxHeartbeats 4000000 in
theorem insert_room (g cap i g2 : Nat) (cur : List Value) (fs : List Fl) (f : Fl) (w : World) (hi : i < fs.length) (hg : w.heap[g]? = some (.cells cur.toArray 55 (0, 0))) (hcl : cur.length = cap * 3) (hL : cur.take (fs.length * 3) = flat fs)
    (hroom : fs.length + 1 ≤ cap) (hcm : cap ≤ maxLen) (hne : g2 ≠ g) (hg2 : w.heap[g2]? = some (.cells (encF f).toArray 55 (0, 0))) :
    Calls Try.prog 65 #[.slice (some ⟨g, 0, none⟩) fs.length cap, .int .i64 i, .slice (some ⟨g2, 0, none⟩) 1 1] w fun e w' =>
      e = .returned (.slice (some ⟨g, 0, none⟩) (fs.length + 1) cap) ∧ w' = (w.drew.setRow g (splice cur ((i + 1) * 3) (flat (fs.drop i))).toArray).setRow g (splice (splice cur ((i + 1) * 3) (flat (fs.drop i))) (i * 3) (encF f)).toArray := by
  have hov : ∀ off lb cb, (callFunc 71 #[.slice (some ⟨g2, 0, none⟩) 1 1, .slice (some ⟨g, off, none⟩) lb cb]).run Try.prog w = .ok (.value (.bool false)) w := fun off lb cb => by
    rw [run_callFunc_extern Try.func71 (by kernel_rfl) (by kernel_rfl) (by kernel_rfl) (e := Extern.SlicesOverlaps.overlaps #[25, 25] #[4]) (by kernel_rfl),
      Lib.run_overlaps_apart w 25 4 55 Try.underlying25 3 Try.sizeOf55 ⟨g2, 0, none⟩ ⟨g, off, none⟩ 1 1 lb cb hne 55 55 3 cur.length (by simp [World.shape?, hg2, encF]) (by simp [World.shape?, hg]) (by omega) (by simp [World.frozen?, hg2]) (by simp [World.frozen?, hg2])]
    rfl
  have hdl : (flat (fs.drop i)).length = (fs.length - i) * 3 := by rw [flat_len, List.length_drop]
  have hcp1 : (Builtin.copy_ #[25, 25] 3 #[.slice (some ⟨g, (i + 1) * 3, none⟩) (fs.length + 1 - (i + 1)) (cap - (i + 1)), .slice (some ⟨g, i * 3, none⟩) (fs.length + 1 - i) (cap - i)]).run Try.prog w.drew = .ok (goInt (Nat.min (fs.length + 1 - i) (fs.length + 1 - (i + 1)) : Nat)) (w.drew.setRow g (splice cur ((i + 1) * 3) (flat (fs.drop i))).toArray) :=
    run_copy3 w.drew _ _ _ 55 g ((i + 1) * 3) _ _ ⟨g, i * 3, none⟩ _ _ cur 55 (flat (fs.drop i)) Try.underlying25 info3 hg (by rw [hdl]; congr 1; simp only [Nat.min_def]; split <;> omega)
      (fun j v hj => by
        rw [Addr.add_lit]
        show w.cell? _ = _
        rw [cell_of_row w g (i * 3 + j) cur.toArray _ (0, 0) hg]
        rw [← flat_drop, List.getElem?_drop] at hj
        have hjl := (List.getElem?_eq_some_iff.1 hj).1
        rw [flat_len] at hjl
        rw [← hL, List.getElem?_take, if_pos hjl] at hj
        simpa using hj) (by rw [hdl, hcl]; omega) (flat_one _)
  have hW1 : (w.drew.setRow g (splice cur ((i + 1) * 3) (flat (fs.drop i))).toArray).heap[g]? = some (.cells (splice cur ((i + 1) * 3) (flat (fs.drop i))).toArray 55 (0, 0)) := setRow_heap w.drew g cur.toArray _ _ _ hg
  have hW2 : (w.drew.setRow g (splice cur ((i + 1) * 3) (flat (fs.drop i))).toArray).heap[g2]? = some (.cells (encF f).toArray 55 (0, 0)) := (setRow_other w.drew g g2 _ hne).trans hg2
  have hsl : (splice cur ((i + 1) * 3) (flat (fs.drop i))).length = cap * 3 := by rw [length_splice _ _ _ (by rw [hdl, hcl]; omega), hcl]
  generalize splice cur ((i + 1) * 3) (flat (fs.drop i)) = L1 at *
  have hcp2 : (Builtin.copy_ #[25, 25] 3 #[.slice (some ⟨g, i * 3, none⟩) (fs.length + 1 - i) (cap - i), .slice (some ⟨g2, 0, none⟩) 1 1]).run Try.prog (w.drew.setRow g L1.toArray) = .ok (goInt (Nat.min 1 (fs.length + 1 - i) : Nat)) ((w.drew.setRow g L1.toArray).setRow g (splice L1 (i * 3) (encF f)).toArray) :=
    run_copy3 _ _ _ _ 55 g (i * 3) _ _ ⟨g2, 0, none⟩ _ _ L1 55 (encF f) Try.underlying25 info3 hW1 (by rw [encF_len]; congr 1; simp only [Nat.min_def]; split <;> omega)
      (fun j v hj => by
        rw [Addr.add_lit, Nat.zero_add]
        rw [cell_of_row _ g2 j _ _ (0, 0) hW2]
        simpa using hj) (by rw [encF_len, hsl]; omega) (encF_one f)
  have hcm' : cap ≤ 9223372036854775807 := by simpa [maxLen] using hcm
  have hz2 : ¬ ((i : Int) = (fs.length : Int)) := by omega
  have hw1 : IntKind.i64.wrap ((i : Int) + 1) = (i : Int) + 1 := by rw [IntKind.wrap_i64]; omega
  have hw2 : IntKind.i64.wrap ((fs.length : Int) + 1) = (fs.length : Int) + 1 := by rw [IntKind.wrap_i64]; omega
  have hb1 : (0 : Int) ≤ (i : Int) + 1 := by omega
  have hb2 : ¬ (cap = i + 1) := by omega
  have hb3 : (i : Int) ≤ (fs.length : Int) + 1 := by omega
  have hb4 : ¬ (cap = i) := by omega
  have hb5 : ¬ ((cap : Int) < (fs.length : Int) + 1) := by omega
  have hb6 : (fs.length : Int) + 1 ≤ (cap : Int) := by omega
  have hb7 : (i : Int) ≤ (fs.length : Int) := by omega
  have hb8 : i ≤ fs.length := by omega
  have hb9 : decide ((cap : Int) < (fs.length : Int) + 1) = false := by simp; omega
  have hb10 : (i : Int) + 1 ≤ (fs.length : Int) + 1 := by omega
  have htn : ((i : Int) + 1).toNat = i + 1 := by omega
  have htn2 : ((fs.length : Int) + 1).toNat = fs.length + 1 := by omega
  go_enter Try.func65, Try.ntmps65
  go_wp2_with (simp only [hov])
  have HC2 := Lib.hid hcp2
  have HC1 := Lib.hid hcp1
  clear hcp1 hcp2 hL hg hg2 hov hW1 hW2
  go_region_law (refine step_copy_runI rfl _ _ 25 25 rfl (.slice (some ⟨g, (i + 1) * 3, none⟩) (fs.length + 1 - (i + 1)) (cap - (i + 1))) (.slice (some ⟨g, i * 3, none⟩) (fs.length + 1 - i) (cap - i)) (by simp [Act.eval, Act.put]) (by simp [Act.eval, Act.put]) HC1.out ?_)
  all_goals have hcp3 := HC2.out
  all_goals go_wp2
  all_goals go_ret
  all_goals exact ⟨rfl, rfl⟩

theorem zero3_len (k : Nat) : (Builtin.zeroCells (Value.agg #[.string ByteArray.empty, .string ByteArray.empty, .int .i64 0]).cells k).size = k * 3 := by simp [Builtin.zeroCells, Value.cells]

set_option maxRecDepth 100000 in
set_option maxHeartbeats 4000000 in
theorem insert_grow (g cap i g2 : Nat) (cur : List Value) (fs : List Fl) (f : Fl) (w : World) (hi : i < fs.length) (h4 : fs.length ≤ 4096) (hg : w.heap[g]? = some (.cells cur.toArray 55 (0, 0))) (hL : cur.take (fs.length * 3) = flat fs)
    (hnc : fs.length ≤ cap) (hroom : ¬ (fs.length + 1 ≤ cap)) (hg2 : w.heap[g2]? = some (.cells (encF f).toArray 55 (0, 0))) :
    Calls Try.prog 65 #[.slice (some ⟨g, 0, none⟩) fs.length cap, .int .i64 i, .slice (some ⟨g2, 0, none⟩) 1 1] w fun e w' =>
      ∃ v', e = .returned v' ∧ Own w' w.heap.size v' (insF fs i f) ∧ w.grownBy w' none := by
  obtain ⟨i0, hi0, hz0, hz1, hz2⟩ := info_parts info_file
  have hgw : g < w.heap.size := (Array.getElem?_eq_some_iff.1 hg).1
  have hg2w : g2 < w.heap.size := (Array.getElem?_eq_some_iff.1 hg2).1
  have ht : (flat (fs.take i)).length = i * 3 := by rw [flat_len, List.length_take]; congr 1; omega
  have hold : (Builtin.firstCells i0.size i (.slice (some ⟨g, 0, none⟩) i cap)).run Try.prog w.drew = .ok (flat (fs.take i)).toArray w.drew := by
    rw [hz1]
    refine run_firstCells_some w.drew 3 i ⟨g, 0, none⟩ i cap (flat (fs.take i)) ht (fun j v hj => ?_)
    rw [Addr.add_lit, Nat.zero_add]
    show w.cell? _ = _
    rw [cell_of_row w g j cur.toArray _ (0, 0) hg]
    rw [← flat_take, List.getElem?_take] at hj
    split at hj
    · have hjl := (List.getElem?_eq_some_iff.1 hj).1
      rw [flat_len] at hjl
      rw [← hL, List.getElem?_take, if_pos hjl] at hj
      simpa using hj
    · cases hj
  have hik : i + (fs.length + 1 - i) = fs.length + 1 := by omega
  have hkk : (fs.length : Int) + 1 - (i : Int) = ((fs.length + 1 - i : Nat) : Int) := by omega
  have hrz := Lib.run_append_grow_zeros (P := Try.prog) w 25 3 25 55 i0 _ .i64 .i64 Try.underlying25 Try.underlying3 hi0 hz0 (some ⟨g, 0, none⟩) i cap (flat (fs.take i)) hold (fs.length + 1 - i) (by omega) (by rw [hz1]; omega) (by omega) (by omega) (by rw [hz2]; omega) (by rw [hz2, hik]; exact growslice_fits (by omega) (by omega))
  rw [hik] at hrz
  have hGn := grownCap_ge w (fs.length + 1) cap 55
  have hGm := grownCap_le_maxLen w (fs.length + 1) cap 55 (by unfold maxLen; omega)
  generalize grownCap w (fs.length + 1) cap 55 = G at *
  obtain ⟨Z, hZ, hZl⟩ : ∃ Z : List Value, (flat (fs.take i)).toArray ++ Builtin.zeroCells (Value.agg #[.string ByteArray.empty, .string ByteArray.empty, .int .i64 0]).cells (fs.length + 1 - i) ++ Builtin.zeroCells (Value.agg #[.string ByteArray.empty, .string ByteArray.empty, .int .i64 0]).cells (G - (fs.length + 1)) = (flat (fs.take i) ++ Z).toArray ∧ Z.length = (G - i) * 3 := by
    refine ⟨(Builtin.zeroCells (Value.agg #[.string ByteArray.empty, .string ByteArray.empty, .int .i64 0]).cells (fs.length + 1 - i) ++ Builtin.zeroCells (Value.agg #[.string ByteArray.empty, .string ByteArray.empty, .int .i64 0]).cells (G - (fs.length + 1))).toList, ?_, ?_⟩
    · apply Array.ext'; simp
    · simp only [Array.toList_append, List.length_append, Array.length_toList, zero3_len]; omega
  rw [hZ] at hrz
  clear hZ hold
  have hGm' : G ≤ 9223372036854775807 := by simpa [maxLen] using hGm
  have hz2' : ¬ ((i : Int) = (fs.length : Int)) := by omega
  have hw1 : IntKind.i64.wrap ((i : Int) + 1) = (i : Int) + 1 := by rw [IntKind.wrap_i64]; omega
  have hw2 : IntKind.i64.wrap ((fs.length : Int) + 1) = (fs.length : Int) + 1 := by rw [IntKind.wrap_i64]; omega
  have hw3 : IntKind.i64.wrap ((fs.length : Int) + 1 - (i : Int)) = ((fs.length + 1 - i : Nat) : Int) := by rw [IntKind.wrap_i64]; omega
  have hb1 : (0 : Int) ≤ (i : Int) + 1 := by omega
  have hb2 : ¬ (G = i + 1) := by omega
  have hb3 : (i : Int) ≤ (fs.length : Int) + 1 := by omega
  have hb4 : ¬ (G = i) := by omega
  have hb5 : (cap : Int) < (fs.length : Int) + 1 := by omega
  have hb7 : (i : Int) ≤ (fs.length : Int) := by omega
  have hb8 : i ≤ fs.length := by omega
  have hb9 : ¬ (cap = i) := by omega
  have hb10 : (i : Int) + 1 ≤ (fs.length : Int) + 1 := by omega
  have hb11 : (i : Int) ≤ (cap : Int) := by omega
  have htn : ((i : Int) + 1).toNat = i + 1 := by omega
  have htn2 : ((fs.length : Int) + 1).toNat = fs.length + 1 := by omega
  go_enter Try.func65, Try.ntmps65
  obtain ⟨R, hR⟩ : ∃ R, R = flat (fs.take i) ++ Z := ⟨_, rfl⟩
  rw [← hR] at hrz
  have hRl : R.length = G * 3 := by rw [hR, List.length_append, ht, hZl]; omega
  have hR1 : (w.alloc (.cells R.toArray 55)).drew.heap[w.heap.size]? = some (.cells R.toArray 55 (0, 0)) := heap_alloc_new w _
  have hg2' : (w.alloc (.cells R.toArray 55)).drew.heap[g2]? = some (.cells (encF f).toArray 55 (0, 0)) := by rw [← hg2]; exact Go.heap_alloc_old w _ hg2w
  have hg' : (w.alloc (.cells R.toArray 55)).drew.heap[g]? = some (.cells cur.toArray 55 (0, 0)) := by rw [← hg]; exact Go.heap_alloc_old w _ hgw
  have hcpA : (Builtin.copy_ #[25, 25] 3 #[.slice (some ⟨w.heap.size, i * 3, none⟩) (fs.length + 1 - i) (G - i), .slice (some ⟨g2, 0, none⟩) 1 1]).run Try.prog (w.alloc (.cells R.toArray 55)).drew = .ok (goInt (Nat.min 1 (fs.length + 1 - i) : Nat)) ((w.alloc (.cells R.toArray 55)).drew.setRow w.heap.size (splice R (i * 3) (encF f)).toArray) :=
    run_copy3 _ _ _ _ 55 w.heap.size (i * 3) _ _ ⟨g2, 0, none⟩ _ _ R 55 (encF f) Try.underlying25 info3 hR1 (by rw [encF_len]; congr 1; simp only [Nat.min_def]; split <;> omega)
      (fun j v hj => by
        rw [Addr.add_lit, Nat.zero_add]
        rw [cell_of_row _ g2 j _ _ (0, 0) hg2']
        simpa using hj) (by rw [encF_len, hRl]; omega) (encF_one f)
  have hdl : (flat (fs.drop i)).length = (fs.length - i) * 3 := by rw [flat_len, List.length_drop]
  have hsl : (splice R (i * 3) (encF f)).length = G * 3 := by rw [length_splice _ _ _ (by rw [encF_len, hRl]; omega), hRl]
  have hfin := splice_new Z fs f i hb8
  rw [← hR] at hfin
  have hR2 := setRow_heap (w.alloc (.cells R.toArray 55)).drew w.heap.size R.toArray (splice R (i * 3) (encF f)).toArray _ _ hR1
  have hg3 : ((w.alloc (.cells R.toArray 55)).drew.setRow w.heap.size (splice R (i * 3) (encF f)).toArray).heap[g]? = some (.cells cur.toArray 55 (0, 0)) := (setRow_other _ w.heap.size g _ (by omega)).trans hg'
  generalize splice R (i * 3) (encF f) = L1 at *
  have hcpB : (Builtin.copy_ #[25, 25] 3 #[.slice (some ⟨w.heap.size, (i + 1) * 3, none⟩) (fs.length + 1 - (i + 1)) (G - (i + 1)), .slice (some ⟨g, i * 3, none⟩) (fs.length - i) (cap - i)]).run Try.prog ((w.alloc (.cells R.toArray 55)).drew.setRow w.heap.size L1.toArray).drew = .ok (goInt (Nat.min (fs.length - i) (fs.length + 1 - (i + 1)) : Nat)) (((w.alloc (.cells R.toArray 55)).drew.setRow w.heap.size L1.toArray).drew.setRow w.heap.size (splice L1 ((i + 1) * 3) (flat (fs.drop i))).toArray) :=
    run_copy3 _ _ _ _ 55 w.heap.size ((i + 1) * 3) _ _ ⟨g, i * 3, none⟩ _ _ L1 55 (flat (fs.drop i)) Try.underlying25 info3 hR2 (by rw [hdl]; congr 1; simp only [Nat.min_def]; split <;> omega)
      (fun j v hj => by
        rw [Addr.add_lit]
        show ((w.alloc (.cells R.toArray 55)).drew.setRow w.heap.size L1.toArray).cell? _ = _
        rw [cell_of_row _ g (i * 3 + j) cur.toArray _ (0, 0) hg3]
        rw [← flat_drop, List.getElem?_drop] at hj
        have hjl := (List.getElem?_eq_some_iff.1 hj).1
        rw [flat_len] at hjl
        rw [← hL, List.getElem?_take, if_pos hjl] at hj
        simpa using hj) (by rw [hdl, hsl]; omega) (flat_one _)
  have hsl2 : (splice L1 ((i + 1) * 3) (flat (fs.drop i))).length = G * 3 := by rw [length_splice _ _ _ (by rw [hdl, hsl]; omega), hsl]
  have hR3 := setRow_heap ((w.alloc (.cells R.toArray 55)).drew.setRow w.heap.size L1.toArray).drew w.heap.size L1.toArray (splice L1 ((i + 1) * 3) (flat (fs.drop i))).toArray _ _ hR2
  generalize splice L1 ((i + 1) * 3) (flat (fs.drop i)) = L2 at *
  have HFIN : Hid (Own (((w.alloc (.cells R.toArray 55)).drew.setRow w.heap.size L1.toArray).drew.setRow w.heap.size L2.toArray) w.heap.size (.slice (some ⟨w.heap.size, 0, none⟩) (fs.length + 1) G) (insF fs i f) ∧ w.grownBy (((w.alloc (.cells R.toArray 55)).drew.setRow w.heap.size L1.toArray).drew.setRow w.heap.size L2.toArray) none) := by
    refine ⟨?_, ⟨rfl, rfl, rfl, by simp [World.setRow], fun k hk _ => ?_⟩⟩
    · unfold Own
      rw [insF_len fs i f hb8]
      refine ⟨by rw [flat_len, insF_len fs i f hb8], .inr ⟨w.heap.size, G, L2.toArray, rfl, Nat.le_refl _, hR3, hGn, hGm, by simpa using hsl2, ?_⟩⟩
      rw [← hfin]
    · rw [setRow_other _ w.heap.size k _ (by omega)]
      show ((w.alloc (.cells R.toArray 55)).drew.setRow w.heap.size L1.toArray).heap[k]? = _
      rw [setRow_other _ w.heap.size k _ (by omega)]
      exact Go.heap_alloc_old w _ hk
  have HRZ := Lib.hid hrz
  have HCB := Lib.hid hcpB
  clear hrz hfin hR1 hR2 hR3 hg' hg3 hg2' hcpB hL hg hg2 hR
  go_wp2_with (at_builtin; go_loud (refine Lib.wpList_append_run _ rfl _ _ _ _ rfl _ _ rfl rfl _ _ HRZ.out ?_))
  go_region_law (refine step_copy_runI rfl _ _ 25 25 rfl (.slice (some ⟨w.heap.size, (i + 1) * 3, none⟩) (fs.length + 1 - (i + 1)) (G - (i + 1))) (.slice (some ⟨g, i * 3, none⟩) (fs.length - i) (cap - i)) (by simp [Act.eval, Act.put]) (by simp [Act.eval, Act.put]) HCB.out ?_)
  all_goals go_wp2
  all_goals go_ret
  all_goals exact ⟨_, rfl, HFIN.out.1, HFIN.out.2⟩

/-- slices.Insert, wherever the file is to stand. -/
theorem insert_any (v : Value) (fs : List Fl) (f : Fl) (i g2 base : Nat) (w : World) (hbs : base ≤ w.heap.size) (ho : Own w base v fs) (h4 : fs.length ≤ 4096) (hi : i ≤ fs.length)
    (hg2 : w.heap[g2]? = some (.cells (encF f).toArray 55 (0, 0))) (hne : v.ownBlock ≠ some g2) :
    Calls Try.prog 65 #[v, .int .i64 i, .slice (some ⟨g2, 0, none⟩) 1 1] w fun e w' => ∃ v', e = .returned v' ∧ Own w' base v' (insF fs i f) ∧ w.grownBy w' v.ownBlock := by
  by_cases hl : i = fs.length
  · subst hl
    have := insert_end v fs f g2 base w hbs ho h4 (fun j u hu => by
      rw [cell_of_row w g2 j _ _ (0, 0) hg2]
      simpa using hu)
    rw [show insF fs fs.length f = fs ++ [f] by simp [insF]]
    exact this
  · have hlt : i < fs.length := by omega
    rcases ho.2 with ⟨_, h0⟩ | ⟨g, cap, cur, rfl, hbg, hg, hnc, hcm, hcs, hL⟩
    · omega
    · have hne2 : g2 ≠ g := fun e => hne (by rw [e]; rfl)
      by_cases hroom : fs.length + 1 ≤ cap
      · have hdl : (flat (fs.drop i)).length = (fs.length - i) * 3 := by rw [flat_len, List.length_drop]
        have hcl : cur.toList.length = cap * 3 := by rw [Array.length_toList, hcs]
        refine (insert_room g cap i g2 cur.toList fs f w hlt (by simpa using hg) (by simpa using hcs) hL hroom hcm hne2 hg2).mono ?_
        rintro e w' ⟨rfl, rfl⟩
        refine ⟨_, rfl, ?_, ⟨rfl, rfl, rfl, by simp [World.setRow], fun k _ hk => ?_⟩⟩
        · unfold Own
          rw [insF_len fs i f hi]
          refine ⟨by rw [flat_len, insF_len fs i f hi], .inr ⟨g, cap, _, rfl, hbg, setRow_heap _ g _ _ _ _ (setRow_heap w.drew g cur _ _ _ hg), hroom, hcm, ?_, ?_⟩⟩
          · rw [List.size_toArray, length_splice _ _ _ (by rw [encF_len, length_splice _ _ _ (by rw [hdl, hcl]; omega), hcl]; omega), length_splice _ _ _ (by rw [hdl, hcl]; omega), hcl]
          · exact splice_ins cur.toList fs f i hi hL (by rw [hcl]; omega)
        · have hkg : k ≠ g := fun e => hk (by rw [e]; rfl)
          rw [setRow_other _ g k _ hkg, setRow_other _ g k _ hkg]
          rfl
      · refine (insert_grow g cap i g2 cur.toList fs f w hlt h4 (by simpa using hg) hL hnc hroom hg2).mono ?_
        rintro e w' ⟨v', rfl, h1, h2⟩
        exact ⟨v', rfl, h1.le hbs, ⟨h2.os, h2.tape, h2.output, h2.size, fun k hk _ => h2.block k hk (by simp)⟩⟩
end Dk
end Go.Proofs.Ytjgdmdgiicpemaa

/- slices.Delete: a file taken out. -/
namespace Go.Proofs.Ytjgdmdgiicpemaa
open Go.RowKit Go.Lib Go.Sort
namespace Dk
theorem step_append_runI {P : Program} {w : World} {ops : Array Oper} {o : Oper} {a : Act} {K : Act → World → Prop} {Q : Exit → Act → World → Prop} {E : Prop}
    (hg : o.guard = none) (d x : Operand) (dT sT : TypeId) (hop : o.op = Op.call { callee := Callee.builtin Builtin.append, args := #[d, x], argTypes := #[dT, sT] })
    (v u : Value) (hd : a.eval d = v) (hx : a.eval x = u) {v' : Value} {w' : World} (hr : (Builtin.append_ #[dT, sT] o.type #[v, u]).run P w = .ok v' w') (hK : K (a.put o.dst v') w') :
    if Region.wanted o (yielded ops a.tmps) = true then Oper.wp P o a w K Q else E := by
  have hw : Region.wanted o (yielded ops a.tmps) = true := by simp [Region.wanted, hg]
  rw [if_pos hw]
  unfold Oper.wp
  simp [execOp, hop, resolve, invoke, builtin, hd, hx, hr, Result.andThen]
  exact hK

set_option maxRecDepth 100000 in
set_option maxHeartbeats 4000000 in
theorem delete_own (v : Value) (fs : List Fl) (i base : Nat) (w : World) (ho : Own w base v fs) (h4 : fs.length ≤ 4096) (hi : i < fs.length) :
    Calls Try.prog 67 #[v, .int .i64 i, .int .i64 ((i : Int) + 1)] w fun e w' => ∃ v', e = .returned v' ∧ Own w' base v' (fs.eraseIdx i) ∧ w.grownBy w' v.ownBlock := by
  rcases ho.2 with ⟨_, h0⟩ | ⟨g, cap, cur, rfl, hbg, hg, hnc, hcm, hcs, hL⟩
  · omega
  · obtain ⟨i0, hi0, hz0, hz1, hz2⟩ := info_parts info_file
    have hcl : cur.toList.length = cap * 3 := by rw [Array.length_toList, hcs]
    have hg : w.heap[g]? = some (.cells cur.toList.toArray 55 (0, 0)) := by simpa using hg
    generalize cur.toList = L at *
    have hdl : (flat (fs.drop (i + 1))).length = (fs.length - (i + 1)) * 3 := by rw [flat_len, List.length_drop]
    have hcm' : cap ≤ 9223372036854775807 := by simpa [maxLen] using hcm
    have hw0 : ∀ sp sc, (i + 1 < fs.length → sp = some ⟨g, (i + 1) * 3, none⟩) → (Builtin.append_ #[25, 25] 25 #[.slice (some ⟨g, 0, none⟩) i cap, .slice sp (fs.length - (i + 1)) sc]).run Try.prog w.drew = .ok (.slice (some ⟨g, 0, none⟩) (i + (fs.length - (i + 1))) cap) (w.drew.setRow g (splice L (i * 3) (flat (fs.drop (i + 1)))).toArray) := by
      intro sp sc hsp
      refine run_append3 w.drew _ _ 55 i0 Try.underlying25 hi0 hz1 g i cap L 55 hg sp (fs.length - (i + 1)) sc (flat (fs.drop (i + 1))) hdl (fun hp => ⟨_, hsp (by omega), fun j v hj => ?_⟩) (flat_one _) (by omega) (by rw [hdl, hcl]; omega)
      rw [Addr.add_lit]
      show w.cell? _ = _
      rw [cell_of_row w g ((i + 1) * 3 + j) L.toArray _ (0, 0) hg]
      rw [← flat_drop, List.getElem?_drop] at hj
      have hjl := (List.getElem?_eq_some_iff.1 hj).1
      rw [flat_len] at hjl
      rw [← hL, List.getElem?_take, if_pos hjl] at hj
      simpa using hj
    rw [show i + (fs.length - (i + 1)) = fs.length - 1 by omega] at hw0
    have hz3 : ∀ w, (zeroValue 55).run Try.prog w = .ok (.agg #[.string ByteArray.empty, .string ByteArray.empty, .int .i64 0]) w := by
      intro w
      simp [zeroValue, typeInfo, hi0, hz0]
    have hL1 := setRow_heap w.drew g L.toArray (splice L (i * 3) (flat (fs.drop (i + 1)))).toArray _ _ hg
    have hsl : (splice L (i * 3) (flat (fs.drop (i + 1)))).length = cap * 3 := by rw [length_splice _ _ _ (by rw [hdl, hcl]; omega), hcl]
    have hfin := splice_del L [.string ByteArray.empty, .string ByteArray.empty, .int .i64 0] fs i hi hL
    generalize splice L (i * 3) (flat (fs.drop (i + 1))) = L1 at *
    have hclr : ∀ m c, m = 1 → (Builtin.clear_ #[25] 0 #[.slice (some ⟨g, (fs.length - 1) * 3, none⟩) m c]).run Try.prog (w.drew.setRow g L1.toArray) = .ok (.tuple #[]) ((w.drew.setRow g L1.toArray).setRow g (splice L1 ((fs.length - 1) * 3) [.string ByteArray.empty, .string ByteArray.empty, .int .i64 0]).toArray) := fun m c hm => by
      subst hm
      exact run_clear3 _ _ _ 55 _ _ _ g _ c L1 55 Try.underlying25 (hz3 _) (by intro v hv; simp at hv; rcases hv with rfl | rfl <;> rfl) hL1 (by rw [hsl]; omega)
    have hw1 : IntKind.i64.wrap ((i : Int) + 1) = (i : Int) + 1 := by rw [IntKind.wrap_i64]; omega
    have ht0 : (i : Int) + 1 ≤ (fs.length : Int) := by omega
    have ht1 : (0 : Int) ≤ (i : Int) + 1 := by omega
    have ht2 : (i : Int) ≤ (i : Int) + 1 := by omega
    have ht3 : ((i : Int) + 1).toNat = i + 1 := by omega
    have ht4 : ¬ ((i : Int) = (i : Int) + 1) := by omega
    have ht5 : (fs.length : Int) ≤ (cap : Int) := by omega
    have ht6 : (i : Int) ≤ (fs.length : Int) := by omega
    have ht7 : (i : Int) ≤ (cap : Int) := by omega
    have hnf : ¬ (fs.length = i) := by omega
    have hnc2 : ¬ (cap = i) := by omega
    go_enter Try.func67, Try.ntmps67
    go_wp2
    have HW0 := Lib.hid hw0
    have HCL := Lib.hid hclr
    have HFIN : Hid (Own ((w.drew.setRow g L1.toArray).setRow g (splice L1 ((fs.length - 1) * 3) [.string ByteArray.empty, .string ByteArray.empty, .int .i64 0]).toArray) base (.slice (some ⟨g, 0, none⟩) (fs.length - 1) cap) (fs.eraseIdx i) ∧ w.grownBy ((w.drew.setRow g L1.toArray).setRow g (splice L1 ((fs.length - 1) * 3) [.string ByteArray.empty, .string ByteArray.empty, .int .i64 0]).toArray) (some g)) := by
      have hel : (fs.eraseIdx i).length = fs.length - 1 := by rw [List.length_eraseIdx_of_lt hi]
      refine ⟨?_, ⟨rfl, rfl, rfl, by simp [World.setRow], fun k _ hk => ?_⟩⟩
      · unfold Own
        rw [hel]
        refine ⟨by rw [flat_len, hel], .inr ⟨g, cap, _, rfl, hbg, setRow_heap _ g _ _ _ _ hL1, by omega, hcm, ?_, ?_⟩⟩
        · rw [List.size_toArray, length_splice _ _ _ (by rw [hsl]; simp; omega), hsl]
        · exact hfin
      · have hkg : k ≠ g := fun e => hk (by rw [e])
        rw [setRow_other _ g k _ hkg, setRow_other _ g k _ hkg]
        rfl
    clear hclr hw0 hfin hL1 hg ho hz3
    by_cases hce : cap = i + 1
    · subst hce
      have hfi : fs.length = i + 1 := by omega
      go_region_law (refine step_append_runI rfl _ _ 25 25 rfl (.slice (some ⟨g, 0, none⟩) i (i + 1)) (.slice (some ⟨g, 0, none⟩) (fs.length - (i + 1)) 0) (by simp [Act.eval, Act.put]) (by simp [Act.eval, Act.put]; omega) (HW0.out _ _ (fun h => absurd h (by omega))) ?_)
      have h7 := HCL.out 1 1 rfl
      rw [hfi] at h7 HFIN
      simp only [Nat.add_sub_cancel] at h7 HFIN
      all_goals go_wp2
      all_goals go_ret
      all_goals exact ⟨_, rfl, HFIN.out.1, HFIN.out.2⟩
    · go_region_law (refine step_append_runI rfl _ _ 25 25 rfl (.slice (some ⟨g, 0, none⟩) i cap) (.slice (some ⟨g, (i + 1) * 3, none⟩) (fs.length - (i + 1)) (cap - (i + 1))) (by simp [Act.eval, Act.put]) (by simp [Act.eval, Act.put]) (HW0.out _ _ (fun _ => rfl)) ?_)
      have h7 := HCL.out (fs.length - (fs.length - 1)) (cap - (fs.length - 1)) (by omega)
      all_goals go_wp2
      all_goals go_ret
      all_goals exact ⟨_, rfl, HFIN.out.1, HFIN.out.2⟩
end Dk
end Go.Proofs.Ytjgdmdgiicpemaa

/- disk.put; disk.changed at Drop, Swap, and Add wherever the file is to stand. -/
namespace Go.Proofs.Ytjgdmdgiicpemaa
open Go.RowKit Go.Lib Go.Sort
namespace Dk
theorem flat_set0 (fs : List Fl) : ∀ i (h : i < fs.length) (s : ByteArray), (flat fs).set (i * 3) (.string s) = flat (fs.set i { fs[i] with nm := s }) := by
  induction fs with
  | nil => intro i h; simp at h
  | cons f r ih =>
    intro i h s
    cases i with
    | zero => simp [flat, encF]
    | succ i =>
      have := ih i (by simpa using h) s
      have e1 : (i + 1) * 3 = (i * 3) + 3 := by omega
      simp only [flat, encF, e1, List.cons_append, List.nil_append, List.set_cons_succ, List.getElem_cons_succ]
      rw [this]
theorem Own.set0 {w : World} {base g cap : Nat} {fs : List Fl} (h : Own w base (.slice (some ⟨g, 0, none⟩) fs.length cap) fs) (i : Nat) (hi : i < fs.length) (s : ByteArray) :
    Own (w.setCell ⟨g, i * 3, none⟩ (.string s)) base (.slice (some ⟨g, 0, none⟩) fs.length cap) (fs.set i { fs[i] with nm := s }) ∧ w.grownBy (w.setCell ⟨g, i * 3, none⟩ (.string s)) (some g) := by
  obtain ⟨h1, h2⟩ := World.ownsRow.stored h (i * 3) (.string s)
  refine ⟨?_, h2⟩
  unfold Own
  rw [List.length_set, ← flat_set0 fs i hi s]
  exact h1
theorem grown_two {w w1 w2 : World} {g : Nat} (h1 : w.grownBy w1 (some g)) (h2 : w1.grownBy w2 (some g)) : w.grownBy w2 (some g) :=
  ⟨h2.os.trans h1.os, h2.tape.trans h1.tape, h2.output.trans h1.output, Nat.le_trans h1.size h2.size, fun k hk hne => (h2.block k (Nat.lt_of_lt_of_le hk h1.size) hne).trans (h1.block k hk hne)⟩
/-- A whole file stored into its place. -/
theorem Own.setF {w : World} {base g cap : Nat} {fs : List Fl} (h : Own w base (.slice (some ⟨g, 0, none⟩) fs.length cap) fs) (i : Nat) (hi : i < fs.length) (f : Fl) :
    Own (((w.setCell ⟨g, i * 3, none⟩ (.string f.nm)).setCell ⟨g, i * 3 + 1, none⟩ (.string f.da)).setCell ⟨g, i * 3 + 2, none⟩ (.int .i64 f.sy)) base (.slice (some ⟨g, 0, none⟩) fs.length cap) (fs.set i f) ∧
      w.grownBy (((w.setCell ⟨g, i * 3, none⟩ (.string f.nm)).setCell ⟨g, i * 3 + 1, none⟩ (.string f.da)).setCell ⟨g, i * 3 + 2, none⟩ (.int .i64 f.sy)) (some g) := by
  obtain ⟨h1, g1⟩ := h.set0 i hi f.nm
  have e1 : (fs.set i { fs[i] with nm := f.nm }).length = fs.length := List.length_set
  rw [← e1] at h1
  obtain ⟨h2, g2⟩ := h1.set1 i (by rw [e1]; exact hi) f.da
  simp only [List.getElem_set_self, List.set_set] at h2
  have e2 : (fs.set i { fs[i] with nm := f.nm, da := f.da }).length = fs.length := List.length_set
  rw [e1, ← e2] at h2
  obtain ⟨h3, g3⟩ := h2.set2 i (by rw [e2]; exact hi) f.sy
  simp only [List.getElem_set_self, List.set_set] at h3
  rw [e2] at h3
  exact ⟨h3, grown_two (grown_two g1 g2) g3⟩
theorem below_grown {w w1 w2 : World} {base : Nat} {v : Value} {fs : List Fl} {w0 : World} (hbs : base ≤ w.heap.size) (hb : Below w.heap.size w w1) (hg : w1.grownBy w2 v.ownBlock) (ho : Own w0 base v fs) : Below base w w2 :=
  (hb.mono hbs).grown hg (Nat.le_trans hbs hb.size) (fun k hk => ((World.ownsRow.lt ho) k hk).1)

/-- fs with f in its place, or put in anew. -/
def putF (fs : List Fl) (f : Fl) : List Fl := if idxN fs f.nm < fs.length then fs.set (idxN fs f.nm) f else insF fs (lbN fs f.nm) f
theorem lb_le (fs : List Fl) (nm : ByteArray) (h : okTo fs fs.length = true) : lbN fs nm ≤ fs.length := (lb_spec fs nm h).1

set_option maxRecDepth 100000 in
set_option maxHeartbeats 4000000 in
theorem put_own (v : Value) (fs : List Fl) (f : Fl) (base : Nat) (w : World) (hbs : base ≤ w.heap.size) (ho : Own w base v fs) (hf : Fine fs) (h4 : fs.length ≤ 4096) (hok : okTo fs fs.length = true) :
    Calls Try.prog 66 #[v, .agg #[.string f.nm, .string f.da, .int .i64 f.sy]] w fun e w' => ∃ v', e = .returned v' ∧ Own w' base v' (putF fs f) ∧ Below base w w' := by
  have HV := Lib.hid (ho.files hf (by omega))
  have HO := Lib.hid ho
  have HBX : Hid (∀ w1, Below (w.heap.size + 1) (w.alloc (.cells #[.string f.nm, .string f.da, .int .i64 f.sy] 55)) w1 → w1.cell? ⟨w.heap.size, 0, none⟩ = some (.string f.nm) ∧ w1.cell? ⟨w.heap.size, 1, none⟩ = some (.string f.da) ∧ w1.cell? ⟨w.heap.size, 2, none⟩ = some (.int .i64 f.sy)) := by
    intro w1 hb
    exact ⟨by rw [hb.cell (by simp)]; simp [go_sem], by rw [hb.cell (by simp)]; simp [go_sem], by rw [hb.cell (by simp)]; simp [go_sem]⟩
  unfold putF
  by_cases hn : idxN fs f.nm < fs.length
  · have h1 := find_hit v fs f.nm (w.alloc (.cells #[.string f.nm, .string f.da, .int .i64 f.sy] 55)) (HV.out.al _) h4 hok hn
    rw [World.size_alloc] at h1
    rw [if_pos hn]
    obtain ⟨g, cap, rfl, hbg, hgl, hc, hfr⟩ := ho.form (by omega)
    have HE : Hid (∀ w1 : World, Below w.heap.size w w1 → Own (((w1.setCell ⟨g, idxN fs f.nm * 3, none⟩ (.string f.nm)).setCell ⟨g, idxN fs f.nm * 3 + 1, none⟩ (.string f.da)).setCell ⟨g, idxN fs f.nm * 3 + 2, none⟩ (.int .i64 f.sy)) base (.slice (some ⟨g, 0, none⟩) fs.length cap) (fs.set (idxN fs f.nm) f) ∧ Below base w (((w1.setCell ⟨g, idxN fs f.nm * 3, none⟩ (.string f.nm)).setCell ⟨g, idxN fs f.nm * 3 + 1, none⟩ (.string f.da)).setCell ⟨g, idxN fs f.nm * 3 + 2, none⟩ (.int .i64 f.sy))) := by
      intro w1 hb
      obtain ⟨h1, h2⟩ := (HO.out.keep hb).setF (idxN fs f.nm) hn f
      exact ⟨h1, (hb.mono hbs).grown h2 (Nat.le_trans hbs hb.size) (fun k hk => by cases hk; exact hbg)⟩
    obtain ⟨c1, c2, c3⟩ := hc _ hn
    have HC : Hid (∀ w1 : World, Below w.heap.size w w1 → w1.cell? ⟨g, idxN fs f.nm * 3, none⟩ = some (.string fs[idxN fs f.nm].nm) ∧ w1.cell? ⟨g, idxN fs f.nm * 3 + 1, none⟩ = some (.string fs[idxN fs f.nm].da) ∧ w1.cell? ⟨g, idxN fs f.nm * 3 + 2, none⟩ = some (.int .i64 fs[idxN fs f.nm].sy) ∧ w1.frozen? ⟨g, idxN fs f.nm * 3, none⟩ = false ∧ w1.frozen? ⟨g, idxN fs f.nm * 3 + 1, none⟩ = false ∧ w1.frozen? ⟨g, idxN fs f.nm * 3 + 2, none⟩ = false) := fun w1 hb =>
      ⟨(hb.cell hgl).trans c1, (hb.cell hgl).trans c2, (hb.cell hgl).trans c3, (hb.frozen (p := ⟨g, _, none⟩) hgl).trans (hfr _), (hb.frozen (p := ⟨g, _, none⟩) hgl).trans (hfr _), (hb.frozen (p := ⟨g, _, none⟩) hgl).trans (hfr _)⟩
    have t1 : ((idxN fs f.nm : Nat) : Int) < (fs.length : Int) := by omega
    have t2 : (0 : Int) ≤ ((idxN fs f.nm : Nat) : Int) := by omega
    clear hok c1 c2 c3 hc hfr ho hf
    generalize fs.set (idxN fs f.nm) f = fs2 at *
    generalize fs[idxN fs f.nm] = f0 at *
    generalize idxN fs f.nm = k at *
    go_enter Try.func66, Try.ntmps66
    go_wp2_with (go_at_call 25; refine h1.mono ?_; rintro e w1 ⟨rfl, hb⟩; obtain ⟨d0, d1, d2⟩ := HBX.out w1 hb; obtain ⟨f1, f2, f3, f4, f5, f6⟩ := HC.out w1 (over hb); have HB := Lib.hid (over hb); clear hb)
    go_ret
    exact ⟨_, rfl, (HE.out _ HB.out).1, (HE.out _ HB.out).2⟩
  · have h1 := find_miss v fs f.nm (w.alloc (.cells #[.string f.nm, .string f.da, .int .i64 f.sy] 55)) (HV.out.al _) h4 hok hn
    rw [World.size_alloc] at h1
    rw [if_neg hn]
    have hlb := lb_le fs f.nm hok
    have HI : Hid (∀ w1 : World, Below w.heap.size w w1 → Calls Try.prog 65 #[v, .int .i64 (lbN fs f.nm : Nat), .slice (some ⟨w1.heap.size, 0, none⟩) 1 1] (w1.alloc (.cells #[.string f.nm, .string f.da, .int .i64 f.sy] 55)) fun e w' => ∃ v', e = .returned v' ∧ Own w' base v' (insF fs (lbN fs f.nm) f) ∧ Below base w w') := by
      intro w1 hb
      refine (insert_any v fs f (lbN fs f.nm) w1.heap.size base _ (by have := hb.size; simp; omega) ((HO.out.keep hb).keep ((Below.refl _ _).alloc (Nat.le_refl _) _)) h4 hlb (heap_alloc_new w1 _) (fun e => by have := (World.ownsRow.lt HO.out) _ e; have := hb.size; omega)).mono ?_
      rintro e w' ⟨v', rfl, h1, h2⟩
      exact ⟨v', rfl, h1, below_grown hbs (hb.alloc hb.size _) h2 HO.out⟩
    clear hok hn hf hlb
    generalize insF fs (lbN fs f.nm) f = fs2 at *
    generalize lbN fs f.nm = k at *
    rcases ho.forms with ⟨rfl, hfs⟩ | ⟨g, cap, rfl, hbg, hgl, hcap, hcm⟩
    · clear ho hfs
      go_enter Try.func66, Try.ntmps66
      go_wp2_with (go_at_call 25; refine h1.mono ?_; rintro e w1 ⟨rfl, hb⟩; obtain ⟨d0, d1, d2⟩ := HBX.out w1 hb; have HB := Lib.hid (over hb); clear hb)
      go_wp2_with (go_at_call 65; refine (HI.out w1 HB.out).mono ?_; rintro e w3 ⟨v', rfl, hown, hgrow⟩; obtain ⟨a5, c5, rfl⟩ := hown.slice; have HO3 := Lib.hid hown; have HB3 := Lib.hid hgrow; clear hown hgrow)
      go_ret
      exact ⟨_, rfl, HO3.out, HB3.out⟩
    · clear ho
      go_enter Try.func66, Try.ntmps66
      go_wp2_with (go_at_call 25; refine h1.mono ?_; rintro e w1 ⟨rfl, hb⟩; obtain ⟨d0, d1, d2⟩ := HBX.out w1 hb; have HB := Lib.hid (over hb); clear hb)
      go_wp2_with (go_at_call 65; refine (HI.out w1 HB.out).mono ?_; rintro e w3 ⟨v', rfl, hown, hgrow⟩; obtain ⟨a5, c5, rfl⟩ := hown.slice; have HO3 := Lib.hid hown; have HB3 := Lib.hid hgrow; clear hown hgrow)
      go_ret
      exact ⟨_, rfl, HO3.out, HB3.out⟩

set_option maxRecDepth 100000 in
set_option maxHeartbeats 4000000 in
theorem changed_drop (v : Value) (fs : List Fl) (nm da to : ByteArray) (sz : Int) (base : Nat) (w : World) (hbs : base ≤ w.heap.size) (ho : Own w base v fs) (hf : Fine fs) (h4 : fs.length ≤ 4096) (hok : okTo fs fs.length = true) (hn : idxN fs nm < fs.length) :
    Calls Try.prog 46 #[v, .agg #[.int .u8 4, .string nm, .string da, .int .i64 sz, .string to]] w fun e w' => ∃ v', e = .returned v' ∧ Own w' base v' (fs.eraseIdx (idxN fs nm)) ∧ Below base w w' := by
  have HV := Lib.hid (ho.files hf (by omega))
  have h1 := find_hit v fs nm (w.alloc (.cells #[.int .u8 4, .string nm, .string da, .int .i64 sz, .string to] 66)) (HV.out.al _) h4 hok hn
  rw [World.size_alloc] at h1
  have HO := Lib.hid ho
  have HD : Hid (∀ w1 : World, Below w.heap.size w w1 → Calls Try.prog 67 #[v, .int .i64 (idxN fs nm : Nat), .int .i64 ((idxN fs nm : Nat) + 1)] w1 fun e w' => ∃ v', e = .returned v' ∧ Own w' base v' (fs.eraseIdx (idxN fs nm)) ∧ Below base w w') := by
    intro w1 hb
    refine (delete_own v fs (idxN fs nm) base w1 (HO.out.keep hb) h4 hn).mono ?_
    rintro e w' ⟨v', rfl, h1, h2⟩
    exact ⟨v', rfl, h1, below_grown hbs hb h2 HO.out⟩
  obtain ⟨g, cap, rfl, -⟩ := ho.form (by omega)
  have t3 : IntKind.i64.wrap (((idxN fs nm : Nat) : Int) + 1) = ((idxN fs nm : Nat) : Int) + 1 := by rw [IntKind.wrap_i64]; omega
  clear hok hn hf ho
  generalize fs.eraseIdx (idxN fs nm) = fs2 at *
  generalize idxN fs nm = k at *
  go_enter Try.func46, Try.ntmps46
  go_wp2_with (go_at_call 25; refine h1.mono ?_; rintro e w1 ⟨rfl, hb⟩; obtain ⟨d0, d1, d2, d3, d4⟩ := boxC hb; have HB := Lib.hid (over hb); clear hb)
  go_wp2_with (go_at_call 67; go_loud (refine (HD.out w1 HB.out).mono ?_; rintro e w3 ⟨v', rfl, hown, hgrow⟩; obtain ⟨a5, c5, rfl⟩ := hown.slice; have HO3 := Lib.hid hown; have HB3 := Lib.hid hgrow; clear hown hgrow))
  go_ret
  exact ⟨_, rfl, HO3.out, HB3.out⟩
end Dk
end Go.Proofs.Ytjgdmdgiicpemaa

/- Merged: DiskChg, DiskMath, DiskRefs, DiskAll, DiskSwp, DiskSafe, DiskBeh. -/
/- disk.changed at Add (the file is not there), Cut, Swap. -/
namespace Go.Proofs.Ytjgdmdgiicpemaa
open Go.RowKit Go.Lib Go.Sort
namespace Dk
set_option maxRecDepth 100000 in
set_option maxHeartbeats 4000000 in
theorem changed_add_miss (v : Value) (fs : List Fl) (nm da to : ByteArray) (sz : Int) (base : Nat) (w : World) (hbs : base ≤ w.heap.size) (ho : Own w base v fs) (hf : Fine fs) (h4 : fs.length ≤ 4096) (hok : okTo fs fs.length = true) (hn : ¬ idxN fs nm < fs.length) (hz : da.size ≤ 9223372036854775807) :
    Calls Try.prog 46 #[v, .agg #[.int .u8 0, .string nm, .string da, .int .i64 sz, .string to]] w fun e w' => ∃ v', e = .returned v' ∧ Own w' base v' (insF fs (lbN fs nm) ⟨nm, da, 0⟩) ∧ Below base w w' := by
  have HV := Lib.hid (ho.files hf (by omega))
  have h0 := find_miss v fs nm (w.alloc (.cells #[.int .u8 0, .string nm, .string da, .int .i64 sz, .string to] 66)) (HV.out.al _) h4 hok hn
  rw [World.size_alloc] at h0
  have hlb := lb_le fs nm hok
  have HO := Lib.hid ho
  have hne : some w.heap.size ≠ v.ownBlock := fun e => by have := (World.ownsRow.lt ho) _ e.symm; omega
  have HNE := Lib.hid hne
  have HI : Hid (∀ w1 : World, Below w.heap.size w w1 → Calls Try.prog 65 #[v, .int .i64 (lbN fs nm : Nat), .slice (some ⟨w1.heap.size, 0, none⟩) 1 1] (w1.alloc (.cells #[.string nm, .string ByteArray.empty, .int .i64 0] 55)) fun e w' => ∃ v', e = .returned v' ∧ Own w' base v' (insF fs (lbN fs nm) ⟨nm, ByteArray.empty, 0⟩) ∧ (w1.alloc (.cells #[.string nm, .string ByteArray.empty, .int .i64 0] 55)).grownBy w' v.ownBlock) := by
    intro w1 hb
    exact insert_any v fs ⟨nm, ByteArray.empty, 0⟩ (lbN fs nm) w1.heap.size base _ (by have := hb.size; simp; omega) ((HO.out.keep hb).keep ((Below.refl _ _).alloc (Nat.le_refl _) _)) h4 hlb (heap_alloc_new w1 _) (fun e => by have := (World.ownsRow.lt HO.out) _ e; have := hb.size; omega)
  have HB1 : Hid (∀ w1 w3 : World, Below w.heap.size w w1 → (w1.alloc (.cells #[.string nm, .string ByteArray.empty, .int .i64 0] 55)).grownBy w3 v.ownBlock → Below base w w3 ∧ (∀ o u, w1.cell? ⟨w.heap.size, o, none⟩ = some u → w3.cell? ⟨w.heap.size, o, none⟩ = some u)) := by
    intro w1 w3 hb hg
    refine ⟨below_grown hbs (hb.alloc hb.size _) hg HO.out, fun o u hu => ?_⟩
    exact hg.cell (Lib.cell?_alloc_some _ hu) HNE.out
  have hil := insF_len fs (lbN fs nm) ⟨nm, ByteArray.empty, 0⟩ hlb
  have hlt : lbN fs nm < (insF fs (lbN fs nm) ⟨nm, ByteArray.empty, 0⟩).length := by omega
  have hat : (insF fs (lbN fs nm) ⟨nm, ByteArray.empty, 0⟩)[lbN fs nm] = ⟨nm, ByteArray.empty, 0⟩ := by
    simp only [insF]
    rw [List.getElem_append_right (by rw [List.length_take]; omega)]
    simp [List.length_take, Nat.min_eq_left hlb]
  have hset : (insF fs (lbN fs nm) ⟨nm, ByteArray.empty, 0⟩).set (lbN fs nm) ⟨nm, da, 0⟩ = insF fs (lbN fs nm) ⟨nm, da, 0⟩ := by
    simp only [insF]
    rw [List.set_append_right _ _ (by rw [List.length_take]; omega)]
    simp [List.length_take, Nat.min_eq_left hlb]
  have HS : Hid (∀ (w3 : World) v', Below base w w3 → Own w3 base v' (insF fs (lbN fs nm) ⟨nm, ByteArray.empty, 0⟩) → ∃ g cap, v' = .slice (some ⟨g, 0, none⟩) (fs.length + 1) cap ∧ w3.cell? ⟨g, lbN fs nm * 3 + 1, none⟩ = some (.string ByteArray.empty) ∧ w3.frozen? ⟨g, lbN fs nm * 3 + 1, none⟩ = false ∧
      ∀ n, Own ((w3.drewN n).setCell ⟨g, lbN fs nm * 3 + 1, none⟩ (.string (ByteArray.empty ++ da))) base v' (insF fs (lbN fs nm) ⟨nm, da, 0⟩) ∧ Below base w ((w3.drewN n).setCell ⟨g, lbN fs nm * 3 + 1, none⟩ (.string (ByteArray.empty ++ da)))) := by
    intro w3 v' hb hown
    obtain ⟨g, cap, rfl, hbg, hgl, hc, hfr⟩ := hown.form (by omega)
    refine ⟨g, cap, by rw [hil], ?_, hfr _, fun n => ?_⟩
    · have := (hc _ hlt).2.1
      rw [hat] at this
      exact this
    · obtain ⟨h1, h2⟩ := (hown.drew n).set1 _ hlt (ByteArray.empty ++ da)
      refine ⟨?_, (bdN hb n).grown h2 (Nat.le_trans hbs hb.size) (fun k hk => by cases hk; exact hbg)⟩
      rw [hat] at h1
      simp only [ByteArray.empty_append] at h1 ⊢
      rw [hset] at h1
      exact h1
  have t1 : ((lbN fs nm : Nat) : Int) < ((fs.length + 1 : Nat) : Int) := by omega
  have t2 : (0 : Int) ≤ ((lbN fs nm : Nat) : Int) := by omega
  have t3 : ¬ (9223372036854775807 < ByteArray.empty.size + da.size) := by simp; omega
  have t4 : ((lbN fs nm : Nat) : Int) < (fs.length : Int) + 1 := by omega
  clear hok hn hne hf hat hset hlt hil hlb
  generalize insF fs (lbN fs nm) ⟨nm, ByteArray.empty, 0⟩ = fsA at *
  generalize insF fs (lbN fs nm) ⟨nm, da, 0⟩ = fsB at *
  generalize lbN fs nm = k at *
  rcases ho.forms with ⟨rfl, hfs⟩ | ⟨g, cap, rfl, hbg, hgl, hcap, hcm⟩
  · have HFS := Lib.hid hfs
    clear ho hfs
    go_enter Try.func46, Try.ntmps46
    go_wp2_with (go_at_call 25; refine h0.mono ?_; rintro e w1 ⟨rfl, hb⟩; obtain ⟨d0, d1, d2, d3, d4⟩ := boxC hb; have HB := Lib.hid (over hb); clear hb)
    go_wp2_with (go_at_call 65; refine (HI.out w1 HB.out).mono ?_; rintro e w3 ⟨v', rfl, hown, hgrow⟩; obtain ⟨b1, b2⟩ := HB1.out w1 w3 HB.out hgrow; obtain ⟨g3, cap3, rfl, s1, s2, s3⟩ := HS.out w3 v' b1 hown; have e2 := b2 _ _ d2; have H3 := Lib.hid s3; clear s3 b2 hgrow hown)
    go_region
    all_goals go_wp2
    all_goals go_ret
    all_goals exact ⟨_, rfl, by first | exact (H3.out 0).1 | exact (H3.out _).1, by first | exact (H3.out 0).2 | exact (H3.out _).2 | exact bdN (H3.out 0).2 _⟩
  · clear ho
    go_enter Try.func46, Try.ntmps46
    go_wp2_with (go_at_call 25; refine h0.mono ?_; rintro e w1 ⟨rfl, hb⟩; obtain ⟨d0, d1, d2, d3, d4⟩ := boxC hb; have HB := Lib.hid (over hb); clear hb)
    go_wp2_with (go_at_call 65; refine (HI.out w1 HB.out).mono ?_; rintro e w3 ⟨v', rfl, hown, hgrow⟩; obtain ⟨b1, b2⟩ := HB1.out w1 w3 HB.out hgrow; obtain ⟨g3, cap3, rfl, s1, s2, s3⟩ := HS.out w3 v' b1 hown; have e2 := b2 _ _ d2; have H3 := Lib.hid s3; clear s3 b2 hgrow hown)
    go_region
    all_goals go_wp2
    all_goals go_ret
    all_goals exact ⟨_, rfl, by first | exact (H3.out 0).1 | exact (H3.out _).1, by first | exact (H3.out 0).2 | exact (H3.out _).2 | exact bdN (H3.out 0).2 _⟩

set_option maxRecDepth 100000 in
set_option maxHeartbeats 4000000 in
theorem changed_cut (v : Value) (fs : List Fl) (nm da to : ByteArray) (sz : Nat) (base : Nat) (w : World) (hbs : base ≤ w.heap.size) (ho : Own w base v fs) (hf : Fine fs) (h4 : fs.length ≤ 4096) (hok : okTo fs fs.length = true) (hn : idxN fs nm < fs.length) (hz : sz ≤ fs[idxN fs nm].da.size) :
    Calls Try.prog 46 #[v, .agg #[.int .u8 2, .string nm, .string da, .int .i64 sz, .string to]] w fun e w' => ∃ v', e = .returned v' ∧ Own w' base v' (fs.set (idxN fs nm) ⟨fs[idxN fs nm].nm, fs[idxN fs nm].da.extract 0 sz, min fs[idxN fs nm].sy sz⟩) ∧ Below base w w' := by
  obtain ⟨g, cap, rfl, hbg, hgl, hc, hfr⟩ := ho.form (by omega)
  have HV := Lib.hid (ho.files hf (by omega))
  have h1 := find_hit (.slice (some ⟨g, 0, none⟩) fs.length cap) fs nm (w.alloc (.cells #[.int .u8 2, .string nm, .string da, .int .i64 sz, .string to] 66)) (HV.out.al _) h4 hok hn
  rw [World.size_alloc] at h1
  obtain ⟨-, c2, c3⟩ := hc _ hn
  have HC2 := Lib.hid c2
  have HC3 := Lib.hid c3
  have HO := Lib.hid ho
  have HFR := Lib.hid hfr
  have HE : Hid (∀ w1 : World, Below w.heap.size w w1 → Own ((w1.setCell ⟨g, idxN fs nm * 3 + 1, none⟩ (.string (fs[idxN fs nm].da.extract 0 sz))).setCell ⟨g, idxN fs nm * 3 + 2, none⟩ (.int .i64 (min fs[idxN fs nm].sy sz))) base (.slice (some ⟨g, 0, none⟩) fs.length cap) (fs.set (idxN fs nm) ⟨fs[idxN fs nm].nm, fs[idxN fs nm].da.extract 0 sz, min fs[idxN fs nm].sy sz⟩) ∧ Below base w ((w1.setCell ⟨g, idxN fs nm * 3 + 1, none⟩ (.string (fs[idxN fs nm].da.extract 0 sz))).setCell ⟨g, idxN fs nm * 3 + 2, none⟩ (.int .i64 (min fs[idxN fs nm].sy sz)))) := by
    intro w1 hb
    obtain ⟨h1, g1⟩ := (HO.out.keep hb).set1 (idxN fs nm) hn (fs[idxN fs nm].da.extract 0 sz)
    have e1 : (fs.set (idxN fs nm) { fs[idxN fs nm] with da := fs[idxN fs nm].da.extract 0 sz }).length = fs.length := List.length_set
    rw [← e1] at h1
    obtain ⟨h2, g2⟩ := h1.set2 (idxN fs nm) (by rw [e1]; exact hn) (min fs[idxN fs nm].sy sz)
    simp only [List.getElem_set_self, List.set_set] at h2
    rw [e1] at h2
    exact ⟨h2, (hb.mono hbs).grown (grown_two g1 g2) (Nat.le_trans hbs hb.size) (fun k hk => by cases hk; exact hbg)⟩
  have hzl : fs[idxN fs nm].da.size ≤ maxLen := (hf _ (List.getElem_mem hn)).1
  have t1 : ((idxN fs nm : Nat) : Int) < (fs.length : Int) := by omega
  have t2 : (0 : Int) ≤ ((idxN fs nm : Nat) : Int) := by omega
  have t3 : (sz : Int) ≤ (fs[idxN fs nm].da.size : Int) := by omega
  clear hok c2 c3 hc hfr ho hf
  generalize fs.set (idxN fs nm) ⟨fs[idxN fs nm].nm, fs[idxN fs nm].da.extract 0 sz, min fs[idxN fs nm].sy sz⟩ = fs2 at *
  generalize fs[idxN fs nm].da = y at *
  generalize fs[idxN fs nm].sy = z at *
  generalize idxN fs nm = k at *
  go_enter Try.func46, Try.ntmps46
  go_wp2_with (go_at_call 25; refine h1.mono ?_; rintro e w1 ⟨rfl, hb⟩; obtain ⟨d0, d1, d2, d3, d4⟩ := boxC hb; have HB := Lib.hid (over hb); have f2 := ((over hb).cell (by exact hgl)).trans HC2.out; have f3 := ((over hb).cell (by exact hgl)).trans HC3.out; have f4 := ((over hb).frozen (p := ⟨g, k * 3 + 1, none⟩) (by exact hgl)).trans (HFR.out _); have f5 := ((over hb).frozen (p := ⟨g, k * 3 + 2, none⟩) (by exact hgl)).trans (HFR.out _); clear hb)
  have hgn : g ≠ w.heap.size := by omega
  have hgn2 : w.heap.size ≠ g := by omega
  go_region
  all_goals go_wp2
  all_goals go_region
  all_goals go_wp2
  all_goals go_ret
  all_goals exact ⟨_, rfl, (HE.out _ HB.out).1, (fun h : Below base w _ => ⟨h.os, h.tape, h.output, h.size, h.block⟩) (HE.out _ HB.out).2⟩

set_option maxRecDepth 100000 in
set_option maxHeartbeats 4000000 in
theorem changed_swap (v : Value) (fs : List Fl) (nm da to : ByteArray) (sz : Int) (base : Nat) (w : World) (hbs : base ≤ w.heap.size) (ho : Own w base v fs) (hf : Fine fs) (h4 : fs.length ≤ 4096) (hok : okTo fs fs.length = true) (hn : idxN fs nm < fs.length)
    (hok2 : okTo (fs.eraseIdx (idxN fs nm)) (fs.eraseIdx (idxN fs nm)).length = true) :
    Calls Try.prog 46 #[v, .agg #[.int .u8 3, .string nm, .string da, .int .i64 sz, .string to]] w fun e w' => ∃ v', e = .returned v' ∧ Own w' base v' (putF (fs.eraseIdx (idxN fs nm)) ⟨to, fs[idxN fs nm].da, fs[idxN fs nm].sy⟩) ∧ Below base w w' := by
  have HV := Lib.hid (ho.files hf (by omega))
  have h1 := find_hit v fs nm (w.alloc (.cells #[.int .u8 3, .string nm, .string da, .int .i64 sz, .string to] 66)) (HV.out.al _) h4 hok hn
  rw [World.size_alloc] at h1
  have HO := Lib.hid ho
  have HD : Hid (∀ w1 : World, Below w.heap.size w w1 → Calls Try.prog 67 #[v, .int .i64 (idxN fs nm : Nat), .int .i64 ((idxN fs nm : Nat) + 1)] w1 fun e w' => ∃ v', e = .returned v' ∧ Own w' base v' (fs.eraseIdx (idxN fs nm)) ∧ Below base w w' ∧ w1.grownBy w' v.ownBlock) := by
    intro w1 hb
    refine (delete_own v fs (idxN fs nm) base w1 (HO.out.keep hb) h4 hn).mono ?_
    rintro e w' ⟨v', rfl, h1, h2⟩
    exact ⟨v', rfl, h1, below_grown hbs hb h2 HO.out, h2⟩
  have hel : (fs.eraseIdx (idxN fs nm)).length = fs.length - 1 := by rw [List.length_eraseIdx_of_lt hn]
  have hfe : Fine (fs.eraseIdx (idxN fs nm)) := fun f hm => hf f (List.mem_of_mem_eraseIdx hm)
  have HP : Hid (∀ (w1 : World) (v' : Value), base ≤ w1.heap.size → Own w1 base v' (fs.eraseIdx (idxN fs nm)) → Calls Try.prog 66 #[v', .agg #[.string to, .string fs[idxN fs nm].da, .int .i64 fs[idxN fs nm].sy]] w1 fun e w' => ∃ v', e = .returned v' ∧ Own w' base v' (putF (fs.eraseIdx (idxN fs nm)) ⟨to, fs[idxN fs nm].da, fs[idxN fs nm].sy⟩) ∧ Below base w1 w') := fun w1 v' hb h => put_own v' _ ⟨to, fs[idxN fs nm].da, fs[idxN fs nm].sy⟩ base w1 hb h hfe (by omega) hok2
  obtain ⟨g, cap, rfl, hbg, hgl, hc, -⟩ := ho.form (by omega)
  have t3 : IntKind.i64.wrap (((idxN fs nm : Nat) : Int) + 1) = ((idxN fs nm : Nat) : Int) + 1 := by rw [IntKind.wrap_i64]; omega
  obtain ⟨c1, c2, c3⟩ := hc _ hn
  have HC : Hid (∀ w1 : World, Below w.heap.size w w1 → w1.cell? ⟨g, idxN fs nm * 3, none⟩ = some (.string fs[idxN fs nm].nm) ∧ w1.cell? ⟨g, idxN fs nm * 3 + 1, none⟩ = some (.string fs[idxN fs nm].da) ∧ w1.cell? ⟨g, idxN fs nm * 3 + 2, none⟩ = some (.int .i64 fs[idxN fs nm].sy)) := fun w1 hb =>
    ⟨(hb.cell hgl).trans c1, (hb.cell hgl).trans c2, (hb.cell hgl).trans c3⟩
  have t1 : ((idxN fs nm : Nat) : Int) < (fs.length : Int) := by omega
  have t2 : (0 : Int) ≤ ((idxN fs nm : Nat) : Int) := by omega
  clear hok hf ho hok2 hel hfe c1 c2 c3 hc
  generalize putF (fs.eraseIdx (idxN fs nm)) ⟨to, fs[idxN fs nm].da, fs[idxN fs nm].sy⟩ = fsB at *
  generalize fs.eraseIdx (idxN fs nm) = fsA at *
  generalize fs[idxN fs nm] = f0 at *
  clear hn
  rcases f0 with ⟨n0, y0, z0⟩
  generalize idxN fs nm = k at *
  simp only at HP HC
  go_enter Try.func46, Try.ntmps46
  go_wp2_with (go_at_call 25; refine h1.mono ?_; rintro e w1 ⟨rfl, hb⟩; obtain ⟨d0, d1, d2, d3, d4⟩ := boxC hb; obtain ⟨f1, f2, f3⟩ := HC.out w1 (over hb); have hlt : w.heap.size < w1.heap.size := (by have := hb.size; simp at this; omega); have hgl1 : g < w1.heap.size := (by omega); have HB := Lib.hid (over hb); clear hb)
  have KD : ((w1.alloc (.cells #[.string to, .string y0, .int .i64 z0] 55)).drew.cell? ⟨w1.heap.size, 0, none⟩ = some (.string to) ∧ (w1.alloc (.cells #[.string to, .string y0, .int .i64 z0] 55)).drew.cell? ⟨w1.heap.size, 1, none⟩ = some (.string y0) ∧ (w1.alloc (.cells #[.string to, .string y0, .int .i64 z0] 55)).drew.cell? ⟨w1.heap.size, 2, none⟩ = some (.int .i64 z0)) := by
    refine ⟨?_, ?_, ?_⟩ <;> (show World.cell? (w1.alloc _) _ = _; simp [go_sem])
  have HDx : Hid (∀ x : World, x = (w1.alloc (.cells #[.string to, .string y0, .int .i64 z0] 55)).drew → Calls Try.prog 67 #[.slice (some ⟨g, 0, none⟩) fs.length cap, .int .i64 (k : Nat), .int .i64 ((k : Nat) + 1)] x fun e w' => ∃ v', e = .returned v' ∧ Own w' base v' fsA ∧ Below base w w' ∧ (w'.cell? ⟨w1.heap.size, 0, none⟩ = some (.string to) ∧ w'.cell? ⟨w1.heap.size, 1, none⟩ = some (.string y0) ∧ w'.cell? ⟨w1.heap.size, 2, none⟩ = some (.int .i64 z0))) := by
    intro x hx
    have hb : Below w.heap.size w x := by
      rw [hx]
      have h := HB.out.alloc (Nat.le_of_lt hlt) (.cells #[.string to, .string y0, .int .i64 z0] 55)
      exact ⟨h.os, h.tape, h.output, h.size, h.block⟩
    refine (HD.out x hb).mono ?_
    rintro e w' ⟨v', rfl, h1, h2, h3⟩
    have hng : some w1.heap.size ≠ (Value.slice (some ⟨g, 0, none⟩) fs.length cap).ownBlock := by
      intro e
      have : w1.heap.size = g := Option.some.inj e
      omega
    obtain ⟨q0, q1, q2⟩ := KD
    rw [← hx] at q0 q1 q2
    exact ⟨v', rfl, h1, h2, h3.cell q0 hng, h3.cell q1 hng, h3.cell q2 hng⟩
  have KDh := Lib.hid KD
  clear KD HD HC
  obtain ⟨l0, l1, l2⟩ := KDh.out
  go_region_with (first
      | (go_at_call 67; go_loud (refine (HDx.out _ rfl).mono ?_; rintro e w3 ⟨v3, rfl, hown, hb3, q0, q1, q2⟩; obtain ⟨a3, c3, rfl⟩ := hown.slice; have HO3 := Lib.hid hown; have HB3 := Lib.hid hb3; clear hown hb3))
      | (go_at_call 66; go_loud (refine (HP.out _ _ (Nat.le_trans hbs HB3.out.size) HO3.out).mono ?_; rintro e w4 ⟨v4, rfl, hown, hb4⟩; obtain ⟨a4, c4, rfl⟩ := hown.slice; have HO4 := Lib.hid hown; have HB4 := Lib.hid (HB3.out.trans hb4); clear hown hb4)))
  all_goals go_wp2
  all_goals go_ret
  all_goals exact ⟨_, rfl, HO4.out, HB4.out⟩
end Dk
end Go.Proofs.Ytjgdmdgiicpemaa

/- MATHS OF SORTED LISTS OF FILES: a file put in, taken out, looked up. -/
namespace Go.Proofs.Ytjgdmdgiicpemaa
open Go.RowKit Go.Lib Go.Sort
namespace Dk
theorem toList_inj {a b : ByteArray} (e : a.toList = b.toList) : a = b := by
  rw [ByteArray.toList_eq, ByteArray.toList_eq] at e
  exact ByteArray.ext (Array.ext' e)
def Lt (a b : Fl) : Prop := Op.bytesLess a.nm.toList b.nm.toList = true
def Bd (fs : List Fl) : Prop := ∀ f ∈ fs, 0 ≤ f.sy ∧ f.sy ≤ f.da.size
theorem Lt.ne {a b : Fl} (h : Lt a b) : a.nm ≠ b.nm := by
  intro e
  unfold Lt at h
  rw [e, lt_irrefl'] at h
  cases h
theorem Lt.trans {a b c : Fl} (h : Lt a b) (h2 : Lt b c) : Lt a c := lt_trans' _ _ _ h h2
theorem Lt.asymm {a b : Fl} (h : Lt a b) (h2 : Lt b a) : False := (h.trans h2).ne rfl
theorem ok_srt {fs : List Fl} (h : okTo fs fs.length = true) : fs.Pairwise Lt := by
  rw [List.pairwise_iff_getElem]
  intro i j hi hj hij
  exact rise fs h i j hij hj
theorem ok_bd {fs : List Fl} (h : okTo fs fs.length = true) : Bd fs := by
  intro f hm
  obtain ⟨i, hi, rfl⟩ := List.getElem_of_mem hm
  exact sy_fine fs h i hi
theorem ok_of {fs : List Fl} (hs : fs.Pairwise Lt) (hb : Bd fs) : okTo fs fs.length = true := by
  unfold okTo
  rw [List.all_eq_true]
  intro i hi
  have hi := List.mem_range.1 hi
  obtain ⟨b1, b2⟩ := hb _ (List.getElem_mem hi)
  cases i with
  | zero => rw [okAt_zero fs hi]; simp; omega
  | succ j =>
    rw [okAt_succ fs j hi]
    have h1 : Lt fs[j] fs[j + 1] := (List.pairwise_iff_getElem.1 hs) j (j + 1) (by omega) hi (by omega)
    unfold Lt at h1
    simp
    exact ⟨⟨h1, by omega⟩, by omega⟩
theorem idx_nm (fs : List Fl) (nm : ByteArray) (h : idxN fs nm < fs.length) : fs[idxN fs nm].nm = nm := toList_inj (idx_at fs nm h)
theorem idx_ex (fs : List Fl) (nm : ByteArray) {f : Fl} (hf : f ∈ fs) (he : f.nm = nm) : idxN fs nm < fs.length := by
  obtain ⟨i, hi, rfl⟩ := List.getElem_of_mem hf
  exact idx_lt fs nm i hi (by rw [he])
theorem srt_uni {fs : List Fl} (hs : fs.Pairwise Lt) {i j : Nat} (hi : i < fs.length) (hj : j < fs.length) (he : fs[i].nm = fs[j].nm) : i = j := by
  rcases Nat.lt_trichotomy i j with h | h | h
  · exact absurd he ((List.pairwise_iff_getElem.1 hs) i j hi hj h).ne
  · exact h
  · exact absurd he.symm ((List.pairwise_iff_getElem.1 hs) j i hj hi h).ne
def look (fs : List Fl) (nm : ByteArray) : Option Fl := fs[idxN fs nm]?
theorem look_of {fs : List Fl} (hs : fs.Pairwise Lt) {f : Fl} (hf : f ∈ fs) : look fs f.nm = some f := by
  obtain ⟨i, hi, rfl⟩ := List.getElem_of_mem hf
  have h1 := idx_ex fs fs[i].nm (List.getElem_mem hi) rfl
  have h2 := srt_uni hs h1 hi (idx_nm fs _ h1)
  unfold look
  rw [List.getElem?_eq_getElem h1]
  simp only [h2]
theorem look_mem {fs : List Fl} {nm : ByteArray} {f : Fl} (h : look fs nm = some f) : f ∈ fs ∧ f.nm = nm := by
  unfold look at h
  obtain ⟨h1, h2⟩ := List.getElem?_eq_some_iff.1 h
  have := idx_nm fs nm h1
  rw [h2] at this
  exact ⟨h2 ▸ List.getElem_mem h1, this⟩
theorem look_none {fs : List Fl} {nm : ByteArray} : look fs nm = none ↔ ∀ f ∈ fs, f.nm ≠ nm := by
  constructor
  · intro h f hf he
    have := idx_ex fs nm hf he
    unfold look at h
    rw [List.getElem?_eq_getElem this] at h
    cases h
  · intro h
    cases hl : look fs nm with
    | none => rfl
    | some f => exact absurd (look_mem hl).2 (h f (look_mem hl).1)
theorem look_ext {fs gs : List Fl} (_hs : fs.Pairwise Lt) (hg : gs.Pairwise Lt) (nm : ByteArray) (h : ∀ x, x.nm = nm → (x ∈ fs ↔ x ∈ gs)) : look fs nm = look gs nm := by
  cases hl : look fs nm with
  | some f =>
    obtain ⟨h1, rfl⟩ := look_mem hl
    exact (look_of hg ((h f rfl).1 h1)).symm
  | none =>
    have h1 := look_none.1 hl
    exact (look_none.2 fun x hx he => h1 x ((h x he).2 hx) he).symm
/-- Who stands ahead of the place of a name, and who behind. -/
theorem lb_take {fs : List Fl} (h : okTo fs fs.length = true) (f : Fl) : ∀ x ∈ fs.take (lbN fs f.nm), Lt x f := by
  intro x hx
  obtain ⟨i, hi, rfl⟩ := List.getElem_of_mem hx
  rw [List.getElem_take]
  rw [List.length_take] at hi
  exact (lb_spec fs f.nm h).2.1 i (by omega) (by omega)
theorem lb_drop {fs : List Fl} (h : okTo fs fs.length = true) (f : Fl) (hn : ¬ idxN fs f.nm < fs.length) : ∀ x ∈ fs.drop (lbN fs f.nm), Lt f x := by
  intro x hx
  obtain ⟨i, hi, rfl⟩ := List.getElem_of_mem hx
  rw [List.getElem_drop]
  rw [List.length_drop] at hi
  have h1 := (lb_spec fs f.nm h).2.2 (lbN fs f.nm + i) (by omega) (by omega)
  cases hb : Op.bytesLess f.nm.toList fs[lbN fs f.nm + i].nm.toList with
  | true => exact hb
  | false => exact absurd (idx_lt fs f.nm _ (by omega) (lt_conn _ _ h1 hb)) hn
theorem put_srt {fs : List Fl} (h : okTo fs fs.length = true) (f : Fl) : (putF fs f).Pairwise Lt := by
  have hs := ok_srt h
  unfold putF
  split
  · rename_i hn
    rw [List.pairwise_iff_getElem]
    intro i j hi hj hij
    rw [List.length_set] at hi hj
    have hx : ∀ k (hk : k < fs.length), ((fs.set (idxN fs f.nm) f)[k]'(by rw [List.length_set]; exact hk)).nm = fs[k].nm := by
      intro k hk
      rw [List.getElem_set]
      split
      · rename_i e; subst e; exact (idx_nm fs f.nm hn).symm
      · rfl
    unfold Lt
    rw [hx i hi, hx j hj]
    exact (List.pairwise_iff_getElem.1 hs) i j hi hj hij
  · rename_i hn
    unfold insF
    rw [List.pairwise_append]
    refine ⟨hs.sublist (List.take_sublist _ _), ?_, ?_⟩
    · rw [List.pairwise_cons]
      exact ⟨lb_drop h f hn, hs.sublist (List.drop_sublist _ _)⟩
    · intro a ha b hb
      rcases List.mem_cons.1 hb with rfl | hb
      · exact lb_take h b a ha
      · exact (lb_take h f a ha).trans (lb_drop h f hn b hb)
theorem put_mem {fs : List Fl} (h : okTo fs fs.length = true) (f x : Fl) : x ∈ putF fs f ↔ x = f ∨ (x ∈ fs ∧ x.nm ≠ f.nm) := by
  have hs := ok_srt h
  unfold putF
  split
  · rename_i hn
    constructor
    · intro hx
      obtain ⟨i, hi, rfl⟩ := List.getElem_of_mem hx
      rw [List.length_set] at hi
      rw [List.getElem_set]
      split
      · exact .inl rfl
      · rename_i hne
        refine .inr ⟨List.getElem_mem _, fun e => hne ?_⟩
        exact srt_uni hs hn hi ((idx_nm fs f.nm hn).trans e.symm)
    · rintro (rfl | ⟨hx, hne⟩)
      · exact List.mem_iff_getElem.2 ⟨idxN fs x.nm, by rw [List.length_set]; exact hn, List.getElem_set_self _⟩
      · obtain ⟨i, hi, rfl⟩ := List.getElem_of_mem hx
        refine List.mem_iff_getElem.2 ⟨i, by rw [List.length_set]; exact hi, ?_⟩
        rw [List.getElem_set_ne]
        intro e
        subst e
        exact hne (idx_nm fs f.nm hn)
  · rename_i hn
    unfold insF
    rw [List.mem_append, List.mem_cons]
    have hno : ∀ y ∈ fs, y.nm ≠ f.nm := fun y hy e => hn (idx_ex fs f.nm hy e)
    have hm : x ∈ fs ↔ x ∈ fs.take (lbN fs f.nm) ∨ x ∈ fs.drop (lbN fs f.nm) := by rw [← List.mem_append, List.take_append_drop]
    constructor
    · rintro (hx | rfl | hx)
      · exact .inr ⟨hm.2 (.inl hx), hno x (hm.2 (.inl hx))⟩
      · exact .inl rfl
      · exact .inr ⟨hm.2 (.inr hx), hno x (hm.2 (.inr hx))⟩
    · rintro (rfl | ⟨hx, -⟩)
      · exact .inr (.inl rfl)
      · rcases hm.1 hx with h | h
        · exact .inl h
        · exact .inr (.inr h)
theorem put_ok {fs : List Fl} (h : okTo fs fs.length = true) (f : Fl) (hf : 0 ≤ f.sy ∧ f.sy ≤ f.da.size) : okTo (putF fs f) (putF fs f).length = true :=
  ok_of (put_srt h f) (fun x hx => by
    rcases (put_mem h f x).1 hx with rfl | ⟨h1, -⟩
    · exact hf
    · exact ok_bd h x h1)
theorem look_put {fs : List Fl} (h : okTo fs fs.length = true) (f : Fl) : look (putF fs f) f.nm = some f := look_of (put_srt h f) ((put_mem h f f).2 (.inl rfl))
theorem look_put_ne {fs : List Fl} (h : okTo fs fs.length = true) (f : Fl) (nm : ByteArray) (hne : nm ≠ f.nm) : look (putF fs f) nm = look fs nm :=
  look_ext (put_srt h f) (ok_srt h) nm (fun x hx => by
    rw [put_mem h f x]
    constructor
    · rintro (rfl | h1)
      · exact absurd hx.symm hne
      · exact h1.1
    · exact fun h1 => .inr ⟨h1, by rw [hx]; exact hne⟩)
theorem del_mem {fs : List Fl} (hs : fs.Pairwise Lt) (nm : ByteArray) (hn : idxN fs nm < fs.length) (x : Fl) : x ∈ fs.eraseIdx (idxN fs nm) ↔ x ∈ fs ∧ x.nm ≠ nm := by
  rw [List.mem_eraseIdx_iff_getElem]
  constructor
  · rintro ⟨i, hi, hne, rfl⟩
    exact ⟨List.getElem_mem _, fun e => hne (srt_uni hs hi hn (e.trans (idx_nm fs nm hn).symm))⟩
  · rintro ⟨hx, hne⟩
    obtain ⟨i, hi, rfl⟩ := List.getElem_of_mem hx
    exact ⟨i, hi, fun e => hne (by subst e; exact idx_nm fs nm hn), rfl⟩
theorem del_ok {fs : List Fl} (h : okTo fs fs.length = true) (i : Nat) : okTo (fs.eraseIdx i) (fs.eraseIdx i).length = true :=
  ok_of ((ok_srt h).sublist (List.eraseIdx_sublist _ _)) (fun x hx => ok_bd h x (List.mem_of_mem_eraseIdx hx))
theorem look_del {fs : List Fl} (h : okTo fs fs.length = true) (nm nm2 : ByteArray) (hn : idxN fs nm < fs.length) (hne : nm2 ≠ nm) : look (fs.eraseIdx (idxN fs nm)) nm2 = look fs nm2 :=
  look_ext (ok_srt (del_ok h _)) (ok_srt h) nm2 (fun x hx => by rw [del_mem (ok_srt h) nm hn]; exact ⟨fun h1 => h1.1, fun h1 => ⟨h1, by rw [hx]; exact hne⟩⟩)
theorem look_del_self {fs : List Fl} (h : okTo fs fs.length = true) (nm : ByteArray) (hn : idxN fs nm < fs.length) : look (fs.eraseIdx (idxN fs nm)) nm = none :=
  look_none.2 (fun x hx => ((del_mem (ok_srt h) nm hn x).1 hx).2)
theorem put_len (fs : List Fl) (h : okTo fs fs.length = true) (f : Fl) : (putF fs f).length = if idxN fs f.nm < fs.length then fs.length else fs.length + 1 := by
  unfold putF
  split
  · rw [List.length_set]
  · rw [insF_len _ _ _ (lb_le fs f.nm h)]
theorem put_fine {fs : List Fl} (hf : Fine fs) (h : okTo fs fs.length = true) (f : Fl) (h1 : f.da.size ≤ maxLen ∧ -9223372036854775808 ≤ f.sy ∧ f.sy ≤ 9223372036854775807) : Fine (putF fs f) := fun x hx => by
  rcases (put_mem h f x).1 hx with rfl | ⟨h2, -⟩
  · exact h1
  · exact hf x h2
end Dk
end Go.Proofs.Ytjgdmdgiicpemaa

/- disk.refuse at Cut and Drop. -/
namespace Go.Proofs.Ytjgdmdgiicpemaa
open Go.RowKit Go.Lib Go.Sort
namespace Dk
set_option maxRecDepth 100000 in
set_option maxHeartbeats 2000000 in
theorem refuse_drop (v : Value) (fs : List Fl) (nm da to : ByteArray) (sz : Int) (w : World) (hv : Files w w.heap.size v fs) (h4 : fs.length ≤ 4096) (hok : okTo fs fs.length = true) :
    Calls Try.prog 45 #[v, .agg #[.int .u8 4, .string nm, .string da, .int .i64 sz, .string to]] w fun e w' => e = .returned (.int .i64 (rsN fs nm : Nat)) ∧ Below w.heap.size w w' := by
  have HV := Lib.hid hv
  obtain ⟨a, c, rfl, -⟩ := hv
  by_cases hn : idxN fs nm < fs.length
  · have h1 := find_hit (.slice a fs.length c) fs nm (w.alloc (.cells #[.int .u8 4, .string nm, .string da, .int .i64 sz, .string to] 66)) (HV.out.al _) h4 hok hn
    rw [World.size_alloc] at h1
    have HN : Hid (rsN fs nm = 0) := by show _ = _; unfold rsN; rw [if_pos hn]
    clear hn hok
    generalize idxN fs nm = k at *
    go_enter Try.func45, Try.ntmps45
    go_wp2_with (go_at_call 25; refine h1.mono ?_; rintro e w1 ⟨rfl, hb⟩; obtain ⟨d0, d1, d2, d3, d4⟩ := boxC hb; have HB := Lib.hid hb; clear hb)
    go_quiet (fail)
    go_wp2
    go_quiet (fail)
    go_wp2
    go_ret
    exact ⟨by rw [HN.out]; rfl, by first | exact bdN (over HB.out) _ | exact bdN (bdN (over HB.out) _) _⟩
  · have h1 := find_miss (.slice a fs.length c) fs nm (w.alloc (.cells #[.int .u8 4, .string nm, .string da, .int .i64 sz, .string to] 66)) (HV.out.al _) h4 hok hn
    rw [World.size_alloc] at h1
    have HN : Hid (rsN fs nm = 6) := by show _ = _; unfold rsN; rw [if_neg hn]
    clear hn hok
    generalize lbN fs nm = k at *
    go_enter Try.func45, Try.ntmps45
    go_wp2_with (go_at_call 25; refine h1.mono ?_; rintro e w1 ⟨rfl, hb⟩; obtain ⟨d0, d1, d2, d3, d4⟩ := boxC hb; have HB := Lib.hid hb; clear hb)
    go_ret
    exact ⟨by rw [HN.out]; rfl, over HB.out⟩

def rcN (fs : List Fl) (nm : ByteArray) (sz : Int) : Nat := match fs[idxN fs nm]? with | none => 6 | some f => if sz < 0 ∨ (f.da.size : Int) < sz then 1 else 0
set_option maxRecDepth 100000 in
set_option maxHeartbeats 2000000 in
theorem refuse_cut (v : Value) (fs : List Fl) (nm da to : ByteArray) (sz : Int) (w : World) (hv : Files w w.heap.size v fs) (h4 : fs.length ≤ 4096) (hok : okTo fs fs.length = true) :
    Calls Try.prog 45 #[v, .agg #[.int .u8 2, .string nm, .string da, .int .i64 sz, .string to]] w fun e w' => e = .returned (.int .i64 (rcN fs nm sz : Nat)) ∧ Below w.heap.size w w' := by
  have HV := Lib.hid hv
  obtain ⟨a, c, rfl, hl, hs, hc⟩ := hv
  have HC := Lib.hid hc
  have HS := Lib.hid hs
  clear hs hc
  by_cases hn : idxN fs nm < fs.length
  · have h1 := find_hit (.slice a fs.length c) fs nm (w.alloc (.cells #[.int .u8 2, .string nm, .string da, .int .i64 sz, .string to] 66)) (HV.out.al _) h4 hok hn
    rw [World.size_alloc] at h1
    have HR : Hid (rcN fs nm sz = if sz < 0 ∨ (fs[idxN fs nm].da.size : Int) < sz then 1 else 0) := by show _ = _; unfold rcN; rw [List.getElem?_eq_getElem hn]
    obtain ⟨b, off, rfl, hblt, hc⟩ := HC.out (by omega)
    obtain ⟨c1, c2, c3⟩ := hc _ hn
    obtain ⟨hz1, hz2, hz3⟩ := HS.out _ (List.getElem_mem hn)
    have HC2 := Lib.hid c2
    have t1 : ((idxN fs nm : Nat) : Int) < (fs.length : Int) := by omega
    have t2 : (0 : Int) ≤ ((idxN fs nm : Nat) : Int) := by omega
    clear hok c1 c2 c3 hc
    generalize rcN fs nm sz = r at *
    generalize fs[idxN fs nm] = f at *
    generalize idxN fs nm = k at *
    by_cases hw : sz < 0
    · have HN := Lib.hid (HR.out.trans (if_pos (.inl hw)))
      go_enter Try.func45, Try.ntmps45
      go_wp2_with (go_at_call 25; refine h1.mono ?_; rintro e w1 ⟨rfl, hb⟩; obtain ⟨d0, d1, d2, d3, d4⟩ := boxC hb; have HB := Lib.hid hb; clear hb; have f2 := ((over HB.out).cell (by exact hblt)).trans HC2.out)
      go_quiet (fail)
      go_wp2
      go_ret
      exact ⟨by rw [HN.out]; rfl, by first | exact bdN (over HB.out) _ | exact bdN (bdN (over HB.out) _) _⟩
    · have t3 : decide (sz < 0) = false := by simpa using hw
      by_cases hw2 : (f.da.size : Int) < sz
      · have HN := Lib.hid (HR.out.trans (if_pos (.inr hw2)))
        go_enter Try.func45, Try.ntmps45
        go_wp2_with (go_at_call 25; refine h1.mono ?_; rintro e w1 ⟨rfl, hb⟩; obtain ⟨d0, d1, d2, d3, d4⟩ := boxC hb; have HB := Lib.hid hb; clear hb; have f2 := ((over HB.out).cell (by exact hblt)).trans HC2.out)
        go_quiet (fail)
        go_wp2
        go_ret
        exact ⟨by rw [HN.out]; rfl, by first | exact bdN (over HB.out) _ | exact bdN (bdN (over HB.out) _) _⟩
      · have t4 : decide ((f.da.size : Int) < sz) = false := by simpa using hw2
        have HN := Lib.hid (HR.out.trans (if_neg (by omega)))
        go_enter Try.func45, Try.ntmps45
        go_wp2_with (go_at_call 25; refine h1.mono ?_; rintro e w1 ⟨rfl, hb⟩; obtain ⟨d0, d1, d2, d3, d4⟩ := boxC hb; have HB := Lib.hid hb; clear hb; have f2 := ((over HB.out).cell (by exact hblt)).trans HC2.out)
        go_quiet (fail)
        go_wp2
        go_quiet (fail)
        go_wp2
        go_ret
        exact ⟨by rw [HN.out]; rfl, by first | exact bdN (over HB.out) _ | exact bdN (bdN (over HB.out) _) _⟩
  · have h1 := find_miss (.slice a fs.length c) fs nm (w.alloc (.cells #[.int .u8 2, .string nm, .string da, .int .i64 sz, .string to] 66)) (HV.out.al _) h4 hok hn
    rw [World.size_alloc] at h1
    have HN : Hid (rcN fs nm sz = 6) := by show _ = _; unfold rcN; rw [List.getElem?_eq_none (by omega)]
    clear hn hok
    generalize lbN fs nm = k at *
    go_enter Try.func45, Try.ntmps45
    go_wp2_with (go_at_call 25; refine h1.mono ?_; rintro e w1 ⟨rfl, hb⟩; obtain ⟨d0, d1, d2, d3, d4⟩ := boxC hb; have HB := Lib.hid hb; clear hb)
    go_ret
    exact ⟨by rw [HN.out]; rfl, over HB.out⟩
end Dk
end Go.Proofs.Ytjgdmdgiicpemaa

/- Add, Sync, Cut, Swap, Drop, whatever the disk is. -/
namespace Go.Proofs.Ytjgdmdgiicpemaa
open Go.RowKit Go.Lib Go.Sort
namespace Dk
structure Out where
  fs : List Fl
  dn : Bool
  fu : Int
  r : Nat
/-- What a change comes to: r why it is refused, ch what the files are then. -/
def outO (fs : List Fl) (dn : Bool) (fu : Int) (r : Nat) (ch : List Fl) (ad : Bool) : Out :=
  if chkN fs = 0 then (if dn then ⟨fs, true, fu, 8⟩ else if r = 0 then (if fu = 0 then ⟨if ad then ch else fs, true, 0, 8⟩ else ⟨ch, false, if 0 < fu then fu - 1 else fu, 0⟩) else ⟨fs, false, fu, r⟩) else ⟨[], false, 0, 10⟩
theorem do_all (v : Value) (fs : List Fl) (dn : Bool) (fu k : Int) (nm da : ByteArray) (sz : Int) (to : ByteArray) (r : Nat) (ch : List Fl) (hf : Fine fs) (hlo : -9223372036854775808 ≤ fu) (hhi : fu ≤ 9223372036854775807)
    (HR : chkN fs = 0 → Refuses fs k nm da sz to r) (HC : chkN fs = 0 → r = 0 → Changes fs ch k nm da sz to) :
    DoC v dn fu (.agg #[.int .u8 k, .string nm, .string da, .int .i64 sz, .string to]) fs (outO fs dn fu r ch (decide (k = 0))).fs (outO fs dn fu r ch (decide (k = 0))).dn (outO fs dn fu r ch (decide (k = 0))).fu (outO fs dn fu r ch (decide (k = 0))).r := by
  intro w hv
  unfold outO
  by_cases h0 : chkN fs = 0
  · rw [if_pos h0]
    cases dn with
    | true => exact do_down v fs fu k nm da sz to h0 w hv
    | false =>
      rw [if_neg (by simp)]
      by_cases hr : r = 0
      · subst hr
        rw [if_pos rfl]
        by_cases hfu : fu = 0
        · subst hfu
          rw [if_pos rfl]
          by_cases hk : k = 0
          · subst hk
            exact do_fused_add v fs ch nm da sz to hf h0 (HR h0) (HC h0 rfl) w hv
          · simp only [hk, decide_false]
            exact do_fused v fs k nm da sz to hk hf h0 (HR h0) w hv
        · rw [if_neg hfu]
          exact do_ok v fs ch fu k nm da sz to hf h0 hfu hlo hhi (HR h0) (HC h0 rfl) w hv
      · rw [if_neg hr]
        exact do_refused v fs fu k nm da sz to r hr hf h0 (HR h0) w hv
  · rw [if_neg h0]
    exact do_bad v fs dn fu k nm da sz to ((chk_two fs).resolve_left h0) w hv

def addF (fs : List Fl) (nm da : ByteArray) : Fl := match look fs nm with | some f => ⟨nm, f.da ++ da, f.sy⟩ | none => ⟨nm, da, 0⟩
def synF (fs : List Fl) (nm : ByteArray) : Fl := match look fs nm with | some f => ⟨nm, f.da, (f.da.size : Nat)⟩ | none => ⟨nm, ⟨#[]⟩, 0⟩
def cutF (fs : List Fl) (nm : ByteArray) (sz : Int) : Fl := match look fs nm with | some f => ⟨nm, f.da.extract 0 sz.toNat, min f.sy sz⟩ | none => ⟨nm, ⟨#[]⟩, 0⟩
def swpF (fs : List Fl) (nm to : ByteArray) : Fl := match look fs nm with | some f => ⟨to, f.da, f.sy⟩ | none => ⟨to, ⟨#[]⟩, 0⟩
def addO (fs : List Fl) (dn : Bool) (fu : Int) (nm da : ByteArray) : Out := outO fs dn fu (raN fs.length nm (hasN fs nm)) (putF fs (addF fs nm da)) true
def synO (fs : List Fl) (dn : Bool) (fu : Int) (nm : ByteArray) : Out := outO fs dn fu (rsN fs nm) (putF fs (synF fs nm)) false
def cutO (fs : List Fl) (dn : Bool) (fu : Int) (nm : ByteArray) (sz : Int) : Out := outO fs dn fu (rcN fs nm sz) (putF fs (cutF fs nm sz)) false
def swpO (fs : List Fl) (dn : Bool) (fu : Int) (nm to : ByteArray) : Out := outO fs dn fu (rwN fs nm to) (putF (fs.eraseIdx (idxN fs nm)) (swpF fs nm to)) false
def drpO (fs : List Fl) (dn : Bool) (fu : Int) (nm : ByteArray) : Out := outO fs dn fu (rsN fs nm) (fs.eraseIdx (idxN fs nm)) false
theorem look_at (fs : List Fl) (nm : ByteArray) (hn : idxN fs nm < fs.length) : look fs nm = some fs[idxN fs nm] := List.getElem?_eq_getElem hn
theorem look_miss (fs : List Fl) (nm : ByteArray) (hn : ¬ idxN fs nm < fs.length) : look fs nm = none := List.getElem?_eq_none (by omega)

theorem add_all (v : Value) (fs : List Fl) (dn : Bool) (fu : Int) (nm da : ByteArray) (hlo : -9223372036854775808 ≤ fu) (hhi : fu ≤ 9223372036854775807) (hz0 : da.size ≤ 9223372036854775807) (hz : ∀ f ∈ fs, f.da.size + da.size ≤ 9223372036854775807) (w : World) (hv : Files w w.heap.size v fs) :
    Calls Try.prog 9 #[.agg #[v, .bool dn, .int .i64 fu], .string nm, .string da] w (DoIs w (addO fs dn fu nm da).fs (addO fs dn fu nm da).dn (addO fs dn fu nm da).fu (addO fs dn fu nm da).r) := by
  refine add_of v dn fu fs _ _ _ _ nm da ?_ w hv
  refine do_all v fs dn fu 0 nm da 0 ByteArray.empty _ _ hv.fine hlo hhi (fun h0 => ?_) (fun h0 _ => ?_)
  · obtain ⟨h4, hok⟩ := chk_fine fs h0
    exact fun w1 v1 hv1 => refuse_add v1 fs nm da _ 0 w1 hv1 h4 hok
  · obtain ⟨h4, hok⟩ := chk_fine fs h0
    intro base w1 v1 hb ho
    by_cases hn : idxN fs nm < fs.length
    · refine (changed_add_hit v1 fs nm da _ 0 base w1 hb ho hv.fine h4 hok hn (hz _ (List.getElem_mem hn))).mono ?_
      rintro e w' ⟨rfl, h1, h2⟩
      refine ⟨_, rfl, ?_, h2⟩
      unfold putF addF
      rw [look_at fs nm hn]
      simp only
      rw [if_pos hn]
      have e := idx_nm fs nm hn
      generalize fs[idxN fs nm] = f at *
      rcases f with ⟨a, b, c⟩
      simp only at e
      subst e
      exact h1
    · refine (changed_add_miss v1 fs nm da _ 0 base w1 hb ho hv.fine h4 hok hn hz0).mono ?_
      rintro e w' ⟨v', rfl, h1, h2⟩
      refine ⟨_, rfl, ?_, h2⟩
      unfold putF addF
      rw [look_miss fs nm hn]
      simp only
      rw [if_neg hn]
      exact h1
theorem sync_all (v : Value) (fs : List Fl) (dn : Bool) (fu : Int) (nm : ByteArray) (hlo : -9223372036854775808 ≤ fu) (hhi : fu ≤ 9223372036854775807) (w : World) (hv : Files w w.heap.size v fs) :
    Calls Try.prog 36 #[.agg #[v, .bool dn, .int .i64 fu], .string nm] w (DoIs w (synO fs dn fu nm).fs (synO fs dn fu nm).dn (synO fs dn fu nm).fu (synO fs dn fu nm).r) := by
  refine sync_of v dn fu fs _ _ _ _ nm ?_ w hv
  refine do_all v fs dn fu 1 nm ByteArray.empty 0 ByteArray.empty _ _ hv.fine hlo hhi (fun h0 => ?_) (fun h0 hr => ?_)
  · obtain ⟨h4, hok⟩ := chk_fine fs h0
    exact fun w1 v1 hv1 => refuse_sync v1 fs nm _ _ 0 w1 hv1 h4 hok
  · obtain ⟨h4, hok⟩ := chk_fine fs h0
    have hn : idxN fs nm < fs.length := by
      unfold rsN at hr
      split at hr
      · assumption
      · cases hr
    intro base w1 v1 hb ho
    refine (changed_sync_hit v1 fs nm _ _ 0 base w1 hb ho hv.fine h4 hok hn).mono ?_
    rintro e w' ⟨rfl, h1, h2⟩
    refine ⟨_, rfl, ?_, h2⟩
    unfold putF synF
    rw [look_at fs nm hn]
    simp only
    rw [if_pos hn]
    have e := idx_nm fs nm hn
    generalize fs[idxN fs nm] = f at *
    rcases f with ⟨a, b, c⟩
    simp only at e
    subst e
    exact h1
theorem rw_zero {fs : List Fl} {nm to : ByteArray} (hr : rwN fs nm to = 0) : idxN fs nm < fs.length := by
  unfold rwN at hr
  by_cases hn : idxN fs nm < fs.length
  · exact hn
  · rw [List.getElem?_eq_none (by omega)] at hr
    cases hr
theorem rs_zero {fs : List Fl} {nm : ByteArray} (hr : rsN fs nm = 0) : idxN fs nm < fs.length := by
  unfold rsN at hr
  split at hr
  · assumption
  · cases hr
theorem swap_all (v : Value) (fs : List Fl) (dn : Bool) (fu : Int) (nm to : ByteArray) (hlo : -9223372036854775808 ≤ fu) (hhi : fu ≤ 9223372036854775807) (w : World) (hv : Files w w.heap.size v fs) :
    Calls Try.prog 38 #[.agg #[v, .bool dn, .int .i64 fu], .string nm, .string to] w (DoIs w (swpO fs dn fu nm to).fs (swpO fs dn fu nm to).dn (swpO fs dn fu nm to).fu (swpO fs dn fu nm to).r) := by
  refine swap_of v dn fu fs _ _ _ _ nm to ?_ w hv
  refine do_all v fs dn fu 3 nm ByteArray.empty 0 to _ _ hv.fine hlo hhi (fun h0 => ?_) (fun h0 hr => ?_)
  · obtain ⟨h4, hok⟩ := chk_fine fs h0
    exact fun w1 v1 hv1 => refuse_swap v1 fs nm _ to 0 w1 hv1 h4 hok
  · obtain ⟨h4, hok⟩ := chk_fine fs h0
    have hn := rw_zero hr
    intro base w1 v1 hb ho
    refine (changed_swap v1 fs nm _ to 0 base w1 hb ho hv.fine h4 hok hn (del_ok hok _)).mono ?_
    rintro e w' ⟨v', rfl, h1, h2⟩
    refine ⟨_, rfl, ?_, h2⟩
    unfold swpF
    rw [look_at fs nm hn]
    exact h1
theorem drop_all (v : Value) (fs : List Fl) (dn : Bool) (fu : Int) (nm : ByteArray) (hlo : -9223372036854775808 ≤ fu) (hhi : fu ≤ 9223372036854775807) (w : World) (hv : Files w w.heap.size v fs) :
    Calls Try.prog 33 #[.agg #[v, .bool dn, .int .i64 fu], .string nm] w (DoIs w (drpO fs dn fu nm).fs (drpO fs dn fu nm).dn (drpO fs dn fu nm).fu (drpO fs dn fu nm).r) := by
  refine drop_of v dn fu fs _ _ _ _ nm ?_ w hv
  refine do_all v fs dn fu 4 nm ByteArray.empty 0 ByteArray.empty _ _ hv.fine hlo hhi (fun h0 => ?_) (fun h0 hr => ?_)
  · obtain ⟨h4, hok⟩ := chk_fine fs h0
    exact fun w1 v1 hv1 => refuse_drop v1 fs nm _ _ 0 w1 hv1 h4 hok
  · obtain ⟨h4, hok⟩ := chk_fine fs h0
    exact fun base w1 v1 hb ho => changed_drop v1 fs nm _ _ 0 base w1 hb ho hv.fine h4 hok (rs_zero hr)
end Dk
end Go.Proofs.Ytjgdmdgiicpemaa

/- LAW: DiskSwapped. -/
namespace Go.Proofs.Ytjgdmdgiicpemaa
open Go.RowKit Go.Lib Go.Sort
namespace Dk
theorem rd_zero {fs : List Fl} (h : chkN fs = 0) : rdN fs false = 0 := by unfold rdN; rw [if_pos h]; rfl
theorem rd_some {fs : List Fl} {nm : ByteArray} {f : Fl} (h : chkN fs = 0) (hl : look fs nm = some f) : rdS fs false nm = f.da ∧ rdE fs false nm = 0 := by
  obtain ⟨h1, h2⟩ := List.getElem?_eq_some_iff.1 hl
  have hl' : fs[idxN fs nm]? = some f := hl
  unfold rdS rdE
  rw [rd_zero h, if_pos rfl, if_pos rfl, hl', if_pos h1]
  exact ⟨rfl, rfl⟩
theorem rd_none {fs : List Fl} {nm : ByteArray} (h : chkN fs = 0) (hl : look fs nm = none) : rdS fs false nm = ⟨#[]⟩ ∧ rdE fs false nm = 6 := by
  have hl' : fs[idxN fs nm]? = none := hl
  have h1 : ¬ idxN fs nm < fs.length := fun h => by rw [List.getElem?_eq_getElem h] at hl'; cases hl'
  unfold rdS rdE
  rw [rd_zero h, if_pos rfl, if_pos rfl, hl', if_neg h1]
  exact ⟨rfl, rfl⟩
theorem chk_of {fs : List Fl} (h4 : fs.length ≤ 4096) (hok : okTo fs fs.length = true) : chkN fs = 0 := chk_good fs (by omega) hok
theorem outO_ok {fs : List Fl} {dn : Bool} {fu : Int} {r : Nat} {ch : List Fl} {ad : Bool} (h : (outO fs dn fu r ch ad).r = 0) : chkN fs = 0 ∧ dn = false ∧ r = 0 ∧ fu ≠ 0 ∧ outO fs dn fu r ch ad = ⟨ch, false, if 0 < fu then fu - 1 else fu, 0⟩ := by
  unfold outO at h ⊢
  by_cases h0 : chkN fs = 0
  · rw [if_pos h0] at h ⊢
    cases dn with
    | true => simp at h
    | false =>
      rw [if_neg (by simp)] at h ⊢
      by_cases hr : r = 0
      · rw [if_pos hr] at h ⊢
        by_cases hf : fu = 0
        · rw [if_pos hf] at h; simp at h
        · rw [if_neg hf] at h ⊢
          exact ⟨h0, rfl, hr, hf, rfl⟩
      · rw [if_neg hr] at h
        exact absurd h hr
  · rw [if_neg h0] at h; simp at h
/-- What stands behind a Swap that is done. -/
theorem swp_ok {fs : List Fl} {dn : Bool} {fu : Int} {nm to : ByteArray} (hf : Fine fs) (h : (swpO fs dn fu nm to).r = 0) :
    ∃ gs f, swpO fs dn fu nm to = ⟨gs, false, if 0 < fu then fu - 1 else fu, 0⟩ ∧ dn = false ∧ chkN fs = 0 ∧ chkN gs = 0 ∧ look fs nm = some f ∧ look gs to = some ⟨to, f.da, f.sy⟩ ∧ (nm ≠ to → look gs nm = none) ∧ Fine gs ∧ gs.length ≤ 4096 := by
  obtain ⟨h0, rfl, hr, hfu, he⟩ := outO_ok h
  obtain ⟨h4, hok⟩ := chk_fine fs h0
  have hn := rw_zero hr
  have hl := look_at fs nm hn
  have hm := List.getElem_mem hn
  have hok2 := del_ok hok (idxN fs nm)
  have hel : (fs.eraseIdx (idxN fs nm)).length = fs.length - 1 := List.length_eraseIdx_of_lt hn
  have hsw : swpF fs nm to = ⟨to, fs[idxN fs nm].da, fs[idxN fs nm].sy⟩ := by unfold swpF; rw [hl]
  refine ⟨_, fs[idxN fs nm], he, rfl, h0, ?_, hl, ?_, fun hne => ?_, ?_, ?_⟩
  · refine chk_of ?_ (put_ok hok2 _ ?_)
    · rw [put_len _ hok2]; split <;> omega
    · rw [hsw]; exact (ok_bd hok fs[idxN fs nm] hm)
  · rw [hsw]; exact look_put hok2 ⟨to, fs[idxN fs nm].da, fs[idxN fs nm].sy⟩
  · rw [hsw]
    exact (look_put_ne hok2 ⟨to, fs[idxN fs nm].da, fs[idxN fs nm].sy⟩ nm hne).trans (look_del_self hok nm hn)
  · rw [hsw]
    exact put_fine (fun x hx => hf x (List.mem_of_mem_eraseIdx hx)) hok2 _ (hf fs[idxN fs nm] hm)
  · rw [put_len _ hok2]; split <;> omega

end Dk
end Go.Proofs.Ytjgdmdgiicpemaa

/- LAW: DiskSafe. -/
namespace Go.Proofs.Ytjgdmdgiicpemaa
open Go.RowKit Go.Lib Go.Sort
namespace Dk
theorem chk_same (fs gs : List Fl) (h : chkN fs = 0) (hl : gs.length = fs.length) (hn : ∀ i (h1 : i < gs.length) (h2 : i < fs.length), gs[i].nm = fs[i].nm) (hb : ∀ i (h1 : i < gs.length), 0 ≤ gs[i].sy ∧ gs[i].sy ≤ gs[i].da.size) : chkN gs = 0 := by
  obtain ⟨h4, hok⟩ := chk_fine fs h
  refine chk_good gs (by omega) ?_
  unfold okTo
  rw [List.all_eq_true]
  intro i hi
  have hi := List.mem_range.1 hi
  have h2 : i < fs.length := by omega
  have hf := okAt_of fs hok i h2
  obtain ⟨b1, b2⟩ := hb i hi
  cases i with
  | zero =>
    rw [okAt_zero gs hi]
    simp; omega
  | succ j =>
    rw [okAt_succ fs j h2] at hf
    rw [okAt_succ gs j hi, hn j (by omega) (by omega), hn (j + 1) hi h2]
    simp at hf ⊢
    exact ⟨⟨hf.1.1, by omega⟩, by omega⟩
/-- What a crash leaves of a right disk, file by file. -/
theorem crS_each (fs : List Fl) (ks : List Int) (h : chkN fs = 0) (i : Nat) (hi : i < fs.length) (hi2 : i < (crS fs ks fs.length).length) :
    ∃ D : ByteArray, (crS fs ks fs.length)[i] = ⟨fs[i].nm, D, (D.size : Nat)⟩ ∧ fs[i].sy ≤ (D.size : Nat) ∧ D.size ≤ fs[i].da.size ∧ fs[i].da.extract 0 D.size = D := by
  have h1 := sy_fine fs (chk_fine fs h).2 i hi
  have h2 := crN_le fs[i] ks[i]? h1
  have e : (crS fs ks fs.length)[i] = crF fs[i] (crN fs[i] ks[i]?) := by
    have := crM_at fs ks _ i hi (Nat.le_refl _)
    rw [← this]
    congr 1
    exact crS_crM fs ks
  have hs : (fs[i].da.extract 0 (crN fs[i] ks[i]?)).size = crN fs[i] ks[i]? := by rw [ByteArray.size_extract]; omega
  refine ⟨fs[i].da.extract 0 (crN fs[i] ks[i]?), ?_, ?_, ?_, ?_⟩
  · rw [e, hs]; rfl
  · rw [hs]; exact h2.1
  · rw [hs]; exact h2.2
  · rw [hs]
theorem crS_again (gs : List Fl) (ks : List Int) (h : ∀ i (h1 : i < gs.length), gs[i].sy = (gs[i].da.size : Nat)) : crS gs ks gs.length = gs := by
  rw [crS_crM]
  apply List.ext_getElem (crM_len _ _ _)
  intro i h1 h2
  rw [crM_at gs ks _ i h2 (Nat.le_refl _)]
  have e := h i h2
  have hn : crN gs[i] ks[i]? = gs[i].da.size := by
    have := crN_le gs[i] ks[i]? ⟨by omega, by omega⟩
    omega
  rw [hn]
  unfold crF
  rw [ext_all]
  rcases hg : gs[i] with ⟨a, b, c⟩
  rw [hg] at e
  simp at e ⊢
  omega

end Dk
end Go.Proofs.Ytjgdmdgiicpemaa

/- LAW: DiskBehind. -/
namespace Go.Proofs.Ytjgdmdgiicpemaa
open Go.RowKit Go.Lib Go.Sort
namespace Dk
theorem addF_nm (fs : List Fl) (nm da : ByteArray) : (addF fs nm da).nm = nm := by unfold addF; split <;> rfl
theorem ra_zero {fs : List Fl} {nm : ByteArray} (h : raN fs.length nm (hasN fs nm) = 0) : idxN fs nm < fs.length ∨ fs.length < 4096 := by
  unfold raN hasN at h
  by_cases hn : idxN fs nm < fs.length
  · exact .inl hn
  · right
    simp only [hn, decide_false, Bool.false_eq_true, if_false] at h
    split at h
    · split at h
      · cases h
      · omega
    · cases h
theorem addF_fine {fs : List Fl} {nm da : ByteArray} (hf : Fine fs) (hz0 : da.size ≤ 9223372036854775807) (hz : ∀ f ∈ fs, f.da.size + da.size ≤ 9223372036854775807) : (addF fs nm da).da.size ≤ maxLen ∧ -9223372036854775808 ≤ (addF fs nm da).sy ∧ (addF fs nm da).sy ≤ 9223372036854775807 := by
  unfold addF
  cases hl : look fs nm with
  | none => simp only [maxLen]; exact ⟨by omega, by omega, by omega⟩
  | some f =>
    obtain ⟨hm, -⟩ := look_mem hl
    have h1 := hz f hm
    have h2 := hf f hm
    simp only [maxLen]
    rw [ByteArray.size_append]
    exact ⟨by omega, h2.2⟩
theorem addF_bd {fs : List Fl} {nm da : ByteArray} (hb : Bd fs) : 0 ≤ (addF fs nm da).sy ∧ (addF fs nm da).sy ≤ (addF fs nm da).da.size := by
  unfold addF
  cases hl : look fs nm with
  | none => simp
  | some f =>
    obtain ⟨hm, -⟩ := look_mem hl
    have h1 := hb f hm
    simp only
    rw [ByteArray.size_append]
    omega
/-- What stands behind an Add that is done. -/
theorem add_ok {fs : List Fl} {dn : Bool} {fu : Int} {nm da : ByteArray} (hf : Fine fs) (hz0 : da.size ≤ 9223372036854775807) (hz : ∀ f ∈ fs, f.da.size + da.size ≤ 9223372036854775807) (h : (addO fs dn fu nm da).r = 0) :
    ∃ gs, addO fs dn fu nm da = ⟨gs, false, if 0 < fu then fu - 1 else fu, 0⟩ ∧ dn = false ∧ chkN fs = 0 ∧ chkN gs = 0 ∧ look gs nm = some (addF fs nm da) ∧ (∀ nm2, nm2 ≠ nm → look gs nm2 = look fs nm2) ∧ Fine gs ∧ gs.length ≤ 4096 := by
  obtain ⟨h0, rfl, hr, hfu, he⟩ := outO_ok h
  obtain ⟨h4, hok⟩ := chk_fine fs h0
  have hnm := addF_nm fs nm da
  have hlen : (putF fs (addF fs nm da)).length ≤ 4096 := by
    rw [put_len _ hok, hnm]
    rcases ra_zero hr with h1 | h1
    · rw [if_pos h1]; omega
    · split <;> omega
  refine ⟨_, he, rfl, h0, chk_of hlen (put_ok hok _ (addF_bd (ok_bd hok))), ?_, fun nm2 hne => ?_, put_fine hf hok _ (addF_fine hf hz0 hz), hlen⟩
  · have := look_put hok (addF fs nm da)
    rwa [hnm] at this
  · exact look_put_ne hok _ nm2 (by rw [hnm]; exact hne)
/-- What a Sync of a file that is there comes to. -/
theorem syn_ok {fs : List Fl} {fu : Int} {nm : ByteArray} {g : Fl} (hf : Fine fs) (h0 : chkN fs = 0) (hl : look fs nm = some g) :
    (fu = 0 → synO fs false fu nm = ⟨fs, true, 0, 8⟩) ∧ (fu ≠ 0 → ∃ hs, synO fs false fu nm = ⟨hs, false, if 0 < fu then fu - 1 else fu, 0⟩ ∧ chkN hs = 0 ∧ look hs nm = some ⟨nm, g.da, (g.da.size : Nat)⟩ ∧ Fine hs ∧ hs.length ≤ 4096) := by
  obtain ⟨h4, hok⟩ := chk_fine fs h0
  obtain ⟨hm, he⟩ := look_mem hl
  have hn := idx_ex fs nm hm he
  have hrs : rsN fs nm = 0 := by unfold rsN; rw [if_pos hn]
  have hsy : synF fs nm = ⟨nm, g.da, (g.da.size : Nat)⟩ := by unfold synF; rw [hl]
  have hg := hf g hm
  unfold synO outO
  rw [if_pos h0, if_neg (by simp), hrs, if_pos rfl, hsy]
  refine ⟨fun h => by rw [if_pos h]; rfl, fun h => ?_⟩
  rw [if_neg h]
  have hlen : (putF fs ⟨nm, g.da, (g.da.size : Nat)⟩).length ≤ 4096 := by rw [put_len _ hok]; simp only; rw [if_pos hn]; exact h4
  refine ⟨_, rfl, chk_of hlen (put_ok hok _ (by simp)), look_put hok ⟨nm, g.da, (g.da.size : Nat)⟩, put_fine hf hok _ ?_, hlen⟩
  have h7 := hg.1
  simp only [maxLen] at *
  exact ⟨h7, by omega, by omega⟩
/-- A file that is synced is there behind any crash. -/
theorem crash_look {fs : List Fl} {ks : List Int} {nm : ByteArray} {g : Fl} (h0 : chkN fs = 0) (hl : look fs nm = some g) (hs : g.sy = (g.da.size : Nat)) :
    chkN (crS fs ks fs.length) = 0 ∧ look (crS fs ks fs.length) nm = some g := by
  have h9 : chkN (crS fs ks fs.length) = 0 := chk_same fs _ h0 (crS_len _ _ _) (fun i i1 i2 => by obtain ⟨D, e, -⟩ := crS_each fs ks h0 i i2 i1; rw [e]) (fun i i1 => by obtain ⟨D, e, -⟩ := crS_each fs ks h0 i (by rw [crS_len] at i1; exact i1) i1; rw [e]; simp)
  refine ⟨h9, ?_⟩
  obtain ⟨hm, he⟩ := look_mem hl
  have hsr := ok_srt (chk_fine _ h9).2
  have hmem : g ∈ crS fs ks fs.length := by
    obtain ⟨i, hi, hgi⟩ := List.getElem_of_mem hm
    have hi2 : i < (crS fs ks fs.length).length := by rw [crS_len]; exact hi
    obtain ⟨D, e, d1, d2, d3⟩ := crS_each fs ks h0 i hi hi2
    rw [hgi] at e d1 d2 d3
    have hD : D.size = g.da.size := by omega
    rw [hD, ext_all] at d3
    refine List.mem_iff_getElem.2 ⟨i, hi2, ?_⟩
    rw [e, ← d3, ← hs]
  rw [← he]
  exact look_of hsr hmem

end Dk
end Go.Proofs.Ytjgdmdgiicpemaa
