/-
  MATHS OF SORTED LISTS OF FILES: a file put in, taken out, looked up.
-/
import Derived.Test.YtohhiheebhcgeaaDiskPut
namespace Go.Proofs.Ytohhiheebhcgeaa
open Go.RowKit Go.Lib Go.Sort
namespace Dk
theorem toList_inj {a b : ByteArray} (e : a.toList = b.toList) : a = b := by
  rw [ByteArray.toList_eq, ByteArray.toList_eq] at e
  exact ByteArray.ext (Array.ext' e)
def Lt (a b : Fl) : Prop := Op.bytesLess a.nm.toList b.nm.toList = true
def Bd (fs : List Fl) : Prop := ∀ f ∈ fs, 0 ≤ f.sy ∧ f.sy ≤ f.da.size
theorem Lt.ne {a b : Fl} (h : Lt a b) : a.nm ≠ b.nm := by
  intro e
  unfold Lt at h
  rw [e, lt_irrefl'] at h
  cases h
theorem Lt.trans {a b c : Fl} (h : Lt a b) (h2 : Lt b c) : Lt a c := lt_trans' _ _ _ h h2
theorem Lt.asymm {a b : Fl} (h : Lt a b) (h2 : Lt b a) : False := (h.trans h2).ne rfl
theorem ok_srt {fs : List Fl} (h : okTo fs fs.length = true) : fs.Pairwise Lt := by
  rw [List.pairwise_iff_getElem]
  intro i j hi hj hij
  exact rise fs h i j hij hj
theorem ok_bd {fs : List Fl} (h : okTo fs fs.length = true) : Bd fs := by
  intro f hm
  obtain ⟨i, hi, rfl⟩ := List.getElem_of_mem hm
  exact sy_fine fs h i hi
theorem ok_of {fs : List Fl} (hs : fs.Pairwise Lt) (hb : Bd fs) : okTo fs fs.length = true := by
  unfold okTo
  rw [List.all_eq_true]
  intro i hi
  have hi := List.mem_range.1 hi
  obtain ⟨b1, b2⟩ := hb _ (List.getElem_mem hi)
  cases i with
  | zero => rw [okAt_zero fs hi]; simp; omega
  | succ j =>
    rw [okAt_succ fs j hi]
    have h1 : Lt fs[j] fs[j + 1] := (List.pairwise_iff_getElem.1 hs) j (j + 1) (by omega) hi (by omega)
    unfold Lt at h1
    simp
    exact ⟨⟨h1, by omega⟩, by omega⟩
theorem idx_nm (fs : List Fl) (nm : ByteArray) (h : idxN fs nm < fs.length) : fs[idxN fs nm].nm = nm := toList_inj (idx_at fs nm h)
theorem idx_ex (fs : List Fl) (nm : ByteArray) {f : Fl} (hf : f ∈ fs) (he : f.nm = nm) : idxN fs nm < fs.length := by
  obtain ⟨i, hi, rfl⟩ := List.getElem_of_mem hf
  exact idx_lt fs nm i hi (by rw [he])
theorem srt_uni {fs : List Fl} (hs : fs.Pairwise Lt) {i j : Nat} (hi : i < fs.length) (hj : j < fs.length) (he : fs[i].nm = fs[j].nm) : i = j := by
  rcases Nat.lt_trichotomy i j with h | h | h
  · exact absurd he ((List.pairwise_iff_getElem.1 hs) i j hi hj h).ne
  · exact h
  · exact absurd he.symm ((List.pairwise_iff_getElem.1 hs) j i hj hi h).ne
def look (fs : List Fl) (nm : ByteArray) : Option Fl := fs[idxN fs nm]?
theorem look_of {fs : List Fl} (hs : fs.Pairwise Lt) {f : Fl} (hf : f ∈ fs) : look fs f.nm = some f := by
  obtain ⟨i, hi, rfl⟩ := List.getElem_of_mem hf
  have h1 := idx_ex fs fs[i].nm (List.getElem_mem hi) rfl
  have h2 := srt_uni hs h1 hi (idx_nm fs _ h1)
  unfold look
  rw [List.getElem?_eq_getElem h1]
  simp only [h2]
theorem look_mem {fs : List Fl} {nm : ByteArray} {f : Fl} (h : look fs nm = some f) : f ∈ fs ∧ f.nm = nm := by
  unfold look at h
  obtain ⟨h1, h2⟩ := List.getElem?_eq_some_iff.1 h
  have := idx_nm fs nm h1
  rw [h2] at this
  exact ⟨h2 ▸ List.getElem_mem h1, this⟩
theorem look_none {fs : List Fl} {nm : ByteArray} : look fs nm = none ↔ ∀ f ∈ fs, f.nm ≠ nm := by
  constructor
  · intro h f hf he
    have := idx_ex fs nm hf he
    unfold look at h
    rw [List.getElem?_eq_getElem this] at h
    cases h
  · intro h
    cases hl : look fs nm with
    | none => rfl
    | some f => exact absurd (look_mem hl).2 (h f (look_mem hl).1)
theorem look_ext {fs gs : List Fl} (_hs : fs.Pairwise Lt) (hg : gs.Pairwise Lt) (nm : ByteArray) (h : ∀ x, x.nm = nm → (x ∈ fs ↔ x ∈ gs)) : look fs nm = look gs nm := by
  cases hl : look fs nm with
  | some f =>
    obtain ⟨h1, rfl⟩ := look_mem hl
    exact (look_of hg ((h f rfl).1 h1)).symm
  | none =>
    have h1 := look_none.1 hl
    exact (look_none.2 fun x hx he => h1 x ((h x he).2 hx) he).symm
/-- Who stands ahead of the place of a name, and who behind. -/
theorem lb_take {fs : List Fl} (h : okTo fs fs.length = true) (f : Fl) : ∀ x ∈ fs.take (lbN fs f.nm), Lt x f := by
  intro x hx
  obtain ⟨i, hi, rfl⟩ := List.getElem_of_mem hx
  rw [List.getElem_take]
  rw [List.length_take] at hi
  exact (lb_spec fs f.nm h).2.1 i (by omega) (by omega)
theorem lb_drop {fs : List Fl} (h : okTo fs fs.length = true) (f : Fl) (hn : ¬ idxN fs f.nm < fs.length) : ∀ x ∈ fs.drop (lbN fs f.nm), Lt f x := by
  intro x hx
  obtain ⟨i, hi, rfl⟩ := List.getElem_of_mem hx
  rw [List.getElem_drop]
  rw [List.length_drop] at hi
  have h1 := (lb_spec fs f.nm h).2.2 (lbN fs f.nm + i) (by omega) (by omega)
  cases hb : Op.bytesLess f.nm.toList fs[lbN fs f.nm + i].nm.toList with
  | true => exact hb
  | false => exact absurd (idx_lt fs f.nm _ (by omega) (lt_conn _ _ h1 hb)) hn
theorem put_srt {fs : List Fl} (h : okTo fs fs.length = true) (f : Fl) : (putF fs f).Pairwise Lt := by
  have hs := ok_srt h
  unfold putF
  split
  · rename_i hn
    rw [List.pairwise_iff_getElem]
    intro i j hi hj hij
    rw [List.length_set] at hi hj
    have hx : ∀ k (hk : k < fs.length), ((fs.set (idxN fs f.nm) f)[k]'(by rw [List.length_set]; exact hk)).nm = fs[k].nm := by
      intro k hk
      rw [List.getElem_set]
      split
      · rename_i e; subst e; exact (idx_nm fs f.nm hn).symm
      · rfl
    unfold Lt
    rw [hx i hi, hx j hj]
    exact (List.pairwise_iff_getElem.1 hs) i j hi hj hij
  · rename_i hn
    unfold insF
    rw [List.pairwise_append]
    refine ⟨hs.sublist (List.take_sublist _ _), ?_, ?_⟩
    · rw [List.pairwise_cons]
      exact ⟨lb_drop h f hn, hs.sublist (List.drop_sublist _ _)⟩
    · intro a ha b hb
      rcases List.mem_cons.1 hb with rfl | hb
      · exact lb_take h b a ha
      · exact (lb_take h f a ha).trans (lb_drop h f hn b hb)
theorem put_mem {fs : List Fl} (h : okTo fs fs.length = true) (f x : Fl) : x ∈ putF fs f ↔ x = f ∨ (x ∈ fs ∧ x.nm ≠ f.nm) := by
  have hs := ok_srt h
  unfold putF
  split
  · rename_i hn
    constructor
    · intro hx
      obtain ⟨i, hi, rfl⟩ := List.getElem_of_mem hx
      rw [List.length_set] at hi
      rw [List.getElem_set]
      split
      · exact .inl rfl
      · rename_i hne
        refine .inr ⟨List.getElem_mem _, fun e => hne ?_⟩
        exact srt_uni hs hn hi ((idx_nm fs f.nm hn).trans e.symm)
    · rintro (rfl | ⟨hx, hne⟩)
      · exact List.mem_iff_getElem.2 ⟨idxN fs x.nm, by rw [List.length_set]; exact hn, List.getElem_set_self _⟩
      · obtain ⟨i, hi, rfl⟩ := List.getElem_of_mem hx
        refine List.mem_iff_getElem.2 ⟨i, by rw [List.length_set]; exact hi, ?_⟩
        rw [List.getElem_set_ne]
        intro e
        subst e
        exact hne (idx_nm fs f.nm hn)
  · rename_i hn
    unfold insF
    rw [List.mem_append, List.mem_cons]
    have hno : ∀ y ∈ fs, y.nm ≠ f.nm := fun y hy e => hn (idx_ex fs f.nm hy e)
    have hm : x ∈ fs ↔ x ∈ fs.take (lbN fs f.nm) ∨ x ∈ fs.drop (lbN fs f.nm) := by rw [← List.mem_append, List.take_append_drop]
    constructor
    · rintro (hx | rfl | hx)
      · exact .inr ⟨hm.2 (.inl hx), hno x (hm.2 (.inl hx))⟩
      · exact .inl rfl
      · exact .inr ⟨hm.2 (.inr hx), hno x (hm.2 (.inr hx))⟩
    · rintro (rfl | ⟨hx, -⟩)
      · exact .inr (.inl rfl)
      · rcases hm.1 hx with h | h
        · exact .inl h
        · exact .inr (.inr h)
theorem put_ok {fs : List Fl} (h : okTo fs fs.length = true) (f : Fl) (hf : 0 ≤ f.sy ∧ f.sy ≤ f.da.size) : okTo (putF fs f) (putF fs f).length = true :=
  ok_of (put_srt h f) (fun x hx => by
    rcases (put_mem h f x).1 hx with rfl | ⟨h1, -⟩
    · exact hf
    · exact ok_bd h x h1)
theorem look_put {fs : List Fl} (h : okTo fs fs.length = true) (f : Fl) : look (putF fs f) f.nm = some f := look_of (put_srt h f) ((put_mem h f f).2 (.inl rfl))
theorem look_put_ne {fs : List Fl} (h : okTo fs fs.length = true) (f : Fl) (nm : ByteArray) (hne : nm ≠ f.nm) : look (putF fs f) nm = look fs nm :=
  look_ext (put_srt h f) (ok_srt h) nm (fun x hx => by
    rw [put_mem h f x]
    constructor
    · rintro (rfl | h1)
      · exact absurd hx.symm hne
      · exact h1.1
    · exact fun h1 => .inr ⟨h1, by rw [hx]; exact hne⟩)
theorem del_mem {fs : List Fl} (hs : fs.Pairwise Lt) (nm : ByteArray) (hn : idxN fs nm < fs.length) (x : Fl) : x ∈ fs.eraseIdx (idxN fs nm) ↔ x ∈ fs ∧ x.nm ≠ nm := by
  rw [List.mem_eraseIdx_iff_getElem]
  constructor
  · rintro ⟨i, hi, hne, rfl⟩
    exact ⟨List.getElem_mem _, fun e => hne (srt_uni hs hi hn (e.trans (idx_nm fs nm hn).symm))⟩
  · rintro ⟨hx, hne⟩
    obtain ⟨i, hi, rfl⟩ := List.getElem_of_mem hx
    exact ⟨i, hi, fun e => hne (by subst e; exact idx_nm fs nm hn), rfl⟩
theorem del_ok {fs : List Fl} (h : okTo fs fs.length = true) (i : Nat) : okTo (fs.eraseIdx i) (fs.eraseIdx i).length = true :=
  ok_of ((ok_srt h).sublist (List.eraseIdx_sublist _ _)) (fun x hx => ok_bd h x (List.mem_of_mem_eraseIdx hx))
theorem look_del {fs : List Fl} (h : okTo fs fs.length = true) (nm nm2 : ByteArray) (hn : idxN fs nm < fs.length) (hne : nm2 ≠ nm) : look (fs.eraseIdx (idxN fs nm)) nm2 = look fs nm2 :=
  look_ext (ok_srt (del_ok h _)) (ok_srt h) nm2 (fun x hx => by rw [del_mem (ok_srt h) nm hn]; exact ⟨fun h1 => h1.1, fun h1 => ⟨h1, by rw [hx]; exact hne⟩⟩)
theorem look_del_self {fs : List Fl} (h : okTo fs fs.length = true) (nm : ByteArray) (hn : idxN fs nm < fs.length) : look (fs.eraseIdx (idxN fs nm)) nm = none :=
  look_none.2 (fun x hx => ((del_mem (ok_srt h) nm hn x).1 hx).2)
theorem put_len (fs : List Fl) (h : okTo fs fs.length = true) (f : Fl) : (putF fs f).length = if idxN fs f.nm < fs.length then fs.length else fs.length + 1 := by
  unfold putF
  split
  · rw [List.length_set]
  · rw [insF_len _ _ _ (lb_le fs f.nm h)]
theorem put_fine {fs : List Fl} (hf : Fine fs) (h : okTo fs fs.length = true) (f : Fl) (h1 : f.da.size ≤ maxLen ∧ -9223372036854775808 ≤ f.sy ∧ f.sy ≤ 9223372036854775807) : Fine (putF fs f) := fun x hx => by
  rcases (put_mem h f x).1 hx with rfl | ⟨h2, -⟩
  · exact h1
  · exact hf x h2
end Dk
end Go.Proofs.Ytohhiheebhcgeaa
