/-
  FILES OF THE CALL's OWN: a row that the call made holds the files fs; slices.Clone.
-/
import Derived.Test.YtjgdmdgiicpemaaDiskRead
import Derived.Laws.OwnMore
import Derived.Deep.OwnRows
import Derived.Lib.SmallJoins
namespace Go.Proofs.Ytjgdmdgiicpemaa
open Go.RowKit Go.Lib Go.Sort
namespace Dk

def encF (f : Fl) : List Value := [.string f.nm, .string f.da, .int .i64 f.sy]
def flat : List Fl → List Value
  | [] => []
  | f :: r => encF f ++ flat r
theorem flat_len (fs : List Fl) : (flat fs).length = fs.length * 3 := by
  induction fs with
  | nil => rfl
  | cons f r ih => simp [flat, encF, ih]; omega
theorem flat_app (a b : List Fl) : flat (a ++ b) = flat a ++ flat b := by
  induction a with
  | nil => rfl
  | cons f r ih => simp [flat, ih]
theorem flat_at (fs : List Fl) : ∀ i (h : i < fs.length), (flat fs)[i * 3]? = some (.string fs[i].nm) ∧ (flat fs)[i * 3 + 1]? = some (.string fs[i].da) ∧ (flat fs)[i * 3 + 2]? = some (.int .i64 fs[i].sy) := by
  induction fs with
  | nil => intro i h; simp at h
  | cons f r ih =>
    intro i h
    cases i with
    | zero => simp [flat, encF]
    | succ i =>
      have := ih i (by simpa using h)
      have e1 : (i + 1) * 3 = i * 3 + 3 := by omega
      simp only [flat, encF, e1, List.cons_append, List.nil_append, List.getElem?_cons_succ, List.getElem_cons_succ]
      exact this
theorem flat_one (fs : List Fl) : ∀ u ∈ flat fs, u.oneCell' = true := by
  induction fs with
  | nil => simp [flat]
  | cons f r ih =>
    intro u hu
    simp only [flat, encF, List.mem_append, List.mem_cons, List.not_mem_nil, or_false] at hu
    rcases hu with (rfl | rfl | rfl) | hu
    · rfl
    · rfl
    · rfl
    · exact ih u hu
theorem flat_set1 (fs : List Fl) : ∀ i (h : i < fs.length) (s : ByteArray), (flat fs).set (i * 3 + 1) (.string s) = flat (fs.set i { fs[i] with da := s }) := by
  induction fs with
  | nil => intro i h; simp at h
  | cons f r ih =>
    intro i h s
    cases i with
    | zero => simp [flat, encF]
    | succ i =>
      have := ih i (by simpa using h) s
      have e1 : (i + 1) * 3 + 1 = (i * 3 + 1) + 3 := by omega
      simp only [flat, encF, e1, List.cons_append, List.nil_append, List.set_cons_succ, List.getElem_cons_succ]
      rw [this]
theorem flat_set2 (fs : List Fl) : ∀ i (h : i < fs.length) (s : Int), (flat fs).set (i * 3 + 2) (.int .i64 s) = flat (fs.set i { fs[i] with sy := s }) := by
  induction fs with
  | nil => intro i h; simp at h
  | cons f r ih =>
    intro i h s
    cases i with
    | zero => simp [flat, encF]
    | succ i =>
      have := ih i (by simpa using h) s
      have e1 : (i + 1) * 3 + 2 = (i * 3 + 2) + 3 := by omega
      simp only [flat, encF, e1, List.cons_append, List.nil_append, List.set_cons_succ, List.getElem_cons_succ]
      rw [this]

/-- What a list of files must bear to be in memory at all. -/
def Fine (fs : List Fl) : Prop := ∀ f ∈ fs, f.da.size ≤ maxLen ∧ -9223372036854775808 ≤ f.sy ∧ f.sy ≤ 9223372036854775807
def Own (w : World) (base : Nat) (v : Value) (fs : List Fl) : Prop := w.ownsRow base 55 3 v fs.length (flat fs)
theorem Own.form {w : World} {base : Nat} {v : Value} {fs : List Fl} (h : Own w base v fs) (hn : 0 < fs.length) : ∃ g cap, v = .slice (some ⟨g, 0, none⟩) fs.length cap ∧ base ≤ g ∧ g < w.heap.size ∧
    (∀ i (hi : i < fs.length), w.cell? ⟨g, i * 3, none⟩ = some (.string fs[i].nm) ∧ w.cell? ⟨g, i * 3 + 1, none⟩ = some (.string fs[i].da) ∧ w.cell? ⟨g, i * 3 + 2, none⟩ = some (.int .i64 fs[i].sy)) ∧ (∀ j, w.frozen? ⟨g, j, none⟩ = false) := by
  have h' := h
  rcases h.2 with ⟨_, h0⟩ | ⟨g, cap, cur, rfl, hb, hg, h1, h2, h3, h4⟩
  · omega
  · refine ⟨g, cap, rfl, hb, (Array.getElem?_eq_some_iff.1 hg).1, fun i hi => ?_, fun j => frozen_of_row w g j cur _ hg⟩
    obtain ⟨f1, f2, f3⟩ := flat_at fs i hi
    have key : ∀ j u, j < fs.length * 3 → (flat fs)[j]? = some u → w.cell? ⟨g, j, none⟩ = some u := by
      intro j u hj hu
      rw [cell_of_row w g j cur _ (0, 0) hg]
      rw [← h4, List.getElem?_take, if_pos hj] at hu
      simpa using hu
    exact ⟨key _ _ (by omega) f1, key _ _ (by omega) f2, key _ _ (by omega) f3⟩
theorem Own.files {w : World} {base : Nat} {v : Value} {fs : List Fl} (h : Own w base v fs) (hf : Fine fs) (hl : fs.length ≤ 4611686018427387904) : Files w w.heap.size v fs := by
  by_cases hn : 0 < fs.length
  · obtain ⟨g, cap, rfl, hb, hg, hc, _⟩ := h.form hn
    refine ⟨_, _, rfl, hl, hf, fun _ => ⟨g, 0, rfl, hg, fun i hi => ?_⟩⟩
    rw [Nat.zero_add]; exact hc i hi
  · have h0 : fs = [] := List.eq_nil_of_length_eq_zero (by omega)
    subst h0
    rcases h.2 with ⟨rfl, _⟩ | ⟨g, cap, cur, rfl, _⟩
    · exact ⟨none, 0, rfl, hl, hf, fun h => absurd h hn⟩
    · exact ⟨_, _, rfl, hl, hf, fun h => absurd h hn⟩
theorem Own.le {w : World} {base base' : Nat} {v : Value} {fs : List Fl} (h : Own w base v fs) (hb : base' ≤ base) : Own w base' v fs := ⟨h.1, h.2.elim Or.inl (fun ⟨g, cap, cur, hv, hg, r⟩ => Or.inr ⟨g, cap, cur, hv, Nat.le_trans hb hg, r⟩)⟩

theorem info_file : (Try.prog.info? 55).map (fun i => (i.zero, i.size, i.bytes)) = some (some (.agg #[.string ByteArray.empty, .string ByteArray.empty, .int .i64 0]), 3, 40) := by kernel_rfl

theorem file_cells (w : World) (a : Option Addr) (fs : List Fl) (B : Nat)
    (hc : 0 < fs.length → ∃ b off, a = some ⟨b, off, none⟩ ∧ b < B ∧ ∀ i (h : i < fs.length),
      w.cell? ⟨b, off + i * 3, none⟩ = some (.string fs[i].nm) ∧ w.cell? ⟨b, off + i * 3 + 1, none⟩ = some (.string fs[i].da) ∧ w.cell? ⟨b, off + i * 3 + 2, none⟩ = some (.int .i64 fs[i].sy))
    (ad : Addr) (ha : a = some ad) : ∀ j u, (flat fs)[j]? = some u → w.cell? (ad.add j) = some u := by
  intro j u hu
  have hj : j < fs.length * 3 := by
    have := (List.getElem?_eq_some_iff.1 hu).1
    rwa [flat_len] at this
  obtain ⟨b, off, he, _, hcc⟩ := hc (by omega)
  rw [ha] at he
  cases he
  rw [Addr.add_lit]
  obtain ⟨f1, f2, f3⟩ := flat_at fs (j / 3) (by omega)
  obtain ⟨c1, c2, c3⟩ := hcc (j / 3) (by omega)
  have hm : j = j / 3 * 3 ∨ j = j / 3 * 3 + 1 ∨ j = j / 3 * 3 + 2 := by omega
  rcases hm with h | h | h
  · rw [h] at hu ⊢; rw [f1] at hu; cases hu; exact c1
  · rw [h] at hu ⊢; rw [f2] at hu; cases hu; exact c2
  · rw [h] at hu ⊢; rw [f3] at hu; cases hu; exact c3

set_option maxHeartbeats 1000000 in
theorem clone_own (v : Value) (fs : List Fl) (w : World) (hv : Files w w.heap.size v fs) (h4 : fs.length ≤ 4096) :
    Calls Try.prog 20 #[v] w fun e w' => ∃ v', e = .returned v' ∧ Own w' w.heap.size v' fs ∧ Below w.heap.size w w' := by
  obtain ⟨a, c, rfl, hl, hs, hc⟩ := hv
  have q22 : ∀ (w : World) (a : Option Addr) (n c n' c' : Nat), (binOp .eql 25 (.slice a n c) (.slice none n' c')).run Try.prog w = .ok (.bool a.isNone) w := fun w a n c n' c' => Lib.run_eql_slice_nil w _ _ a n c n' c' Try.underlying25
  cases a with
  | none =>
    have h0 : fs = [] := by
      by_cases hn : 0 < fs.length
      · obtain ⟨b, off, he, _⟩ := hc hn; cases he
      · exact List.eq_nil_of_length_eq_zero (by omega)
    subst h0
    clear hc hs
    go_enter Try.func20, Try.ntmps20
    go_wp2
    go_ret
    exact ⟨_, rfl, World.ownsRow_nil _ _ _ _, Below.refl _ _⟩
  | some ad =>
    obtain ⟨i0, hi, hz0, hz1, hz2⟩ := info_parts info_file
    have A := Lib.hid (file_cells w (some ad) fs w.heap.size hc ad rfl)
    have hmx : fs.length ≤ maxLen := by simp only [maxLen]; omega
    have hl3 := flat_len fs
    have h1 := flat_one fs
    clear hc hs
    have H3 := Lib.hid hl3
    have H1 := Lib.hid h1
    clear hl3 h1
    generalize hx : flat fs = xs at A H3 H1
    have HX := Lib.hid hx
    clear hx
    go_enter Try.func20, Try.ntmps20
    go_wp2_with (at_builtin; refine wpList_append_own _ rfl _ _ 25 rfl w.heap.size 55 i0 _ 3 40 Try.underlying25 hi hz0 hz1 hz2 rfl (by omega) _ _ _ rfl (World.ownsRow_made w #[] 0 (Nat.le_refl _) (Nat.zero_le _) (by simp)) ad fs.length c xs rfl H3.out (fun j u hj => Lib.cell?_alloc_some _ (A.out j u hj)) H1.out (by rw [Nat.zero_add]; exact hmx) (by rw [Nat.zero_add]; omega) (by simp) ?_; intro v' w1 hown hgrow hnil)
    go_ret
    refine ⟨v', rfl, ?_, ?_⟩
    · unfold Own; rw [HX.out]; simpa using hown
    · exact ((Below.refl _ w).alloc (Nat.le_refl _) _).grown hgrow (by simp) (fun k hk => Nat.le_of_eq (Option.some.inj hk))
end Dk
end Go.Proofs.Ytjgdmdgiicpemaa
