/-
  MEMORY OF THE CALL's OWN: rows of numbers, rows of entries; slices.Clone; log.clone, own.
-/
import Derived.Test.YtndihliagcgdeaaLogChk
import Derived.Laws.ResultCell
namespace Go.Proofs.Ytndihliagcgdeaa
open Go.RowKit Go.Lib
namespace Lo
/-- No cell of u's block is frozen. -/
def Thaw (w : World) (u : Value) : Prop := ∀ b off n c, u = .slice (some ⟨b, off, none⟩) n c → 0 < n → ∀ j, w.frozen? ⟨b, j, none⟩ = false
theorem info_int : (Try.prog.info? 3).map (fun i => (i.zero, i.size, i.bytes)) = some (some (.int .i64 0), 1, 8) := by kernel_rfl
theorem info_entry : (Try.prog.info? 48).map (fun i => (i.zero, i.size, i.bytes)) = some (some (.agg #[.int .u64 0, .int .u64 0, .int .u8 0, .string ByteArray.empty, .slice none 0 0]), 5, 64) := by kernel_rfl
theorem own_ints {w : World} {base : Nat} {v : Value} {ks : List Int} (h : w.ownsRow base 3 1 v ks.length (ks.map fun k => .int .i64 k)) (hl : ks.length ≤ 17592186044416) (hr : ∀ x ∈ ks, -9223372036854775808 ≤ x ∧ x ≤ 9223372036854775807) :
    ∃ a c, v = .slice a ks.length c ∧ IntsR w base w.heap.size (.slice a ks.length c) ks ∧ Thaw w (.slice a ks.length c) := by
  rcases h.2 with ⟨rfl, h0⟩ | ⟨g, cap, cur, rfl, hb, hg, h1, h2, h3, h4⟩
  · have : ks = [] := List.eq_nil_of_length_eq_zero h0
    subst this
    exact ⟨none, 0, rfl, ⟨none, 0, rfl, by simp, by simp, by simp⟩, fun b off n c e => by simp at e⟩
  · refine ⟨_, _, rfl, ⟨_, _, rfl, hl, hr, fun hp => ⟨g, 0, rfl, hb, (Array.getElem?_eq_some_iff.1 hg).1, fun i hi => ?_⟩⟩, fun b off n c e _ j => ?_⟩
    · rw [Nat.zero_add]
      have hu : (ks.map fun k => Value.int .i64 k)[i]? = some (.int .i64 ks[i]) := by rw [List.getElem?_map, List.getElem?_eq_getElem hi]; rfl
      rw [cell_of_row w g i cur _ (0, 0) hg]
      rw [← h4, List.getElem?_take, if_pos (by omega)] at hu
      simpa using hu
    · simp only [Value.slice.injEq, Option.some.injEq, Addr.mk.injEq] at e
      obtain ⟨⟨rfl, -, -⟩, -, -⟩ := e
      exact frozen_of_row w g j cur _ hg
theorem ints_cells {w : World} {A B : Nat} {a : Option Addr} {c : Nat} {ks : List Int} (h : IntsR w A B (.slice a ks.length c) ks) (ad : Addr) (ha : a = some ad) : ∀ j u, (ks.map fun k => Value.int .i64 k)[j]? = some u → w.cell? (ad.add j) = some u := by
  intro j u hu
  have hj : j < ks.length := by
    have := (List.getElem?_eq_some_iff.1 hu).1
    simpa using this
  obtain ⟨a', c', he, -, -, hc⟩ := h
  obtain ⟨b, off, rfl, -, -, hcc⟩ := hc (by omega)
  simp only [Value.slice.injEq] at he
  rw [ha] at he
  have he1 := Option.some.inj he.1
  subst he1
  rw [Addr.add_lit]
  rw [List.getElem?_map, List.getElem?_eq_getElem hj] at hu
  cases hu
  exact hcc j hj
theorem map_one (ks : List Int) : ∀ u ∈ ks.map (fun k => Value.int .i64 k), u.oneCell' = true := by
  intro u hu
  obtain ⟨k, -, rfl⟩ := List.mem_map.1 hu
  rfl
/-- An entry as cells. -/
def encE (e : En) (u : Value) : List Value := [.int .u64 (e.i : Nat), .int .u64 (e.t : Nat), .int .u8 (e.k : Nat), .string e.d, u]
def flatE : List (En × Value) → List Value
  | [] => []
  | p :: r => encE p.1 p.2 ++ flatE r
theorem flatE_len (ps : List (En × Value)) : (flatE ps).length = ps.length * 5 := by
  induction ps with
  | nil => rfl
  | cons f r ih => simp [flatE, encE, ih]; omega
theorem flatE_app (a b : List (En × Value)) : flatE (a ++ b) = flatE a ++ flatE b := by
  induction a with
  | nil => rfl
  | cons f r ih => simp [flatE, ih]
theorem flatE_at (ps : List (En × Value)) : ∀ i (h : i < ps.length), (flatE ps)[i * 5]? = some (.int .u64 (ps[i].1.i : Nat)) ∧ (flatE ps)[i * 5 + 1]? = some (.int .u64 (ps[i].1.t : Nat)) ∧ (flatE ps)[i * 5 + 2]? = some (.int .u8 (ps[i].1.k : Nat)) ∧ (flatE ps)[i * 5 + 3]? = some (.string ps[i].1.d) ∧ (flatE ps)[i * 5 + 4]? = some ps[i].2 := by
  induction ps with
  | nil => intro i h; simp at h
  | cons f r ih =>
    intro i h
    cases i with
    | zero => simp [flatE, encE]
    | succ i =>
      have := ih i (by simpa using h)
      have e1 : (i + 1) * 5 = i * 5 + 5 := by omega
      simp only [flatE, encE, e1, List.cons_append, List.nil_append, List.getElem?_cons_succ, List.getElem_cons_succ]
      exact this
def OneC (u : Value) : Prop := u.oneCell' = true
theorem flatE_one (ps : List (En × Value)) (hp : ∀ p ∈ ps, OneC p.2) : ∀ u ∈ flatE ps, u.oneCell' = true := by
  induction ps with
  | nil => simp [flatE]
  | cons f r ih =>
    intro u hu
    simp only [flatE, encE, List.mem_append, List.mem_cons, List.not_mem_nil, or_false] at hu
    rcases hu with (rfl | rfl | rfl | rfl | rfl) | hu
    · rfl
    · rfl
    · rfl
    · rfl
    · exact hp f (by simp)
    · exact ih (fun p hp' => hp p (by simp [hp'])) u hu
theorem list_of {α : Type} (R : Nat → α → Prop) : ∀ n, (∀ i, i < n → ∃ f, R i f) → ∃ l : List α, l.length = n ∧ ∀ i (h : i < l.length), R i l[i]
  | 0, _ => ⟨[], rfl, fun i h => absurd h (Nat.not_lt_zero _)⟩
  | n + 1, h => by
    obtain ⟨l, hl, hr⟩ := list_of R n (fun i hi => h i (by omega))
    obtain ⟨f, hf⟩ := h n (by omega)
    refine ⟨l ++ [f], by simp [hl], fun i hi => ?_⟩
    by_cases hin : i < l.length
    · rw [List.getElem_append_left hin]; exact hr i hin
    · have : i = n := by simp at hi; omega
      subst this
      rw [List.getElem_append_right (by omega)]
      simpa [hl] using hf
/-- The entries of a slice with their members' values. -/
structure Prs (w : World) (A B : Nat) (a : Option Addr) (l : List En) (ps : List (En × Value)) : Prop where
  len : ps.length = l.length
  fst : ps.map (·.1) = l
  mem : 0 < l.length → ∃ b off, a = some ⟨b, off, none⟩ ∧ A ≤ b ∧ b < B ∧ ∀ i (h : i < ps.length), EntC w A B b (off + i * 5) ps[i].1 ps[i].2
theorem Prs.of {w : World} {A B : Nat} {a : Option Addr} {l : List En} (h : Mem w A B a l) : ∃ ps, Prs w A B a l ps := by
  by_cases h0 : 0 < l.length
  · obtain ⟨b, off, rfl, hA, hB, hc⟩ := h h0
    obtain ⟨us, hul, hus⟩ := list_of (fun i u => ∀ (h : i < l.length), EntC w A B b (off + i * 5) l[i] u) l.length (fun i hi => (hc i hi).imp fun u hu _ => hu)
    refine ⟨l.zip us, by simp [hul], ?_, fun _ => ⟨b, off, rfl, hA, hB, fun i hi => ?_⟩⟩
    · rw [List.map_fst_zip (by omega)]
    · simp only [List.length_zip] at hi
      rw [List.getElem_zip]
      exact hus i (by omega) (by omega)
  · have : l = [] := List.eq_nil_of_length_eq_zero (by omega)
    subst this
    exact ⟨[], rfl, rfl, fun h => absurd h (by simp)⟩
theorem Prs.cells {w : World} {A B : Nat} {a : Option Addr} {l : List En} {ps : List (En × Value)} (h : Prs w A B a l ps) (ad : Addr) (ha : a = some ad) : ∀ j u, (flatE ps)[j]? = some u → w.cell? (ad.add j) = some u := by
  intro j u hu
  have hj : j < ps.length * 5 := by
    have := (List.getElem?_eq_some_iff.1 hu).1
    rwa [flatE_len] at this
  obtain ⟨b, off, he, _, _, hcc⟩ := h.mem (by have := h.len; omega)
  rw [ha] at he
  cases he
  rw [Addr.add_lit]
  obtain ⟨f0, f1, f2, f3, f4⟩ := flatE_at ps (j / 5) (by omega)
  obtain ⟨c0, c1, c2, c3, c4, -, -, -⟩ := hcc (j / 5) (by omega)
  have hm : j = j / 5 * 5 ∨ j = j / 5 * 5 + 1 ∨ j = j / 5 * 5 + 2 ∨ j = j / 5 * 5 + 3 ∨ j = j / 5 * 5 + 4 := by omega
  rcases hm with h | h | h | h | h
  · rw [h] at hu ⊢; rw [f0] at hu; cases hu; exact c0
  · rw [h] at hu ⊢; rw [f1] at hu; cases hu; exact c1
  · rw [h] at hu ⊢; rw [f2] at hu; cases hu; exact c2
  · rw [h] at hu ⊢; rw [f3] at hu; cases hu; exact c3
  · rw [h] at hu ⊢; rw [f4] at hu; cases hu; exact c4
theorem Prs.one {w : World} {A B : Nat} {a : Option Addr} {l : List En} {ps : List (En × Value)} (h : Prs w A B a l ps) : ∀ p ∈ ps, OneC p.2 := by
  intro p hp
  obtain ⟨i, hi, rfl⟩ := List.getElem_of_mem hp
  obtain ⟨b, off, -, -, -, hc⟩ := h.mem (by have := h.len; omega)
  obtain ⟨a, c, e, -⟩ := (hc i hi).iv
  unfold OneC
  rw [e]; rfl
/-- A row g of the call's own that holds entries whose members lie in blocks from A on, below B. -/
def RowE (w : World) (base A B : Nat) (a : Option Addr) (l : List En) : Prop :=
  0 < l.length → ∃ g, a = some ⟨g, 0, none⟩ ∧ base ≤ g ∧ g < w.heap.size ∧ (∀ j, w.frozen? ⟨g, j, none⟩ = false) ∧ ∀ i (h : i < l.length), ∃ u, EntC w A B g (i * 5) l[i] u
theorem own_row {w0 w : World} {A B base : Nat} {a : Option Addr} {l : List En} {ps : List (En × Value)} (hp : Prs w0 A B a l ps) {v : Value} (h : w.ownsRow base 48 5 v l.length (flatE ps)) (hb : Below B w0 w) :
    ∃ a' c', v = .slice a' l.length c' ∧ l.length ≤ c' ∧ (a' = none → c' = 0) ∧ RowE w base A B a' l := by
  rcases h.2 with ⟨rfl, h0⟩ | ⟨g, cap, cur, rfl, hbg, hg, h1, h2, h3, h4⟩
  · rw [h0]
    exact ⟨none, 0, rfl, Nat.le_refl _, fun _ => rfl, fun hp => by omega⟩
  · refine ⟨_, _, rfl, h1, (fun h => by cases h), fun hl => ⟨g, rfl, hbg, (Array.getElem?_eq_some_iff.1 hg).1, fun j => frozen_of_row w g j cur _ hg, fun i hi => ?_⟩⟩
    have hpl := hp.len
    have hi2 : i < ps.length := by omega
    obtain ⟨b, off, -, -, -, hc⟩ := hp.mem hl
    have hfst : ps[i].1 = l[i] := by
      have := congrArg (fun x : List En => x[i]?) hp.fst
      simp only [List.getElem?_map, List.getElem?_eq_getElem hi2, List.getElem?_eq_getElem hi, Option.map_some] at this
      exact Option.some.inj this
    obtain ⟨f0, f1, f2, f3, f4⟩ := flatE_at ps i hi2
    have key : ∀ j u, j < l.length * 5 → (flatE ps)[j]? = some u → w.cell? ⟨g, j, none⟩ = some u := by
      intro j u hj hu
      rw [cell_of_row w g j cur _ (0, 0) hg]
      rw [← h4, List.getElem?_take, if_pos hj] at hu
      simpa using hu
    have hE := hc i hi2
    rw [← hfst]
    exact ⟨ps[i].2, key _ _ (by omega) f0, key _ _ (by omega) f1, key _ _ (by omega) f2, key _ _ (by omega) f3, key _ _ (by omega) f4, hE.iv.keep hb, hE.i64, hE.t64⟩
end Lo
end Go.Proofs.Ytndihliagcgdeaa
