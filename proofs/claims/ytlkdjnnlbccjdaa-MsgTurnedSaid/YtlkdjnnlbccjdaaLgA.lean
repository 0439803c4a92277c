/-
  Merged: LogEnd, LogOwn, LogClone, LogFrom, LogTrim, LogPart, LogJoin, LogGrow, LogCopy.
-/
import Derived.Test.YtlkdjnnlbccjdaaLogRow
import Derived.Deep.RegionHeld3
import Derived.Laws.ResultCell
import Derived.Maps.AppendAt
import Derived.Laws.OwnMore
import Derived.Deep.Cut
/-
  WHAT A LOG IS ASKED: log.endOf, termAt, many, ahead, behind, refuse; End, Term, Newer.
-/
namespace Go.Proofs.Ytlkdjnnlbccjdaa
open Go.RowKit
namespace Lo
set_option linter.unusedVariables false
theorem tm_at {b t : Nat} {l : List En} {x j : Nat} (hj : j < l.length) (hx : x = b + j + 1) : tmV b t l x = l[j].t ∧ tmE b l.length x = 0 := by
  unfold tmV tmE
  rw [if_neg (by omega), if_neg (by omega), if_neg (by omega), if_neg (by omega), if_neg (by omega), show x - b - 1 = j by omega, List.getElem?_eq_getElem hj]
  exact ⟨rfl, rfl⟩
def rfE (b t : Nat) (l : List En) (x u : Nat) : Nat := if tmE b l.length x = 0 then (if tmV b t l x = u then 0 else 18) else tmE b l.length x
def nwB (b t : Nat) (l : List En) (x u : Nat) : Bool := decide (eT t l < u) || (decide (u = eT t l) && decide (eI b l ≤ x))
end Lo
end Go.Proofs.Ytlkdjnnlbccjdaa

/-
  MEMORY OF THE CALL's OWN: rows of numbers, rows of entries; slices.Clone; log.clone, own.
-/
namespace Go.Proofs.Ytlkdjnnlbccjdaa
open Go.RowKit Go.Lib
namespace Lo
/-- No cell of u's block is frozen. -/
def Thaw (w : World) (u : Value) : Prop := ∀ b off n c, u = .slice (some ⟨b, off, none⟩) n c → 0 < n → ∀ j, w.frozen? ⟨b, j, none⟩ = false
theorem info_int : (Try.prog.info? 3).map (fun i => (i.zero, i.size, i.bytes)) = some (some (.int .i64 0), 1, 8) := by kernel_rfl
theorem info_entry : (Try.prog.info? 73).map (fun i => (i.zero, i.size, i.bytes)) = some (some (.agg #[.int .u64 0, .int .u64 0, .int .u8 0, .string ByteArray.empty, .slice none 0 0]), 5, 64) := by kernel_rfl
theorem own_ints {w : World} {base : Nat} {v : Value} {ks : List Int} (h : w.ownsRow base 3 1 v ks.length (ks.map fun k => .int .i64 k)) (hl : ks.length ≤ 17592186044416) (hr : ∀ x ∈ ks, -9223372036854775808 ≤ x ∧ x ≤ 9223372036854775807) :
    ∃ a c, v = .slice a ks.length c ∧ IntsR w base w.heap.size (.slice a ks.length c) ks ∧ Thaw w (.slice a ks.length c) := by
  rcases h.2 with ⟨rfl, h0⟩ | ⟨g, cap, cur, rfl, hb, hg, h1, h2, h3, h4⟩
  · have : ks = [] := List.eq_nil_of_length_eq_zero h0
    subst this
    exact ⟨none, 0, rfl, ⟨none, 0, rfl, by simp, by simp, by simp⟩, fun b off n c e => by simp at e⟩
  · refine ⟨_, _, rfl, ⟨_, _, rfl, hl, hr, fun hp => ⟨g, 0, rfl, hb, (Array.getElem?_eq_some_iff.1 hg).1, fun i hi => ?_⟩⟩, fun b off n c e _ j => ?_⟩
    · rw [Nat.zero_add]
      have hu : (ks.map fun k => Value.int .i64 k)[i]? = some (.int .i64 ks[i]) := by rw [List.getElem?_map, List.getElem?_eq_getElem hi]; rfl
      rw [cell_of_row w g i cur _ (0, 0) hg]
      rw [← h4, List.getElem?_take, if_pos (by omega)] at hu
      simpa using hu
    · simp only [Value.slice.injEq, Option.some.injEq, Addr.mk.injEq] at e
      obtain ⟨⟨rfl, -, -⟩, -, -⟩ := e
      exact frozen_of_row w g j cur _ hg
theorem ints_cells {w : World} {A B : Nat} {a : Option Addr} {c : Nat} {ks : List Int} (h : IntsR w A B (.slice a ks.length c) ks) (ad : Addr) (ha : a = some ad) : ∀ j u, (ks.map fun k => Value.int .i64 k)[j]? = some u → w.cell? (ad.add j) = some u := by
  intro j u hu
  have hj : j < ks.length := by
    have := (List.getElem?_eq_some_iff.1 hu).1
    simpa using this
  obtain ⟨a', c', he, -, -, hc⟩ := h
  obtain ⟨b, off, rfl, -, -, hcc⟩ := hc (by omega)
  simp only [Value.slice.injEq] at he
  rw [ha] at he
  have he1 := Option.some.inj he.1
  subst he1
  rw [Addr.add_lit]
  rw [List.getElem?_map, List.getElem?_eq_getElem hj] at hu
  cases hu
  exact hcc j hj
theorem map_one (ks : List Int) : ∀ u ∈ ks.map (fun k => Value.int .i64 k), u.oneCell' = true := by
  intro u hu
  obtain ⟨k, -, rfl⟩ := List.mem_map.1 hu
  rfl
/-- An entry as cells. -/
def encE (e : En) (u : Value) : List Value := [.int .u64 (e.i : Nat), .int .u64 (e.t : Nat), .int .u8 (e.k : Nat), .string e.d, u]
def flatE : List (En × Value) → List Value
  | [] => []
  | p :: r => encE p.1 p.2 ++ flatE r
theorem flatE_len (ps : List (En × Value)) : (flatE ps).length = ps.length * 5 := by
  induction ps with
  | nil => rfl
  | cons f r ih => simp [flatE, encE, ih]; omega
theorem flatE_app (a b : List (En × Value)) : flatE (a ++ b) = flatE a ++ flatE b := by
  induction a with
  | nil => rfl
  | cons f r ih => simp [flatE, ih]
theorem flatE_at (ps : List (En × Value)) : ∀ i (h : i < ps.length), (flatE ps)[i * 5]? = some (.int .u64 (ps[i].1.i : Nat)) ∧ (flatE ps)[i * 5 + 1]? = some (.int .u64 (ps[i].1.t : Nat)) ∧ (flatE ps)[i * 5 + 2]? = some (.int .u8 (ps[i].1.k : Nat)) ∧ (flatE ps)[i * 5 + 3]? = some (.string ps[i].1.d) ∧ (flatE ps)[i * 5 + 4]? = some ps[i].2 := by
  induction ps with
  | nil => intro i h; simp at h
  | cons f r ih =>
    intro i h
    cases i with
    | zero => simp [flatE, encE]
    | succ i =>
      have := ih i (by simpa using h)
      have e1 : (i + 1) * 5 = i * 5 + 5 := by omega
      simp only [flatE, encE, e1, List.cons_append, List.nil_append, List.getElem?_cons_succ, List.getElem_cons_succ]
      exact this
def OneC (u : Value) : Prop := u.oneCell' = true
theorem flatE_one (ps : List (En × Value)) (hp : ∀ p ∈ ps, OneC p.2) : ∀ u ∈ flatE ps, u.oneCell' = true := by
  induction ps with
  | nil => simp [flatE]
  | cons f r ih =>
    intro u hu
    simp only [flatE, encE, List.mem_append, List.mem_cons, List.not_mem_nil, or_false] at hu
    rcases hu with (rfl | rfl | rfl | rfl | rfl) | hu
    · rfl
    · rfl
    · rfl
    · rfl
    · exact hp f (by simp)
    · exact ih (fun p hp' => hp p (by simp [hp'])) u hu
theorem list_of {α : Type} (R : Nat → α → Prop) : ∀ n, (∀ i, i < n → ∃ f, R i f) → ∃ l : List α, l.length = n ∧ ∀ i (h : i < l.length), R i l[i]
  | 0, _ => ⟨[], rfl, fun i h => absurd h (Nat.not_lt_zero _)⟩
  | n + 1, h => by
    obtain ⟨l, hl, hr⟩ := list_of R n (fun i hi => h i (by omega))
    obtain ⟨f, hf⟩ := h n (by omega)
    refine ⟨l ++ [f], by simp [hl], fun i hi => ?_⟩
    by_cases hin : i < l.length
    · rw [List.getElem_append_left hin]; exact hr i hin
    · have : i = n := by simp at hi; omega
      subst this
      rw [List.getElem_append_right (by omega)]
      simpa [hl] using hf
/-- The entries of a slice with their members' values. -/
structure Prs (w : World) (A B : Nat) (a : Option Addr) (l : List En) (ps : List (En × Value)) : Prop where
  len : ps.length = l.length
  fst : ps.map (·.1) = l
  mem : 0 < l.length → ∃ b off, a = some ⟨b, off, none⟩ ∧ A ≤ b ∧ b < B ∧ ∀ i (h : i < ps.length), EntC w A B b (off + i * 5) ps[i].1 ps[i].2
theorem Prs.of {w : World} {A B : Nat} {a : Option Addr} {l : List En} (h : Mem w A B a l) : ∃ ps, Prs w A B a l ps := by
  by_cases h0 : 0 < l.length
  · obtain ⟨b, off, rfl, hA, hB, hc⟩ := h h0
    obtain ⟨us, hul, hus⟩ := list_of (fun i u => ∀ (h : i < l.length), EntC w A B b (off + i * 5) l[i] u) l.length (fun i hi => (hc i hi).imp fun u hu _ => hu)
    refine ⟨l.zip us, by simp [hul], ?_, fun _ => ⟨b, off, rfl, hA, hB, fun i hi => ?_⟩⟩
    · rw [List.map_fst_zip (by omega)]
    · simp only [List.length_zip] at hi
      rw [List.getElem_zip]
      exact hus i (by omega) (by omega)
  · have : l = [] := List.eq_nil_of_length_eq_zero (by omega)
    subst this
    exact ⟨[], rfl, rfl, fun h => absurd h (by simp)⟩
theorem Prs.cells {w : World} {A B : Nat} {a : Option Addr} {l : List En} {ps : List (En × Value)} (h : Prs w A B a l ps) (ad : Addr) (ha : a = some ad) : ∀ j u, (flatE ps)[j]? = some u → w.cell? (ad.add j) = some u := by
  intro j u hu
  have hj : j < ps.length * 5 := by
    have := (List.getElem?_eq_some_iff.1 hu).1
    rwa [flatE_len] at this
  obtain ⟨b, off, he, _, _, hcc⟩ := h.mem (by have := h.len; omega)
  rw [ha] at he
  cases he
  rw [Addr.add_lit]
  obtain ⟨f0, f1, f2, f3, f4⟩ := flatE_at ps (j / 5) (by omega)
  obtain ⟨c0, c1, c2, c3, c4, -, -, -⟩ := hcc (j / 5) (by omega)
  have hm : j = j / 5 * 5 ∨ j = j / 5 * 5 + 1 ∨ j = j / 5 * 5 + 2 ∨ j = j / 5 * 5 + 3 ∨ j = j / 5 * 5 + 4 := by omega
  rcases hm with h | h | h | h | h
  · rw [h] at hu ⊢; rw [f0] at hu; cases hu; exact c0
  · rw [h] at hu ⊢; rw [f1] at hu; cases hu; exact c1
  · rw [h] at hu ⊢; rw [f2] at hu; cases hu; exact c2
  · rw [h] at hu ⊢; rw [f3] at hu; cases hu; exact c3
  · rw [h] at hu ⊢; rw [f4] at hu; cases hu; exact c4
theorem Prs.one {w : World} {A B : Nat} {a : Option Addr} {l : List En} {ps : List (En × Value)} (h : Prs w A B a l ps) : ∀ p ∈ ps, OneC p.2 := by
  intro p hp
  obtain ⟨i, hi, rfl⟩ := List.getElem_of_mem hp
  obtain ⟨b, off, -, -, -, hc⟩ := h.mem (by have := h.len; omega)
  obtain ⟨a, c, e, -⟩ := (hc i hi).iv
  unfold OneC
  rw [e]; rfl
/-- A row g of the call's own that holds entries whose members lie in blocks from A on, below B. -/
def RowE (w : World) (base A B : Nat) (a : Option Addr) (l : List En) : Prop :=
  0 < l.length → ∃ g, a = some ⟨g, 0, none⟩ ∧ base ≤ g ∧ g < w.heap.size ∧ (∀ j, w.frozen? ⟨g, j, none⟩ = false) ∧ ∀ i (h : i < l.length), ∃ u, EntC w A B g (i * 5) l[i] u
theorem own_row {w0 w : World} {A B base : Nat} {a : Option Addr} {l : List En} {ps : List (En × Value)} (hp : Prs w0 A B a l ps) {v : Value} (h : w.ownsRow base 73 5 v l.length (flatE ps)) (hb : Below B w0 w) :
    ∃ a' c', v = .slice a' l.length c' ∧ l.length ≤ c' ∧ (a' = none → c' = 0) ∧ RowE w base A B a' l := by
  rcases h.2 with ⟨rfl, h0⟩ | ⟨g, cap, cur, rfl, hbg, hg, h1, h2, h3, h4⟩
  · rw [h0]
    exact ⟨none, 0, rfl, Nat.le_refl _, fun _ => rfl, fun hp => by omega⟩
  · refine ⟨_, _, rfl, h1, (fun h => by cases h), fun hl => ⟨g, rfl, hbg, (Array.getElem?_eq_some_iff.1 hg).1, fun j => frozen_of_row w g j cur _ hg, fun i hi => ?_⟩⟩
    have hpl := hp.len
    have hi2 : i < ps.length := by omega
    obtain ⟨b, off, -, -, -, hc⟩ := hp.mem hl
    have hfst : ps[i].1 = l[i] := by
      have := congrArg (fun x : List En => x[i]?) hp.fst
      simp only [List.getElem?_map, List.getElem?_eq_getElem hi2, List.getElem?_eq_getElem hi, Option.map_some] at this
      exact Option.some.inj this
    obtain ⟨f0, f1, f2, f3, f4⟩ := flatE_at ps i hi2
    have key : ∀ j u, j < l.length * 5 → (flatE ps)[j]? = some u → w.cell? ⟨g, j, none⟩ = some u := by
      intro j u hj hu
      rw [cell_of_row w g j cur _ (0, 0) hg]
      rw [← h4, List.getElem?_take, if_pos hj] at hu
      simpa using hu
    have hE := hc i hi2
    rw [← hfst]
    exact ⟨ps[i].2, key _ _ (by omega) f0, key _ _ (by omega) f1, key _ _ (by omega) f2, key _ _ (by omega) f3, key _ _ (by omega) f4, hE.iv.keep hb, hE.i64, hE.t64⟩
end Lo
end Go.Proofs.Ytlkdjnnlbccjdaa

/-
  log.clone, own: a log's entries in memory of their own.
-/
namespace Go.Proofs.Ytlkdjnnlbccjdaa
open Go.RowKit Go.Lib
namespace Lo
theorem IntsR.put {w : World} {A B : Nat} {v : Value} {ks : List Int} (h : IntsR w A B v ks) {g : Nat} (hg : g < A ∨ B ≤ g) (j : Nat) (u : Value) : IntsR (w.setCell ⟨g, j, none⟩ u) A B v ks := by
  obtain ⟨a, c, rfl, h1, h2, h3⟩ := h
  refine ⟨a, c, rfl, h1, h2, fun hp => ?_⟩
  obtain ⟨b, off, rfl, hA, hlt, hc⟩ := h3 hp
  refine ⟨b, off, rfl, hA, hlt, fun i hi => (World.cell?_setCell_other _ _ _ _ ?_).trans (hc i hi)⟩
  simp only [ne_eq, Addr.mk.injEq, not_and]
  intro e
  omega
theorem EntC.put {w : World} {A B b o : Nat} {e : En} {u : Value} (h : EntC w A B b o e u) {g : Nat} (hg : g < A ∨ B ≤ g) (p : Nat) (hp : g = b → (p < o ∨ o + 5 ≤ p)) (v : Value) : EntC (w.setCell ⟨g, p, none⟩ v) A B b o e u := by
  have key : ∀ j, j < 5 → (w.setCell ⟨g, p, none⟩ v).cell? ⟨b, o + j, none⟩ = w.cell? ⟨b, o + j, none⟩ := by
    intro j hj
    refine World.cell?_setCell_other _ _ _ _ ?_
    simp only [ne_eq, Addr.mk.injEq, not_and]
    intro e1 e2
    have := hp (by omega)
    omega
  exact ⟨(key 0 (by omega)).trans h.c0, (key 1 (by omega)).trans h.c1, (key 2 (by omega)).trans h.c2, (key 3 (by omega)).trans h.c3, (key 4 (by omega)).trans h.c4, h.iv.put hg p v, h.i64, h.t64⟩
theorem EntC.over {w w' : World} {A B b o C : Nat} {e : En} {u : Value} (h : EntC w A B b o e u) (hb : Below C w w') (h1 : b < C) (h2 : B ≤ C) : EntC w' A B b o e u :=
  ⟨(hb.cell (by exact h1)).trans h.c0, (hb.cell (by exact h1)).trans h.c1, (hb.cell (by exact h1)).trans h.c2, (hb.cell (by exact h1)).trans h.c3, (hb.cell (by exact h1)).trans h.c4, h.iv.keep (hb.mono h2), h.i64, h.t64⟩
theorem EntC.set4 {w : World} {A B A' B' b o : Nat} {e : En} {u v : Value} (h : EntC w A B b o e u) (hv : IntsR (w.setCell ⟨b, o + 4, none⟩ v) A' B' v e.ks) : EntC (w.setCell ⟨b, o + 4, none⟩ v) A' B' b o e v := by
  have key : ∀ j, j < 4 → (w.setCell ⟨b, o + 4, none⟩ v).cell? ⟨b, o + j, none⟩ = w.cell? ⟨b, o + j, none⟩ := by
    intro j hj
    refine World.cell?_setCell_other _ _ _ _ ?_
    simp only [ne_eq, Addr.mk.injEq, not_and]
    intro e1 e2
    omega
  exact ⟨(key 0 (by omega)).trans h.c0, (key 1 (by omega)).trans h.c1, (key 2 (by omega)).trans h.c2, (key 3 (by omega)).trans h.c3, World.cell?_setCell_same _ _ _ h.c4, hv, h.i64, h.t64⟩
theorem Thaw.keep {w w' : World} {A B : Nat} {u : Value} {ks : List Int} (h : Thaw w u) (hI : IntsR w A B u ks) (hb : Below B w w') : Thaw w' u := by
  intro b off n c e hn j
  obtain ⟨a, c', rfl, -, -, hc⟩ := hI
  simp only [Value.slice.injEq] at e
  obtain ⟨rfl, rfl, rfl⟩ := e
  obtain ⟨b', off', e, -, hlt, -⟩ := hc hn
  simp only [Option.some.injEq, Addr.mk.injEq] at e
  obtain ⟨rfl, rfl, -⟩ := e
  exact (hb.frozen (by exact hlt)).trans (h _ _ _ _ rfl hn j)
theorem Thaw.put {w : World} {u : Value} (h : Thaw w u) (p : Addr) (v : Value) : Thaw (w.setCell p v) u := fun b off n c e hn j => (World.frozen?_setCell _ _ _ _).trans (h b off n c e hn j)
/-- Where clone's loop stands: the row g, the first k entries' members copied. -/
structure CL (w0 wx : World) (g k : Nat) (l : List En) : Prop where
  bel : Below w0.heap.size w0 wx
  lo : w0.heap.size ≤ g
  hi : g < wx.heap.size
  fz : ∀ j, wx.frozen? ⟨g, j, none⟩ = false
  new : ∀ i (h : i < l.length), i < k → ∃ u, EntC wx (g + 1) wx.heap.size g (i * 5) l[i] u ∧ Thaw wx u
  old : ∀ i (h : i < l.length), k ≤ i → ∃ u, EntC wx 0 g g (i * 5) l[i] u
theorem CL.step {w0 wr w2 : World} {g k : Nat} {l : List En} (h : CL w0 wr g k l) (hk : k < l.length) (hb : Below wr.heap.size wr w2) {v : Value} (hI : IntsR w2 wr.heap.size w2.heap.size v l[k].ks) (hT : Thaw w2 v) : CL w0 (w2.setCell ⟨g, k * 5 + 4, none⟩ v) g (k + 1) l := by
  have hsz := hb.size
  have hhi := h.hi
  refine ⟨(h.bel.trans (hb.mono h.bel.size)).setCell h.lo _, h.lo, by simp; omega, fun j => (World.frozen?_setCell _ _ _ _).trans ((hb.frozen (by exact hhi)).trans (h.fz j)), fun i hi hik => ?_, fun i hi hik => ?_⟩
  · by_cases e : i = k
    · subst e
      obtain ⟨u, hu⟩ := h.old i hi (Nat.le_refl _)
      refine ⟨v, ?_, hT.put _ _⟩
      have hu2 := hu.over hb hhi (by omega)
      have := hu2.set4 (A' := g + 1) (B' := w2.heap.size) ((hI.more (Nat.le_refl _) (by omega)).put (.inl (by omega)) _ _)
      simpa using this
    · obtain ⟨u, hu, ht⟩ := h.new i hi (by omega)
      refine ⟨u, ?_, (ht.keep hu.iv hb).put _ _⟩
      have := ((hu.over hb hhi (Nat.le_refl _)).more hsz (Nat.le_refl _)).put (g := g) (.inl (by omega)) (k * 5 + 4) (fun _ => .inr (by omega)) v
      simpa using this
  · obtain ⟨u, hu⟩ := h.old i hi (by omega)
    exact ⟨u, (hu.over hb hhi (by omega)).put (.inr (Nat.le_refl _)) (k * 5 + 4) (fun _ => .inl (by omega)) v⟩
/-- Entries of the call's own. -/
structure OwnS (w : World) (A : Nat) (a : Option Addr) (c : Nat) (l : List En) : Prop where
  row : 0 < l.length → ∃ g, a = some ⟨g, 0, none⟩ ∧ A ≤ g ∧ g < w.heap.size ∧ (∀ j, w.frozen? ⟨g, j, none⟩ = false) ∧ ∀ i (h : i < l.length), ∃ u, EntC w (g + 1) w.heap.size g (i * 5) l[i] u ∧ Thaw w u
  cap : l.length ≤ c
  nil : a = none → c = 0
  len : l.length ≤ 2199023255551
theorem OwnS.sl {w : World} {A : Nat} {a : Option Addr} {c : Nat} {l : List En} (h : OwnS w A a c l) : Sl w A w.heap.size a c l := by
  refine ⟨fun hp => ?_, h.cap, h.nil, h.len⟩
  obtain ⟨g, rfl, hA, hlt, -, hc⟩ := h.row hp
  refine ⟨g, 0, rfl, hA, hlt, fun i hi => ?_⟩
  obtain ⟨u, hu, -⟩ := hc i hi
  rw [Nat.zero_add]
  exact ⟨u, hu.more (Nat.le_refl _) (by omega)⟩
theorem OwnS.less {w : World} {A A' : Nat} {a : Option Addr} {c : Nat} {l : List En} (h : OwnS w A a c l) (hA : A' ≤ A) : OwnS w A' a c l :=
  ⟨fun hp => by obtain ⟨g, r, h1, h2⟩ := h.row hp; exact ⟨g, r, Nat.le_trans hA h1, h2⟩, h.cap, h.nil, h.len⟩
theorem OwnS.on {w w' : World} {A : Nat} {a : Option Addr} {c : Nat} {l : List En} (h : OwnS w A a c l) (hb : Below w.heap.size w w') : OwnS w' A a c l := by
  refine ⟨fun hp => ?_, h.cap, h.nil, h.len⟩
  obtain ⟨g, rfl, hA, hlt, hf, hc⟩ := h.row hp
  refine ⟨g, rfl, hA, Nat.lt_of_lt_of_le hlt hb.size, fun j => (hb.frozen (by exact hlt)).trans (hf j), fun i hi => ?_⟩
  obtain ⟨u, hu, ht⟩ := hc i hi
  exact ⟨u, (hu.over hb hlt (Nat.le_refl _)).more hb.size (Nat.le_refl _), ht.keep hu.iv hb⟩
theorem OwnS.put {w : World} {A : Nat} {a : Option Addr} {c : Nat} {l : List En} (h : OwnS w A a c l) {p : Nat} (hp : p < A) (j : Nat) (v : Value) : OwnS (w.setCell ⟨p, j, none⟩ v) A a c l := by
  refine ⟨fun hl => ?_, h.cap, h.nil, h.len⟩
  obtain ⟨g, rfl, hA, hlt, hf, hc⟩ := h.row hl
  refine ⟨g, rfl, hA, by simpa using hlt, fun j' => (World.frozen?_setCell _ _ _ _).trans (hf j'), fun i hi => ?_⟩
  obtain ⟨u, hu, ht⟩ := hc i hi
  refine ⟨u, ?_, ht.put _ _⟩
  have := hu.put (g := p) (.inl (by omega)) j (fun e => by omega) v
  simpa using this
/-- Block B has these three cells. -/
def Bx3 (w : World) (B : Nat) (a b c : Value) : Prop := ∃ T, w.heap[B]? = some (.cells #[a, b, c] T (0, 0))
theorem Bx3.made (w : World) (a b c : Value) (T : TypeId) : Bx3 (w.alloc (.cells #[a, b, c] T)) w.heap.size a b c := ⟨T, heap_alloc_new w _⟩
theorem Bx3.lt {w : World} {B : Nat} {a b c : Value} (h : Bx3 w B a b c) : B < w.heap.size := by
  obtain ⟨T, h⟩ := h
  exact (Array.getElem?_eq_some_iff.1 h).1
theorem Bx3.cells {w : World} {B : Nat} {a b c : Value} (h : Bx3 w B a b c) : w.cell? ⟨B, 0, none⟩ = some a ∧ w.cell? ⟨B, 1, none⟩ = some b ∧ w.cell? ⟨B, 2, none⟩ = some c := by
  obtain ⟨T, h⟩ := h
  refine ⟨?_, ?_, ?_⟩ <;> simp [World.cell?, h]
theorem Bx3.fz {w : World} {B : Nat} {a b c : Value} (h : Bx3 w B a b c) : w.frozen? ⟨B, 0, none⟩ = false ∧ w.frozen? ⟨B, 1, none⟩ = false ∧ w.frozen? ⟨B, 2, none⟩ = false := by
  obtain ⟨T, h⟩ := h
  refine ⟨?_, ?_, ?_⟩ <;> simp [World.frozen?, h]
theorem Bx3.set0 {w : World} {B : Nat} {a b c : Value} (h : Bx3 w B a b c) (u : Value) : Bx3 (w.setCell ⟨B, 0, none⟩ u) B u b c := by obtain ⟨T, h⟩ := h; exact ⟨T, by simp [World.setCell, Array.getElem?_modify, h]⟩
theorem Bx3.set1 {w : World} {B : Nat} {a b c : Value} (h : Bx3 w B a b c) (u : Value) : Bx3 (w.setCell ⟨B, 1, none⟩ u) B a u c := by obtain ⟨T, h⟩ := h; exact ⟨T, by simp [World.setCell, Array.getElem?_modify, h]⟩
theorem Bx3.set2 {w : World} {B : Nat} {a b c : Value} (h : Bx3 w B a b c) (u : Value) : Bx3 (w.setCell ⟨B, 2, none⟩ u) B a b u := by obtain ⟨T, h⟩ := h; exact ⟨T, by simp [World.setCell, Array.getElem?_modify, h]⟩
theorem Bx3.far {w : World} {B p : Nat} {a b c : Value} (h : Bx3 w B a b c) (hp : p ≠ B) (o : Nat) (u : Value) : Bx3 (w.setCell ⟨p, o, none⟩ u) B a b c :=
  h.imp fun _ h => (Below.heap_setCell w ⟨p, o, none⟩ u B (by rintro rfl; exact hp rfl)).trans h
theorem Bx3.below {w w' : World} {B : Nat} {a b c : Value} (h : Bx3 w B a b c) (hb : Below w.heap.size w w') : Bx3 w' B a b c := by
  have hlt := h.lt
  exact h.imp fun _ h => (hb.block B hlt).trans h
theorem Bx3.al {w : World} {B : Nat} {a b c : Value} (h : Bx3 w B a b c) (o : Obj) : Bx3 (w.alloc o) B a b c := h.below ((Below.refl _ _).alloc (Nat.le_refl _) _)
theorem results_cell1 {fn : Func} {p : Tmp} {ty : TypeId} (h : fn.results = #[.cell p ty]) (tmps : Array Value) (P : Program) (w : World) :
    (results fn tmps).run P w = ((asAddr (tmps.getD p undef)).run P w).andThen fun a w₁ => (loadVar ty a).run P w₁ := by
  simp only [results, h]
  simp [Sem.run_bind, Result.andThen]
theorem results_cell3 {fn : Func} {p u v : Tmp} {ty : TypeId} (h : fn.results = #[.cell p ty, .tmp u, .tmp v]) (tmps : Array Value) (P : Program) (w : World) :
    (results fn tmps).run P w =
      ((asAddr (tmps.getD p undef)).run P w).andThen fun a w₁ => ((loadVar ty a).run P w₁).andThen fun x w₂ => .ok (.tuple #[x, tmps.getD u undef, tmps.getD v undef]) w₂ := by
  simp only [results, h]
  simp [Sem.run_bind, Result.andThen]
end Lo
end Go.Proofs.Ytlkdjnnlbccjdaa

/-
  A LOG's ENTRIES FROM ONE ON: log.behind, From.
-/
namespace Go.Proofs.Ytlkdjnnlbccjdaa
open Go.RowKit Go.Lib
namespace Lo
/-- What From comes to. -/
def frN (m : Int) (n : Nat) : Nat := if m < 0 then 0 else min m.toNat n
def frL (b t : Nat) (l : List En) (x : Nat) (m : Int) : List En := if okB b t l = true then (if x ≤ b then [] else (l.drop (mny b l.length (x - 1))).take (frN m (l.drop (mny b l.length (x - 1))).length)) else []
def frE (b t : Nat) (l : List En) (x : Nat) : Nat := if okB b t l = true then (if x ≤ b then 15 else 0) else 10
def FromIs (w : World) (b t : Nat) (l : List En) (x : Nat) (m : Int) (e : Ending) (w' : World) : Prop :=
  ∃ a c, e = .returned (.tuple #[.slice a (frL b t l x m).length c, .int .i64 (frE b t l x : Nat)]) ∧ OwnS w' w.heap.size a c (frL b t l x m)
theorem FromIs.none {w w' : World} {b t : Nat} {l : List En} {x : Nat} {m : Int} {r : Nat} (h : frL b t l x m = []) (he : frE b t l x = r) : FromIs w b t l x m (.returned (.tuple #[.slice none 0 0, .int .i64 (r : Nat)])) w' :=
  ⟨Option.none, 0, by rw [h, he]; rfl, by rw [h]; exact ⟨(fun h => absurd h (by simp)), by simp, fun _ => rfl, by simp⟩⟩
theorem FromIs.some {w w' : World} {b t : Nat} {l : List En} {x : Nat} {m : Int} {a : Option Addr} {c k B : Nat} {r : List En} (h : frL b t l x m = r.take k) (hk : k ≤ r.length) (he : frE b t l x = 0) (ho : OwnS w' B a c (r.take k)) (hB : w.heap.size ≤ B) : FromIs w b t l x m (.returned (.tuple #[.slice a k c, .int .i64 0])) w' :=
  ⟨a, c, by rw [h, he, List.length_take, Nat.min_eq_left hk]; rfl, by rw [h]; exact ho.less hB⟩
theorem Sl.box {w : World} {A B : Nat} {a : Option Addr} {c : Nat} {l : List En} (h : Sl w A B a c l) {p : Nat} (hp : p < A ∨ B ≤ p) (j : Nat) (v : Value) : Sl (w.setCell ⟨p, j, none⟩ v) A B a c l := by
  refine ⟨fun hl => ?_, h.cap, h.nil, h.len⟩
  obtain ⟨b, off, rfl, hA, hB, hc⟩ := h.mem hl
  exact ⟨b, off, rfl, hA, hB, fun i hi => (hc i hi).imp fun u hu => hu.put hp j (fun e => by omega) v⟩
/-- The entries lie below block P: what is written at P leaves them. -/
theorem Sl.lowput {w w2 : World} {A P : Nat} {a : Option Addr} {c : Nat} {l : List En} (h : Sl w A P a c l) (hb : Below P w w2) (v : Value) (j : Nat) : Sl (w2.setCell ⟨P, j, none⟩ v) A P a c l := (h.keep hb).box (.inr (Nat.le_refl _)) j v
end Lo
end Go.Proofs.Ytlkdjnnlbccjdaa

/-
  A LOG WITHOUT ITS FIRST ENTRIES: log.Trim.
-/
namespace Go.Proofs.Ytlkdjnnlbccjdaa
open Go.RowKit Go.Lib
namespace Lo
/-- What Trim comes to. -/
def trOk (b t : Nat) (l : List En) (x : Nat) : Bool := okB b t l && decide (x ≤ eI b l)
def trB (b t : Nat) (l : List En) (x : Nat) : Nat := if trOk b t l x = true then (if x ≤ b then b else x) else 0
def trT (b t : Nat) (l : List En) (x : Nat) : Nat := if trOk b t l x = true then (if x ≤ b then t else tmV b t l x) else 0
def trL (b t : Nat) (l : List En) (x : Nat) : List En := if trOk b t l x = true then (if x ≤ b then l else l.drop (mny b l.length x)) else []
def trE (b t : Nat) (l : List En) (x : Nat) : Nat := if okB b t l = true then (if x ≤ eI b l then 0 else 6) else 10
def TrimIs (w : World) (b t : Nat) (l : List En) (x : Nat) (e : Ending) (w' : World) : Prop :=
  ∃ a c, e = .returned (.tuple #[.agg #[.int .u64 (trB b t l x : Nat), .int .u64 (trT b t l x : Nat), .slice a (trL b t l x).length c], .int .i64 (trE b t l x : Nat)]) ∧ OwnS w' w.heap.size a c (trL b t l x)
theorem own_nil (w : World) (A : Nat) : OwnS w A none 0 [] := ⟨(fun h => absurd h (by simp)), by simp, fun _ => rfl, by simp⟩
theorem TrimIs.bad {w : World} {b t : Nat} {l : List En} {x : Nat} (h : trOk b t l x = false) (w' : World) {r : Nat} (hr : trE b t l x = r) : TrimIs w b t l x (.returned (.tuple #[.agg #[.int .u64 0, .int .u64 0, .slice none 0 0], .int .i64 (r : Nat)])) w' := by
  have e1 : trB b t l x = 0 := by unfold trB; rw [h]; rfl
  have e2 : trT b t l x = 0 := by unfold trT; rw [h]; rfl
  have e3 : trL b t l x = [] := by unfold trL; rw [h]; rfl
  refine ⟨none, 0, ?_, ?_⟩
  · rw [e1, e2, e3, hr]; rfl
  · rw [e3]; exact own_nil _ _
theorem TrimIs.good {w : World} {b t : Nat} {l : List En} {x : Nat} {B' T' : Nat} {L' : List En} (e1 : trB b t l x = B') (e2 : trT b t l x = T') (e3 : trL b t l x = L') (e4 : trE b t l x = 0) {w' : World} {A : Nat} {a : Option Addr} {c : Nat} (h : OwnS w' A a c L') (hA : w.heap.size ≤ A) :
    TrimIs w b t l x (.returned (.tuple #[.agg #[.int .u64 (B' : Nat), .int .u64 (T' : Nat), .slice a L'.length c], .int .i64 0])) w' :=
  ⟨a, c, by rw [e1, e2, e3, e4]; rfl, by rw [e3]; exact h.less hA⟩
end Lo
end Go.Proofs.Ytlkdjnnlbccjdaa

/-
  WHERE ENTRIES PART FROM A LOG: log.parting.
-/
namespace Go.Proofs.Ytlkdjnnlbccjdaa
open Go.RowKit Go.Lib
namespace Lo
set_option linter.unusedVariables false
/-- Whether the log has an entry of that Index and Term. -/
def ptB (b t : Nat) (l : List En) (e : En) : Bool := decide (tmE b l.length e.i = 0) && decide (tmV b t l e.i = e.t)
/-- Those from the first on that the log has not. -/
def pt (b t : Nat) (l : List En) : List En → List En
  | [] => []
  | e :: r => if ptB b t l e = true then pt b t l r else e :: r
theorem pt_at (b t : Nat) (l s : List En) (k : Nat) (h : k < s.length) : pt b t l (s.drop k) = if ptB b t l s[k] = true then pt b t l (s.drop (k + 1)) else s.drop k := by
  rw [List.drop_eq_getElem_cons h, pt]
theorem pt_suffix (b t : Nat) (l : List En) : ∀ s, ∃ k, k ≤ s.length ∧ pt b t l s = s.drop k
  | [] => ⟨0, by simp, rfl⟩
  | e :: r => by
    unfold pt
    by_cases h : ptB b t l e = true
    · rw [if_pos h]
      obtain ⟨k, hk, e⟩ := pt_suffix b t l r
      exact ⟨k + 1, by simp; omega, by rw [e]; rfl⟩
    · rw [if_neg h]; exact ⟨0, by simp, rfl⟩
/-- One entry less of a slice. -/
theorem Sl.tail {w : World} {A B : Nat} {b off : Nat} {c k : Nat} {s : List En} (h : Sl w A B (some ⟨b, off, none⟩) c (s.drop k)) (hk : k < s.length) (hc : ¬ c = 1) : Sl w A B (some ⟨b, off + 5, none⟩) (c - 1) (s.drop (k + 1)) := by
  have h1 := h.cap
  rw [List.length_drop] at h1
  have := h.drop 1 (c - 1) (by rw [List.length_drop, List.length_drop]; omega)
  rw [List.drop_drop, Nat.one_mul] at this
  exact this
theorem Sl.tail1 {w : World} {A B : Nat} {a : Option Addr} {k : Nat} {s : List En} (h : Sl w A B a 1 (s.drop k)) (hk : k < s.length) : Sl w A B a 0 (s.drop (k + 1)) := by
  have h1 := h.cap
  rw [List.length_drop] at h1
  rw [List.drop_eq_nil_of_le (by omega)]
  exact Sl.empty _ _ _ _ _ (fun _ => rfl)
end Lo
end Go.Proofs.Ytlkdjnnlbccjdaa

/-
  ENTRIES BEHIND AN ENTRY OF A LOG: log.join.
-/
namespace Go.Proofs.Ytlkdjnnlbccjdaa
open Go.RowKit Go.Lib
namespace Lo
/-- What the members' values of a list are. -/
def OkP (w : World) (A B : Nat) (ps : List (En × Value)) : Prop := ∀ p ∈ ps, IntsR w A B p.2 p.1.ks ∧ Lt64 p.1.i ∧ Lt64 p.1.t
theorem Prs.okp {w w' : World} {A B : Nat} {a : Option Addr} {l : List En} {ps : List (En × Value)} (h : Prs w A B a l ps) (hb : Below B w w') : OkP w' A B ps := by
  intro p hp
  obtain ⟨i, hi, rfl⟩ := List.getElem_of_mem hp
  obtain ⟨b, off, -, -, -, hc⟩ := h.mem (by have := h.len; omega)
  exact ⟨(hc i hi).iv.keep hb, (hc i hi).i64, (hc i hi).t64⟩
theorem OkP.app {w : World} {A B A' B' A2 B2 : Nat} {p q : List (En × Value)} (h1 : OkP w A B p) (h2 : OkP w A' B' q) (e1 : A2 ≤ A) (e2 : A2 ≤ A') (e3 : B ≤ B2) (e4 : B' ≤ B2) : OkP w A2 B2 (p ++ q) := by
  intro x hx
  rcases List.mem_append.1 hx with h | h
  · exact ⟨(h1 x h).1.more e3 e1, (h1 x h).2⟩
  · exact ⟨(h2 x h).1.more e4 e2, (h2 x h).2⟩
theorem own_rowp {w : World} {A B base : Nat} {l : List En} {ps : List (En × Value)} (hf : ps.map (·.1) = l) (hp : OkP w A B ps) {v : Value} (h : w.ownsRow base 73 5 v l.length (flatE ps)) :
    ∃ a' c', v = .slice a' l.length c' ∧ l.length ≤ c' ∧ (a' = none → c' = 0) ∧ RowE w base A B a' l := by
  rcases h.2 with ⟨rfl, h0⟩ | ⟨g, cap, cur, rfl, hbg, hg, h1, h2, h3, h4⟩
  · rw [h0]
    exact ⟨none, 0, rfl, Nat.le_refl _, fun _ => rfl, fun hp => by omega⟩
  · refine ⟨_, _, rfl, h1, (fun h => by cases h), fun hl => ⟨g, rfl, hbg, (Array.getElem?_eq_some_iff.1 hg).1, fun j => frozen_of_row w g j cur _ hg, fun i hi => ?_⟩⟩
    have hpl : ps.length = l.length := by rw [← hf, List.length_map]
    have hi2 : i < ps.length := by omega
    have hfst : ps[i].1 = l[i] := by
      have := congrArg (fun x : List En => x[i]?) hf
      simp only [List.getElem?_map, List.getElem?_eq_getElem hi2, List.getElem?_eq_getElem hi, Option.map_some] at this
      exact Option.some.inj this
    obtain ⟨f0, f1, f2, f3, f4⟩ := flatE_at ps i hi2
    have key : ∀ j u, j < l.length * 5 → (flatE ps)[j]? = some u → w.cell? ⟨g, j, none⟩ = some u := by
      intro j u hj hu
      rw [cell_of_row w g j cur _ (0, 0) hg]
      rw [← h4, List.getElem?_take, if_pos hj] at hu
      simpa using hu
    obtain ⟨r1, r2, r3⟩ := hp ps[i] (List.getElem_mem hi2)
    rw [← hfst]
    exact ⟨ps[i].2, key _ _ (by omega) f0, key _ _ (by omega) f1, key _ _ (by omega) f2, key _ _ (by omega) f3, key _ _ (by omega) f4, r1, r2, r3⟩
theorem RowE.put {w : World} {base A B : Nat} {a : Option Addr} {l : List En} (h : RowE w base A B a l) {p : Nat} (h1 : B ≤ p) (h2 : p < base) (j : Nat) (v : Value) : RowE (w.setCell ⟨p, j, none⟩ v) base A B a l := fun hp => by
  obtain ⟨g, rfl, hbg, hlt, hf, hc⟩ := h hp
  exact ⟨g, rfl, hbg, by simpa using hlt, fun j' => (World.frozen?_setCell _ _ _ _).trans (hf j'), fun i hi => (hc i hi).imp fun u hu => hu.put (.inr h1) j (fun e => by omega) v⟩
theorem RowE.sl {w : World} {base A B : Nat} {a : Option Addr} {l : List En} (h : RowE w base A B a l) {c : Nat} (h1 : B ≤ w.heap.size) (h2 : l.length ≤ c) (h3 : a = none → c = 0) (h4 : l.length ≤ 2199023255551) : Sl w 0 w.heap.size a c l := by
  refine ⟨fun hp => ?_, h2, h3, h4⟩
  obtain ⟨g, rfl, hbg, hlt, hf, hc⟩ := h hp
  refine ⟨g, 0, rfl, Nat.zero_le _, hlt, fun i hi => ?_⟩
  rw [Nat.zero_add]
  exact (hc i hi).imp fun u hu => hu.more h1 (Nat.zero_le _)
/-- The cells of two slices, one behind the other. -/
theorem join_row {w : World} {A B A' : Nat} {a a2 : Option Addr} {c c2 n : Nat} {l r l' : List En} (h1 : Sl w A B a c l) (h2 : Sl w A' B a2 c2 r) (hl : l ++ r = l') (hn : l'.length = n) :
    ∃ olds news, (∀ ad, a = some ad → ∀ j u, olds[j]? = some u → w.cell? (ad.add j) = some u) ∧ (∀ ad, a2 = some ad → ∀ j u, news[j]? = some u → w.cell? (ad.add j) = some u) ∧ (∀ u ∈ news, u.oneCell' = true) ∧ olds.length = l.length * 5 ∧ news.length = r.length * 5 ∧
      ∀ (base : Nat) (v : Value) (w' : World), Below B w w' → w'.ownsRow base 73 5 v n (olds ++ news) → ∃ a' c', v = .slice a' n c' ∧ n ≤ c' ∧ (a' = none → c' = 0) ∧ RowE w' base 0 B a' l' := by
  subst hn
  obtain ⟨p1, hp1⟩ := Prs.of h1.mem
  obtain ⟨p2, hp2⟩ := Prs.of h2.mem
  refine ⟨flatE p1, flatE p2, fun ad ha => hp1.cells ad ha, fun ad ha => hp2.cells ad ha, flatE_one p2 hp2.one, by rw [flatE_len, hp1.len], by rw [flatE_len, hp2.len], fun base v w' hb hown => ?_⟩
  refine own_rowp (ps := p1 ++ p2) ?_ ((hp1.okp hb).app (hp2.okp hb) (Nat.zero_le _) (Nat.zero_le _) (Nat.le_refl _) (Nat.le_refl _)) ?_
  · rw [List.map_append, hp1.fst, hp2.fst, hl]
  · rw [flatE_app]; exact hown
/-- A log, an Index and an error as an answer, the log's entries in memory of its own. -/
def JIs (w : World) (b t : Nat) (l : List En) (f r : Nat) (e : Ending) (w' : World) : Prop :=
  ∃ a c, e = .returned (.tuple #[.agg #[.int .u64 (b : Nat), .int .u64 (t : Nat), .slice a l.length c], .int .u64 (f : Nat), .int .i64 (r : Nat)]) ∧ OwnS w' w.heap.size a c l
def joinB (b t : Nat) (l s : List En) : Bool := match pt b t l s with | [] => true | e :: r => okB b t (l.take (mny b l.length (e.i - 1)) ++ e :: r)
def joinL (b t : Nat) (l s : List En) : List En := match pt b t l s with | [] => l | e :: r => l.take (mny b l.length (e.i - 1)) ++ e :: r
def joinF (b t : Nat) (l s : List En) : Nat := match pt b t l s with | [] => 0 | e :: _ => e.i
/-- What join answers. -/
def JoinR (w : World) (b t : Nat) (l s : List En) (e : Ending) (w' : World) : Prop :=
  if joinB b t l s = true then JIs w b t (joinL b t l s) (joinF b t l s) 0 e w' else JIs w 0 0 [] 0 17 e w'
theorem JoinR.same {w w' : World} {b t : Nat} {l s : List En} {a : Option Addr} {c A : Nat} (hp : pt b t l s = []) (h : OwnS w' A a c l) (hA : w.heap.size ≤ A) :
    JoinR w b t l s (.returned (.tuple #[.agg #[.int .u64 (b : Nat), .int .u64 (t : Nat), .slice a l.length c], .int .u64 0, .int .i64 0])) w' := by
  unfold JoinR joinB joinL joinF
  rw [hp]
  exact ⟨a, c, rfl, h.less hA⟩
theorem JoinR.new {w w' : World} {b t n : Nat} {l s r l' : List En} {e : En} {a : Option Addr} {c A : Nat} (hp : pt b t l s = e :: r) (hl : l.take (mny b l.length (e.i - 1)) ++ e :: r = l') (hn : l'.length = n) (hk : okB b t l' = true) (h : OwnS w' A a c l') (hA : w.heap.size ≤ A) {i : Nat} (hi : e.i = i) :
    JoinR w b t l s (.returned (.tuple #[.agg #[.int .u64 (b : Nat), .int .u64 (t : Nat), .slice a n c], .int .u64 (i : Nat), .int .i64 0])) w' := by
  subst hl hn hi
  unfold JoinR joinB joinL joinF
  rw [hp]
  simp only [hk, if_true]
  exact ⟨a, c, rfl, h.less hA⟩
theorem JoinR.bad {w w' : World} {b t : Nat} {l s r l' : List En} {e : En} (hp : pt b t l s = e :: r) (hl : l.take (mny b l.length (e.i - 1)) ++ e :: r = l') (hk : okB b t l' = false) :
    JoinR w b t l s (.returned (.tuple #[.agg #[.int .u64 0, .int .u64 0, .slice none 0 0], .int .u64 0, .int .i64 17])) w' := by
  subst hl
  unfold JoinR joinB
  rw [hp]
  simp only [hk]
  exact ⟨none, 0, rfl, own_nil _ _⟩
end Lo
end Go.Proofs.Ytlkdjnnlbccjdaa

/-
  ENTRIES PUT BEHIND A ROW OF THE CALL'S OWN, part by part.
-/
namespace Go.Proofs.Ytlkdjnnlbccjdaa
open Go.RowKit Go.Lib
namespace Lo
theorem IntsR.grown {w w' : World} {A B : Nat} {v : Value} {ks : List Int} {own : Option Nat} (h : IntsR w A B v ks) (hg : w.grownBy w' own) (hne : ∀ g, own = some g → g < A ∨ B ≤ g) : IntsR w' A B v ks := by
  obtain ⟨a, c, rfl, h1, h2, h3⟩ := h
  refine ⟨a, c, rfl, h1, h2, fun hp => ?_⟩
  obtain ⟨b, off, rfl, hA, hlt, hc⟩ := h3 hp
  refine ⟨b, off, rfl, hA, hlt, fun i hi => hg.cell (hc i hi) ?_⟩
  intro e
  rcases hne b e.symm with h | h <;> omega
theorem own_keep {w w' : World} {base : Nat} {e : TypeId} {size n : Nat} {v : Value} {xs : List Value} (h : w.ownsRow base e size v n xs) (hb : Below w.heap.size w w') : w'.ownsRow base e size v n xs := by
  refine ⟨h.1, ?_⟩
  rcases h.2 with h2 | ⟨g, cap, cur, h3, h4, h5, h6⟩
  · exact .inl h2
  · exact .inr ⟨g, cap, cur, h3, h4, (hb.block g ((Array.getElem?_eq_some_iff.1 h5).1)).trans h5, h6⟩
/-- The members lie apart from the row. -/
def OkG (w : World) (base : Nat) (own : Option Nat) (ps : List (En × Value)) : Prop :=
  ∀ p ∈ ps, Lt64 p.1.i ∧ Lt64 p.1.t ∧ ∃ A B, IntsR w A B p.2 p.1.ks ∧ base ≤ A ∧ B ≤ w.heap.size ∧ ∀ g, own = some g → g < A ∨ B ≤ g
/-- v is a row of the call's own that holds the entries l. -/
def Gr (w : World) (base : Nat) (v : Value) (l : List En) : Prop :=
  ∃ ps : List (En × Value), ps.map (·.1) = l ∧ w.ownsRow base 73 5 v l.length (flatE ps) ∧ OkG w base v.ownBlock ps
theorem Gr.nil (w : World) (base : Nat) : Gr w base (.slice none 0 0) [] := ⟨[], rfl, ⟨rfl, .inl ⟨rfl, rfl⟩⟩, fun p hp => absurd hp (by simp)⟩
theorem Gr.below {w w' : World} {base : Nat} {v : Value} {l : List En} (h : Gr w base v l) (hb : Below w.heap.size w w') : Gr w' base v l := by
  obtain ⟨ps, h1, h2, h3⟩ := h
  refine ⟨ps, h1, own_keep h2 hb, fun p hp => ?_⟩
  obtain ⟨k1, k2, A, B, k3, k0, k4, k5⟩ := h3 p hp
  exact ⟨k1, k2, A, B, k3.keep (hb.mono k4), k0, Nat.le_trans k4 hb.size, k5⟩
theorem Gr.slice {w : World} {base : Nat} {v : Value} {l : List En} (h : Gr w base v l) : ∃ a c, v = .slice a l.length c := by
  obtain ⟨ps, h1, h2, h3⟩ := h
  rcases h2.2 with ⟨rfl, h0⟩ | ⟨g, cap, cur, rfl, _⟩
  · exact ⟨none, 0, by rw [h0]⟩
  · exact ⟨_, _, rfl⟩
theorem Gr.lt {w : World} {base : Nat} {v : Value} {l : List En} (h : Gr w base v l) : ∀ g, v.ownBlock = some g → base ≤ g ∧ g < w.heap.size := by
  obtain ⟨ps, -, h2, -⟩ := h
  exact h2.lt
theorem Gr.sl {w : World} {base : Nat} {a : Option Addr} {n c : Nat} {l : List En} (h : Gr w base (.slice a n c) l) (hl : l.length ≤ 2199023255551) : Sl w 0 w.heap.size a c l := by
  obtain ⟨ps, h1, h2, h3⟩ := h
  obtain ⟨a', c', e, r1, r2, r3⟩ := own_rowp (A := 0) (B := w.heap.size) h1 (fun p hp => by
    obtain ⟨k1, k2, A, B, k3, -, k4, -⟩ := h3 p hp
    exact ⟨k3.more k4 (Nat.zero_le _), k1, k2⟩) h2
  cases e
  exact r3.sl (Nat.le_refl _) r1 r2 hl
/-- As a slice whose memory is the call's own. -/
theorem Gr.slb {w : World} {base : Nat} {a : Option Addr} {n c : Nat} {l : List En} (h : Gr w base (.slice a n c) l) (hl : l.length ≤ 2199023255551) : Sl w base w.heap.size a c l := by
  obtain ⟨ps, h1, h2, h3⟩ := h
  obtain ⟨a', c', e, r1, r2, r3⟩ := own_rowp (A := base) (B := w.heap.size) h1 (fun p hp => by
    obtain ⟨k1, k2, A, B, k3, k0, k4, -⟩ := h3 p hp
    exact ⟨k3.more k4 k0, k1, k2⟩) h2
  cases e
  refine ⟨fun hp => ?_, r1, r2, hl⟩
  obtain ⟨g, rfl, hbg, hlt, hf, hc⟩ := r3 hp
  refine ⟨g, 0, rfl, hbg, hlt, fun i hi => ?_⟩
  rw [Nat.zero_add]
  exact hc i hi
/-- What an append asks and leaves. -/
theorem Gr.app {w : World} {base A c : Nat} {v : Value} {a : Option Addr} {l r : List En} (h : Gr w base v l) (ho : OwnS w A a c r) (hbA : base ≤ A) (hA : ∀ g, v.ownBlock = some g → g < A) :
    ∃ xs news, w.ownsRow base 73 5 v l.length xs ∧ news.length = r.length * 5 ∧ (∀ ad, a = some ad → ∀ j u, news[j]? = some u → w.cell? (ad.add j) = some u) ∧ (∀ u ∈ news, u.oneCell' = true) ∧
      ∀ (v' : Value) (w' : World), w'.ownsRow base 73 5 v' (l.length + r.length) (xs ++ news) → w.grownBy w' v.ownBlock → (v'.ownBlock = v.ownBlock ∨ v'.ownBlock = some w.heap.size) → Gr w' base v' (l ++ r) := by
  obtain ⟨ps, h1, h2, h3⟩ := h
  obtain ⟨qs, hq⟩ := Prs.of ho.sl.mem
  refine ⟨flatE ps, flatE qs, h2, by rw [flatE_len, hq.len], fun ad ha => hq.cells ad ha, flatE_one qs hq.one, fun v' w' k1 k2 k3 => ⟨ps ++ qs, by rw [List.map_append, h1, hq.fst], by rw [flatE_app, List.length_append]; exact k1, fun p hp => ?_⟩⟩
  rcases List.mem_append.1 hp with hp | hp
  · obtain ⟨i1, i2, A1, B1, i3, i0, i4, i5⟩ := h3 p hp
    refine ⟨i1, i2, A1, B1, i3.grown k2 i5, i0, Nat.le_trans i4 k2.size, fun g hg => ?_⟩
    rcases k3 with k3 | k3
    · exact i5 g (k3 ▸ hg)
    · rw [k3] at hg; cases hg; exact .inr i4
  · obtain ⟨i, hi, rfl⟩ := List.getElem_of_mem hp
    have hil : i < r.length := by have := hq.len; omega
    obtain ⟨g2, e2, hg2, -, -, hc⟩ := ho.row (by omega)
    obtain ⟨u, hu, -⟩ := hc i hil
    have hfst : qs[i].1 = r[i] := by
      have := congrArg (fun x : List En => x[i]?) hq.fst
      simp only [List.getElem?_map, List.getElem?_eq_getElem hi, List.getElem?_eq_getElem hil, Option.map_some] at this
      exact Option.some.inj this
    obtain ⟨b0, o0, e0, -, -, hcc⟩ := hq.mem (by omega)
    rw [e2] at e0
    cases e0
    have hv : qs[i].2 = u := by
      have := (hcc i hi).c4
      rw [Nat.zero_add] at this
      rw [hu.c4] at this
      exact (Option.some.inj this).symm
    refine ⟨by rw [hfst]; exact hu.i64, by rw [hfst]; exact hu.t64, g2 + 1, w.heap.size, ?_, by omega, k2.size, fun g hg => ?_⟩
    · rw [hv, hfst]
      exact hu.iv.grown k2 (fun g hg => .inl (by have := hA g hg; omega))
    · rcases k3 with k3 | k3
      · rw [k3] at hg
        exact .inl (by have := hA g hg; omega)
      · rw [k3] at hg; cases hg; exact .inr (Nat.le_refl _)
end Lo
end Go.Proofs.Ytlkdjnnlbccjdaa

/-
  COPIES: gafferref03.Copy, gafferref14.Copy.
-/
namespace Go.Proofs.Ytlkdjnnlbccjdaa
open Go.RowKit Go.Lib
namespace Lo
set_option linter.unusedVariables false
theorem append_nil {P : Program} {w : World} {ops : Array Oper} {rest : List Oper} {o : Oper} {a : Act} {Q : Exit → Act → World → Prop} (hgd : o.guard = none) (s x : Operand) (t : TypeId)
    (ho : o.op = .call { callee := .builtin .append, args := #[s, x], argTypes := #[t, t] }) (base : Nat) (e : TypeId) (i : TypeInfo) (size : Nat) (ht : P.underlying t = some (.slice e)) (hi : P.info? e = some i)
    (v : Value) (n c : Nat) (xs : List Value) (hs : a.eval s = v) (hown : w.ownsRow base e size v n xs) (hx : a.eval x = .slice none 0 c) (h : wpList P ops Q rest (a.put o.dst v) w) : wpList P ops Q (o :: rest) a w := by
  refine wpList_plain hgd fun K hK => ?_
  have hrun : (Builtin.append_ #[t, t] o.type #[v, .slice none 0 c]).run P w = .ok v w := by
    rcases hown.2 with ⟨rfl, rfl⟩ | ⟨g, cap, cur, rfl, _, _, hnc, _⟩
    · simp [Builtin.append_, run_underlying ht, sizeOf, typeInfo, hi, Builtin.lenOf, Builtin.firstCells]
    · simp [Builtin.append_, run_underlying ht, sizeOf, typeInfo, hi, Builtin.lenOf, Builtin.firstCells, hnc, storeCells]
  unfold Oper.wp
  simp [execOp, ho, resolve, invoke, builtin, hs, hx, hrun, Result.andThen]
  exact hK _ _ h
/-- One entry more behind a row of the call's own. -/
theorem Gr.app1 {w : World} {base A B : Nat} {v : Value} {l : List En} (h : Gr w base v l) (e : En) (u : Value) (h1 : Lt64 e.i) (h2 : Lt64 e.t) (hI : IntsR w A B u e.ks) (hbA : base ≤ A) (hB : B ≤ w.heap.size) (hA : ∀ g, v.ownBlock = some g → g < A ∨ B ≤ g) :
    ∃ xs, w.ownsRow base 73 5 v l.length xs ∧ ∀ (v' : Value) (w' : World), w'.ownsRow base 73 5 v' (l.length + 1) (xs ++ encE e u) → w.grownBy w' v.ownBlock → (v'.ownBlock = v.ownBlock ∨ v'.ownBlock = some w.heap.size) → Gr w' base v' (l ++ [e]) := by
  obtain ⟨ps, k1, k2, k3⟩ := h
  refine ⟨flatE ps, k2, fun v' w' r1 r2 r3 => ⟨ps ++ [(e, u)], by rw [List.map_append, k1]; rfl, ?_, fun p hp => ?_⟩⟩
  · rw [flatE_app, List.length_append]
    simpa [flatE] using r1
  · rcases List.mem_append.1 hp with hp | hp
    · obtain ⟨i1, i2, A1, B1, i3, i0, i4, i5⟩ := k3 p hp
      refine ⟨i1, i2, A1, B1, i3.grown r2 i5, i0, Nat.le_trans i4 r2.size, fun g hg => ?_⟩
      rcases r3 with r3 | r3
      · exact i5 g (r3 ▸ hg)
      · rw [r3] at hg; cases hg; exact .inr i4
    · simp only [List.mem_singleton] at hp
      subst hp
      refine ⟨h1, h2, A, B, hI.grown r2 hA, hbA, Nat.le_trans hB r2.size, fun g hg => ?_⟩
      rcases r3 with r3 | r3
      · exact hA g (r3 ▸ hg)
      · rw [r3] at hg; cases hg; exact .inr hB
theorem enc_one (e : En) (u : Value) (h : u.oneCell' = true) : ∀ x ∈ encE e u, x.oneCell' = true := by
  intro x hx
  simp only [encE, List.mem_cons, List.not_mem_nil, or_false] at hx
  rcases hx with rfl | rfl | rfl | rfl | rfl
  · rfl
  · rfl
  · rfl
  · rfl
  · exact h
theorem new_cells (w : World) (cs : List Value) (T : TypeId) : ∀ j u, cs[j]? = some u → (w.alloc (.cells cs.toArray T)).cell? ((⟨w.heap.size, 0, none⟩ : Addr).add j) = some u := by
  intro j u hj
  rw [Addr.add_lit, Nat.zero_add, cell_of_row _ _ j _ _ (0, 0) (heap_alloc_new w _)]
  simpa using hj
/-- A box with an entry. -/
def Eb (w : World) (B : Nat) (e : En) (u : Value) : Prop := w.heap[B]? = some (.cells #[.int .u64 (e.i : Nat), .int .u64 (e.t : Nat), .int .u8 (e.k : Nat), .string e.d, u] 73 (0, 0))
theorem Eb.cells {w : World} {B : Nat} {e : En} {u : Value} (h : Eb w B e u) : w.cell? ⟨B, 0, none⟩ = some (.int .u64 (e.i : Nat)) ∧ w.cell? ⟨B, 1, none⟩ = some (.int .u64 (e.t : Nat)) ∧ w.cell? ⟨B, 2, none⟩ = some (.int .u8 (e.k : Nat)) ∧ w.cell? ⟨B, 3, none⟩ = some (.string e.d) ∧ w.cell? ⟨B, 4, none⟩ = some u ∧ w.frozen? ⟨B, 4, none⟩ = false :=
  ⟨by rw [cell_of_row w B 0 _ _ (0, 0) h]; rfl, by rw [cell_of_row w B 1 _ _ (0, 0) h]; rfl, by rw [cell_of_row w B 2 _ _ (0, 0) h]; rfl, by rw [cell_of_row w B 3 _ _ (0, 0) h]; rfl, by rw [cell_of_row w B 4 _ _ (0, 0) h]; rfl, frozen_of_row w B 4 _ _ h⟩
theorem Eb.set {w : World} {B : Nat} {e : En} {u : Value} (h : Eb w B e u) (v : Value) : Eb (w.setCell ⟨B, 4, none⟩ v) B e v := by
  unfold Eb at h ⊢
  simp [World.setCell, Array.getElem?_modify, h]
theorem Eb.lt {w : World} {B : Nat} {e : En} {u : Value} (h : Eb w B e u) : B < w.heap.size := (Array.getElem?_eq_some_iff.1 h).1
theorem IntsR.put2 {w : World} {A B : Nat} {v : Value} {ks : List Int} (h : IntsR w A B v ks) {g : Nat} (hg : g < A) (j : Nat) (u : Value) : IntsR (w.setCell ⟨g, j, none⟩ u) A (w.setCell ⟨g, j, none⟩ u).heap.size v ks ∨ B > w.heap.size := by
  by_cases hB : B ≤ w.heap.size
  · left
    obtain ⟨a, c, rfl, h1, h2, h3⟩ := h
    refine ⟨a, c, rfl, h1, h2, fun hp => ?_⟩
    obtain ⟨b, off, rfl, hA, hlt, hc⟩ := h3 hp
    refine ⟨b, off, rfl, hA, by simp; omega, fun i hi => ?_⟩
    rw [World.cell?_setCell_far _ _ _ _ (by show g ≠ b; omega)]
    exact hc i hi
  · right; omega
/-- What the copy of an entry's members leaves. -/
structure Ci (wr z : World) (P1 : Nat) (e : En) (u : Value) : Prop where
  eb : Eb z P1 e u
  iv : IntsR z (P1 + 1) z.heap.size u e.ks
  be : Below P1 wr z
  one : u.oneCell' = true
theorem Ci.mk' {wr z : World} {e : En} {u u0 : Value} (h1 : Eb z wr.heap.size e u0) (h2 : IntsR z (wr.heap.size + 1) z.heap.size u e.ks) (h3 : Below wr.heap.size wr z) : Ci wr (z.setCell ⟨wr.heap.size, 4, none⟩ u) wr.heap.size e u := by
  refine ⟨h1.set u, ?_, h3.setCell (by exact Nat.le_refl _) _, ?_⟩
  · rcases h2.put2 (Nat.lt_succ_self _) 4 u with h | h
    · exact h
    · exact absurd h (Nat.lt_irrefl _)
  · obtain ⟨a, c, e, -⟩ := h2
    rw [e]; rfl
end Lo
end Go.Proofs.Ytlkdjnnlbccjdaa
