/-
  Merged: LogMath, LogMem.
-/
import Derived.Test.YtlkdjnnlbccjdaaRows
import Derived.WalkKit
import Derived.WalkLawsBesides
import Derived.WalkSpells
import Derived.Lib.Hide
import Derived.Deep.LoopGhost
import Derived.Deep.QuietTactic
import Derived.BigQuiet
import Derived.Laws.OwnMore
import Derived.Deep.OwnRows
import Derived.Lib.SmallJoins
import Derived.ArgAppend
/-
  LOGS: the mathematics: entries, which are right, which stand in a row, a log's end and terms.
-/
namespace Go.Proofs.Ytlkdjnnlbccjdaa
namespace Lo
structure En where
  i : Nat
  t : Nat
  k : Nat
  d : ByteArray
  ks : List Int
/-- Rising above la, none above 7. -/
def rmF (la : Int) : List Int → Bool
  | [] => true
  | k :: r => if k ≤ la then false else if 7 < k then false else rmF k r
def rmB (ks : List Int) : Bool := rmF 0 ks && decide (0 < ks.length)
theorem rmF_at (ks : List Int) (k : Nat) (h : k < ks.length) (la : Int) : rmF la (ks.drop k) = if ks[k] ≤ la then false else if 7 < ks[k] then false else rmF ks[k] (ks.drop (k + 1)) := by
  rw [List.drop_eq_getElem_cons h, rmF]
/-- Whether an entry is right. -/
def enB (e : En) : Bool := if e.i = 0 then false else if e.k = 1 then (e.d.toList.isEmpty && decide (e.ks.length = 0)) else if e.k = 2 then (decide (e.d.size ≤ 4096) && decide (e.ks.length = 0)) else if e.k = 3 then (e.d.toList.isEmpty && rmB e.ks) else false
/-- The number behind one. -/
def nx (x : Nat) : Nat := (x + 1) % 18446744073709551616
def Lt64 (x : Nat) : Prop := x < 18446744073709551616
def rowB : Nat → List En → Bool
  | _, [] => true
  | x, e :: r => if e.i = nx x then (if enB e = true then rowB (nx x) r else false) else false
def fallB : Nat → List En → Bool
  | _, [] => false
  | t, e :: r => if e.t < t then true else fallB e.t r
def okB (b t : Nat) (l : List En) : Bool := !(decide (b = 0) && !decide (t = 0)) && rowB b l && !fallB t l
theorem rowB_at (l : List En) (k : Nat) (h : k < l.length) (x : Nat) : rowB x (l.drop k) = if l[k].i = nx x then (if enB l[k] = true then rowB (nx x) (l.drop (k + 1)) else false) else false := by
  rw [List.drop_eq_getElem_cons h, rowB]
theorem fallB_at (l : List En) (k : Nat) (h : k < l.length) (t : Nat) : fallB t (l.drop k) = if l[k].t < t then true else fallB l[k].t (l.drop (k + 1)) := by
  rw [List.drop_eq_getElem_cons h, fallB]
theorem nx_lt (x : Nat) : Lt64 (nx x) := Nat.mod_lt _ (by omega)
theorem en_pos {e : En} (h : enB e = true) : e.i ≠ 0 := by
  intro h0; unfold enB at h; rw [if_pos h0] at h; cases h
theorem row_cons {x : Nat} {e : En} {r : List En} (h : rowB x (e :: r) = true) : e.i = nx x ∧ enB e = true ∧ rowB (nx x) r = true := by
  unfold rowB at h
  by_cases h1 : e.i = nx x
  · rw [if_pos h1] at h
    by_cases h2 : enB e = true
    · rw [if_pos h2] at h; exact ⟨h1, h2, h⟩
    · rw [if_neg h2] at h; cases h
  · rw [if_neg h1] at h; cases h
theorem nx_eq {x : Nat} (hx : Lt64 x) (h : nx x ≠ 0) : nx x = x + 1 := by
  unfold nx Lt64 at *; omega
/-- Entries in a row: each is right and has its Index. -/
theorem row_is : ∀ (l : List En) (x : Nat), rowB x l = true → Lt64 x → Lt64 (x + l.length) ∧ ∀ i (h : i < l.length), l[i].i = x + i + 1 ∧ enB l[i] = true
  | [], x, _, hx => ⟨hx, fun i h => absurd h (by simp)⟩
  | e :: r, x, h, hx => by
    obtain ⟨h1, h2, h3⟩ := row_cons h
    have h0 := en_pos h2
    rw [h1] at h0
    have hn := nx_eq hx h0
    rw [hn] at h1 h3
    obtain ⟨i1, i2⟩ := row_is r (x + 1) h3 (by rw [← hn]; exact nx_lt x)
    refine ⟨by simp only [List.length_cons, Lt64] at *; omega, fun i hi => ?_⟩
    cases i with
    | zero => exact ⟨by simp [h1], h2⟩
    | succ i =>
      have := i2 i (by simpa using hi)
      exact ⟨by simp only [List.getElem_cons_succ]; omega, this.2⟩
theorem row_of : ∀ (l : List En) (x : Nat), Lt64 (x + l.length) → (∀ i (h : i < l.length), l[i].i = x + i + 1 ∧ enB l[i] = true) → rowB x l = true
  | [], _, _, _ => rfl
  | e :: r, x, hx, h => by
    have h0 := h 0 (by simp)
    simp only [List.getElem_cons_zero, Nat.add_zero] at h0
    have hn : nx x = x + 1 := by unfold nx; simp only [List.length_cons, Lt64] at hx; omega
    unfold rowB
    rw [if_pos (by rw [hn]; exact h0.1), if_pos h0.2, hn]
    refine row_of r (x + 1) (by simp only [List.length_cons, Lt64] at *; omega) fun i hi => ?_
    have := h (i + 1) (by simpa using hi)
    simp only [List.getElem_cons_succ] at this
    exact ⟨by omega, this.2⟩
theorem fall_is : ∀ (l : List En) (t : Nat), fallB t l = false ↔ ((∀ (h : 0 < l.length), t ≤ l[0].t) ∧ ∀ i (h : i + 1 < l.length), l[i].t ≤ l[i + 1].t)
  | [], t => by simp [fallB]
  | e :: r, t => by
    unfold fallB
    by_cases h : e.t < t
    · rw [if_pos h]
      simp only [List.getElem_cons_zero]
      refine ⟨(fun h => by cases h), fun ⟨h1, _⟩ => ?_⟩
      have := h1 (by simp)
      omega
    · rw [if_neg h, fall_is r e.t]
      refine ⟨fun ⟨h1, h2⟩ => ⟨fun _ => by simp only [List.getElem_cons_zero]; omega, fun i hi => ?_⟩, fun ⟨h1, h2⟩ => ⟨fun hr => ?_, fun i hi => ?_⟩⟩
      · cases i with
        | zero => exact h1 (by simpa using hi)
        | succ i => exact h2 i (by simpa using hi)
      · exact h2 0 (by simpa using hr)
      · exact h2 (i + 1) (by simpa using hi)
theorem ok_is {b t : Nat} {l : List En} (h : okB b t l = true) : (b = 0 → t = 0) ∧ rowB b l = true ∧ fallB t l = false := by
  unfold okB at h
  simp only [Bool.and_eq_true, Bool.not_eq_true', Bool.and_eq_false_iff, decide_eq_false_iff_not, Bool.not_eq_false', decide_eq_true_eq] at h
  obtain ⟨⟨h1, h2⟩, h3⟩ := h
  exact ⟨fun h0 => by rcases h1 with h1 | h1; exact absurd h0 h1; exact h1, h2, h3⟩
theorem ok_of {b t : Nat} {l : List En} (h1 : b = 0 → t = 0) (h2 : rowB b l = true) (h3 : fallB t l = false) : okB b t l = true := by
  unfold okB
  rw [h2, h3]
  by_cases hb : b = 0
  · simp [hb, h1 hb]
  · simp [hb]
/-- A log's end. -/
def eI (b : Nat) (l : List En) : Nat := match l.getLast? with
  | none => b
  | some e => e.i
def eT (t : Nat) (l : List En) : Nat := match l.getLast? with
  | none => t
  | some e => e.t
theorem eI_nil (b : Nat) : eI b [] = b := rfl
theorem eT_nil (t : Nat) : eT t [] = t := rfl
theorem eI_at (b : Nat) (l : List En) (h : 0 < l.length) : eI b l = l[l.length - 1].i := by
  unfold eI
  rw [List.getLast?_eq_getElem?, List.getElem?_eq_getElem (by omega)]
theorem eT_at (t : Nat) (l : List En) (h : 0 < l.length) : eT t l = l[l.length - 1].t := by
  unfold eT
  rw [List.getLast?_eq_getElem?, List.getElem?_eq_getElem (by omega)]
theorem eI_ok {b t : Nat} {l : List En} (h : okB b t l = true) (hb : Lt64 b) : eI b l = b + l.length := by
  by_cases h0 : 0 < l.length
  · rw [eI_at b l h0, ((row_is l b (ok_is h).2.1 hb).2 (l.length - 1) (by omega)).1]; omega
  · obtain rfl : l = [] := List.eq_nil_of_length_eq_zero (by omega)
    rfl
/-- The Term at an Index. -/
def tmV (b t : Nat) (l : List En) (x : Nat) : Nat := if x < b then 0 else if b + l.length < x then 0 else if x = b then t else match l[x - b - 1]? with
  | none => 0
  | some e => e.t
def tmE (b n x : Nat) : Nat := if x < b then 15 else if b + n < x then 6 else 0
/-- How many entries are up to an Index. -/
def mny (b n x : Nat) : Nat := if x ≤ b then 0 else min (x - b) n
theorem mny_le (b n x : Nat) : mny b n x ≤ n := by unfold mny; split <;> omega
end Lo
end Go.Proofs.Ytlkdjnnlbccjdaa

/-
  LOGS IN MEMORY: rows of entries, of numbers, that lie in blocks from A on, below B.
-/
namespace Go.Proofs.Ytlkdjnnlbccjdaa
open Go.RowKit
namespace Lo
set_option linter.unusedVariables false
theorem bdN {B : Nat} {a w : World} (h : Below B a w) (n : Nat) : Below B a (w.drewN n) := ⟨h.os, h.tape, h.output, h.size, h.block⟩
def IntsR (w : World) (A B : Nat) (v : Value) (ks : List Int) : Prop :=
  ∃ a c, v = .slice a ks.length c ∧ ks.length ≤ 17592186044416 ∧ (∀ x ∈ ks, -9223372036854775808 ≤ x ∧ x ≤ 9223372036854775807) ∧
    (0 < ks.length → ∃ b off, a = some ⟨b, off, none⟩ ∧ A ≤ b ∧ b < B ∧ ∀ i (h : i < ks.length), w.cell? ⟨b, off + i, none⟩ = some (.int .i64 ks[i]))
theorem IntsR.keep {w w' : World} {A B : Nat} {v : Value} {ks : List Int} (h : IntsR w A B v ks) (hb : Below B w w') : IntsR w' A B v ks := by
  obtain ⟨a, c, rfl, h1, h2, h3⟩ := h
  refine ⟨a, c, rfl, h1, h2, fun hp => ?_⟩
  obtain ⟨b, off, rfl, hA, hlt, hc⟩ := h3 hp
  exact ⟨b, off, rfl, hA, hlt, fun i hi => (hb.cell (by exact hlt)).trans (hc i hi)⟩
theorem IntsR.more {w : World} {A A' B B' : Nat} {v : Value} {ks : List Int} (h : IntsR w A B v ks) (hb : B ≤ B') (hA : A' ≤ A) : IntsR w A' B' v ks := by
  obtain ⟨a, c, rfl, h1, h2, h3⟩ := h
  refine ⟨a, c, rfl, h1, h2, fun hp => ?_⟩
  obtain ⟨b, off, rfl, hA, hlt, hc⟩ := h3 hp
  exact ⟨b, off, rfl, by omega, by omega, hc⟩
/-- An entry's cells. -/
structure EntC (w : World) (A B b o : Nat) (e : En) (u : Value) : Prop where
  c0 : w.cell? ⟨b, o, none⟩ = some (.int .u64 (e.i : Nat))
  c1 : w.cell? ⟨b, o + 1, none⟩ = some (.int .u64 (e.t : Nat))
  c2 : w.cell? ⟨b, o + 2, none⟩ = some (.int .u8 (e.k : Nat))
  c3 : w.cell? ⟨b, o + 3, none⟩ = some (.string e.d)
  c4 : w.cell? ⟨b, o + 4, none⟩ = some u
  iv : IntsR w A B u e.ks
  i64 : Lt64 e.i
  t64 : Lt64 e.t
theorem EntC.keep {w w' : World} {A B b o : Nat} {e : En} {u : Value} (h : EntC w A B b o e u) (hb : Below B w w') (hlt : b < B) : EntC w' A B b o e u :=
  ⟨(hb.cell (by exact hlt)).trans h.c0, (hb.cell (by exact hlt)).trans h.c1, (hb.cell (by exact hlt)).trans h.c2, (hb.cell (by exact hlt)).trans h.c3, (hb.cell (by exact hlt)).trans h.c4, h.iv.keep hb, h.i64, h.t64⟩
theorem EntC.more {w : World} {A A' B B' b o : Nat} {e : En} {u : Value} (h : EntC w A B b o e u) (hB : B ≤ B') (hA : A' ≤ A) : EntC w A' B' b o e u :=
  ⟨h.c0, h.c1, h.c2, h.c3, h.c4, h.iv.more hB hA, h.i64, h.t64⟩
/-- The entries l lie at a. -/
def Mem (w : World) (A B : Nat) (a : Option Addr) (l : List En) : Prop :=
  0 < l.length → ∃ b off, a = some ⟨b, off, none⟩ ∧ A ≤ b ∧ b < B ∧ ∀ i (h : i < l.length), ∃ u, EntC w A B b (off + i * 5) l[i] u
theorem Mem.keep {w w' : World} {A B : Nat} {a : Option Addr} {l : List En} (h : Mem w A B a l) (hb : Below B w w') : Mem w' A B a l := fun hp => by
  obtain ⟨b, off, rfl, hA, hlt, hc⟩ := h hp
  exact ⟨b, off, rfl, hA, hlt, fun i hi => (hc i hi).imp fun u hu => hu.keep hb hlt⟩
theorem Mem.more {w : World} {A A' B B' : Nat} {a : Option Addr} {l : List En} (h : Mem w A B a l) (hB : B ≤ B') (hA : A' ≤ A) : Mem w A' B' a l := fun hp => by
  obtain ⟨b, off, rfl, hA, hlt, hc⟩ := h hp
  exact ⟨b, off, rfl, by omega, by omega, fun i hi => (hc i hi).imp fun u hu => hu.more hB (by omega)⟩
theorem Mem.take {w : World} {A B : Nat} {a : Option Addr} {l : List En} (h : Mem w A B a l) (k : Nat) : Mem w A B a (l.take k) := fun hp => by
  rw [List.length_take] at hp
  obtain ⟨b, off, rfl, hA, hlt, hc⟩ := h (by omega)
  refine ⟨b, off, rfl, hA, hlt, fun i hi => ?_⟩
  rw [List.length_take] at hi
  rw [List.getElem_take]
  exact hc i (by omega)
theorem Mem.drop {w : World} {A B b off : Nat} {l : List En} (h : Mem w A B (some ⟨b, off, none⟩) l) (k : Nat) : Mem w A B (some ⟨b, off + k * 5, none⟩) (l.drop k) := fun hp => by
  rw [List.length_drop] at hp
  obtain ⟨b', off', he, hA, hlt, hc⟩ := h (by omega)
  cases he
  refine ⟨b, off + k * 5, rfl, hA, hlt, fun i hi => ?_⟩
  rw [List.length_drop] at hi
  rw [List.getElem_drop]
  have := hc (k + i) (by omega)
  rw [show off + (k + i) * 5 = off + k * 5 + i * 5 by omega] at this
  exact this
/-- A slice: its address a, its capacity c. -/
structure Sl (w : World) (A B : Nat) (a : Option Addr) (c : Nat) (l : List En) : Prop where
  mem : Mem w A B a l
  cap : l.length ≤ c
  nil : a = none → c = 0
  len : l.length ≤ 2199023255551
theorem Sl.keep {w w' : World} {A B : Nat} {a : Option Addr} {c : Nat} {l : List En} (h : Sl w A B a c l) (hb : Below B w w') : Sl w' A B a c l := ⟨h.mem.keep hb, h.cap, h.nil, h.len⟩
theorem Sl.more {w : World} {A A' B B' : Nat} {a : Option Addr} {c : Nat} {l : List En} (h : Sl w A B a c l) (hB : B ≤ B') (hA : A' ≤ A) : Sl w A' B' a c l := ⟨h.mem.more hB hA, h.cap, h.nil, h.len⟩
theorem Sl.on {w w' : World} {A : Nat} {a : Option Addr} {c : Nat} {l : List En} (h : Sl w A w.heap.size a c l) (hb : Below w.heap.size w w') : Sl w' A w'.heap.size a c l := (h.keep hb).more hb.size (Nat.le_refl _)
theorem Sl.zero {w : World} {A B : Nat} {a : Option Addr} {c : Nat} {l : List En} (h : Sl w A B a c l) (hA : A = A) : Sl w 0 B a c l := h.more (Nat.le_refl _) (Nat.zero_le _)
theorem Sl.take {w : World} {A B : Nat} {a : Option Addr} {c : Nat} {l : List En} (h : Sl w A B a c l) (k : Nat) : Sl w A B a (l.take k).length (l.take k) :=
  ⟨h.mem.take k, Nat.le_refl _, fun ha => by have := h.nil ha; have := h.cap; rw [List.length_take]; omega, by have := h.len; rw [List.length_take]; omega⟩
theorem Sl.drop {w : World} {A B b off : Nat} {c : Nat} {l : List En} (h : Sl w A B (some ⟨b, off, none⟩) c l) (k : Nat) (c2 : Nat) (hc : (l.drop k).length ≤ c2) : Sl w A B (some ⟨b, off + k * 5, none⟩) c2 (l.drop k) :=
  ⟨h.mem.drop k, hc, (fun ha => by cases ha), by have := h.len; rw [List.length_drop]; omega⟩
theorem Sl.empty (w : World) (A B : Nat) (a : Option Addr) (c : Nat) (h : a = none → c = 0) : Sl w A B a c [] := ⟨(by intro hp; simp at hp), by simp, h, by simp⟩
theorem Sl.at {w : World} {A B : Nat} {a : Option Addr} {c : Nat} {l : List En} (h : Sl w A B a c l) (k : Nat) (hk : k < l.length) : ∃ b off, a = some ⟨b, off, none⟩ ∧ A ≤ b ∧ b < B ∧ ∃ u, EntC w A B b (off + k * 5) l[k] u := by
  obtain ⟨b, off, rfl, hA, hlt, hc⟩ := h.mem (by omega)
  exact ⟨b, off, rfl, hA, hlt, hc k hk⟩
end Lo
end Go.Proofs.Ytlkdjnnlbccjdaa
