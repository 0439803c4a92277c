/-
  LOGS IN MEMORY: rows of entries, of numbers, that lie in blocks from A on, below B.
-/
import Derived.Test.YtjalmciaaenmjaaLogMath
import Derived.WalkLawsBesides
import Derived.WalkSpells
import Derived.Lib.Hide
import Derived.Deep.LoopGhost
import Derived.Deep.QuietTactic
import Derived.BigQuiet
import Derived.Laws.OwnMore
import Derived.Deep.OwnRows
import Derived.Lib.SmallJoins
import Derived.ArgAppend
namespace Go.Proofs.Ytjalmciaaenmjaa
open Go.RowKit
namespace Lo
set_option linter.unusedVariables false
theorem bdN {B : Nat} {a w : World} (h : Below B a w) (n : Nat) : Below B a (w.drewN n) := ⟨h.os, h.tape, h.output, h.size, h.block⟩
def IntsR (w : World) (A B : Nat) (v : Value) (ks : List Int) : Prop :=
  ∃ a c, v = .slice a ks.length c ∧ ks.length ≤ 17592186044416 ∧ (∀ x ∈ ks, -9223372036854775808 ≤ x ∧ x ≤ 9223372036854775807) ∧
    (0 < ks.length → ∃ b off, a = some ⟨b, off, none⟩ ∧ A ≤ b ∧ b < B ∧ ∀ i (h : i < ks.length), w.cell? ⟨b, off + i, none⟩ = some (.int .i64 ks[i]))
theorem IntsR.keep {w w' : World} {A B : Nat} {v : Value} {ks : List Int} (h : IntsR w A B v ks) (hb : Below B w w') : IntsR w' A B v ks := by
  obtain ⟨a, c, rfl, h1, h2, h3⟩ := h
  refine ⟨a, c, rfl, h1, h2, fun hp => ?_⟩
  obtain ⟨b, off, rfl, hA, hlt, hc⟩ := h3 hp
  exact ⟨b, off, rfl, hA, hlt, fun i hi => (hb.cell (by exact hlt)).trans (hc i hi)⟩
theorem IntsR.more {w : World} {A A' B B' : Nat} {v : Value} {ks : List Int} (h : IntsR w A B v ks) (hb : B ≤ B') (hA : A' ≤ A) : IntsR w A' B' v ks := by
  obtain ⟨a, c, rfl, h1, h2, h3⟩ := h
  refine ⟨a, c, rfl, h1, h2, fun hp => ?_⟩
  obtain ⟨b, off, rfl, hA, hlt, hc⟩ := h3 hp
  exact ⟨b, off, rfl, by omega, by omega, hc⟩
/-- An entry's cells. -/
structure EntC (w : World) (A B b o : Nat) (e : En) (u : Value) : Prop where
  c0 : w.cell? ⟨b, o, none⟩ = some (.int .u64 (e.i : Nat))
  c1 : w.cell? ⟨b, o + 1, none⟩ = some (.int .u64 (e.t : Nat))
  c2 : w.cell? ⟨b, o + 2, none⟩ = some (.int .u8 (e.k : Nat))
  c3 : w.cell? ⟨b, o + 3, none⟩ = some (.string e.d)
  c4 : w.cell? ⟨b, o + 4, none⟩ = some u
  iv : IntsR w A B u e.ks
  i64 : Lt64 e.i
  t64 : Lt64 e.t
theorem EntC.keep {w w' : World} {A B b o : Nat} {e : En} {u : Value} (h : EntC w A B b o e u) (hb : Below B w w') (hlt : b < B) : EntC w' A B b o e u :=
  ⟨(hb.cell (by exact hlt)).trans h.c0, (hb.cell (by exact hlt)).trans h.c1, (hb.cell (by exact hlt)).trans h.c2, (hb.cell (by exact hlt)).trans h.c3, (hb.cell (by exact hlt)).trans h.c4, h.iv.keep hb, h.i64, h.t64⟩
theorem EntC.more {w : World} {A A' B B' b o : Nat} {e : En} {u : Value} (h : EntC w A B b o e u) (hB : B ≤ B') (hA : A' ≤ A) : EntC w A' B' b o e u :=
  ⟨h.c0, h.c1, h.c2, h.c3, h.c4, h.iv.more hB hA, h.i64, h.t64⟩
/-- The entries l lie at a. -/
def Mem (w : World) (A B : Nat) (a : Option Addr) (l : List En) : Prop :=
  0 < l.length → ∃ b off, a = some ⟨b, off, none⟩ ∧ A ≤ b ∧ b < B ∧ ∀ i (h : i < l.length), ∃ u, EntC w A B b (off + i * 5) l[i] u
theorem Mem.keep {w w' : World} {A B : Nat} {a : Option Addr} {l : List En} (h : Mem w A B a l) (hb : Below B w w') : Mem w' A B a l := fun hp => by
  obtain ⟨b, off, rfl, hA, hlt, hc⟩ := h hp
  exact ⟨b, off, rfl, hA, hlt, fun i hi => (hc i hi).imp fun u hu => hu.keep hb hlt⟩
theorem Mem.more {w : World} {A A' B B' : Nat} {a : Option Addr} {l : List En} (h : Mem w A B a l) (hB : B ≤ B') (hA : A' ≤ A) : Mem w A' B' a l := fun hp => by
  obtain ⟨b, off, rfl, hA, hlt, hc⟩ := h hp
  exact ⟨b, off, rfl, by omega, by omega, fun i hi => (hc i hi).imp fun u hu => hu.more hB (by omega)⟩
theorem Mem.take {w : World} {A B : Nat} {a : Option Addr} {l : List En} (h : Mem w A B a l) (k : Nat) : Mem w A B a (l.take k) := fun hp => by
  rw [List.length_take] at hp
  obtain ⟨b, off, rfl, hA, hlt, hc⟩ := h (by omega)
  refine ⟨b, off, rfl, hA, hlt, fun i hi => ?_⟩
  rw [List.length_take] at hi
  rw [List.getElem_take]
  exact hc i (by omega)
theorem Mem.drop {w : World} {A B b off : Nat} {l : List En} (h : Mem w A B (some ⟨b, off, none⟩) l) (k : Nat) : Mem w A B (some ⟨b, off + k * 5, none⟩) (l.drop k) := fun hp => by
  rw [List.length_drop] at hp
  obtain ⟨b', off', he, hA, hlt, hc⟩ := h (by omega)
  cases he
  refine ⟨b, off + k * 5, rfl, hA, hlt, fun i hi => ?_⟩
  rw [List.length_drop] at hi
  rw [List.getElem_drop]
  have := hc (k + i) (by omega)
  rw [show off + (k + i) * 5 = off + k * 5 + i * 5 by omega] at this
  exact this
/-- A slice: its address a, its capacity c. -/
structure Sl (w : World) (A B : Nat) (a : Option Addr) (c : Nat) (l : List En) : Prop where
  mem : Mem w A B a l
  cap : l.length ≤ c
  nil : a = none → c = 0
  len : l.length ≤ 2199023255551
theorem Sl.keep {w w' : World} {A B : Nat} {a : Option Addr} {c : Nat} {l : List En} (h : Sl w A B a c l) (hb : Below B w w') : Sl w' A B a c l := ⟨h.mem.keep hb, h.cap, h.nil, h.len⟩
theorem Sl.more {w : World} {A A' B B' : Nat} {a : Option Addr} {c : Nat} {l : List En} (h : Sl w A B a c l) (hB : B ≤ B') (hA : A' ≤ A) : Sl w A' B' a c l := ⟨h.mem.more hB hA, h.cap, h.nil, h.len⟩
theorem Sl.on {w w' : World} {A : Nat} {a : Option Addr} {c : Nat} {l : List En} (h : Sl w A w.heap.size a c l) (hb : Below w.heap.size w w') : Sl w' A w'.heap.size a c l := (h.keep hb).more hb.size (Nat.le_refl _)
theorem Sl.zero {w : World} {A B : Nat} {a : Option Addr} {c : Nat} {l : List En} (h : Sl w A B a c l) (hA : A = A) : Sl w 0 B a c l := h.more (Nat.le_refl _) (Nat.zero_le _)
theorem Sl.take {w : World} {A B : Nat} {a : Option Addr} {c : Nat} {l : List En} (h : Sl w A B a c l) (k : Nat) : Sl w A B a (l.take k).length (l.take k) :=
  ⟨h.mem.take k, Nat.le_refl _, fun ha => by have := h.nil ha; have := h.cap; rw [List.length_take]; omega, by have := h.len; rw [List.length_take]; omega⟩
theorem Sl.drop {w : World} {A B b off : Nat} {c : Nat} {l : List En} (h : Sl w A B (some ⟨b, off, none⟩) c l) (k : Nat) (c2 : Nat) (hc : (l.drop k).length ≤ c2) : Sl w A B (some ⟨b, off + k * 5, none⟩) c2 (l.drop k) :=
  ⟨h.mem.drop k, hc, (fun ha => by cases ha), by have := h.len; rw [List.length_drop]; omega⟩
theorem Sl.empty (w : World) (A B : Nat) (a : Option Addr) (c : Nat) (h : a = none → c = 0) : Sl w A B a c [] := ⟨(by intro hp; simp at hp), by simp, h, by simp⟩
theorem Sl.at {w : World} {A B : Nat} {a : Option Addr} {c : Nat} {l : List En} (h : Sl w A B a c l) (k : Nat) (hk : k < l.length) : ∃ b off, a = some ⟨b, off, none⟩ ∧ A ≤ b ∧ b < B ∧ ∃ u, EntC w A B b (off + k * 5) l[k] u := by
  obtain ⟨b, off, rfl, hA, hlt, hc⟩ := h.mem (by omega)
  exact ⟨b, off, rfl, hA, hlt, hc k hk⟩
end Lo
end Go.Proofs.Ytjalmciaaenmjaa
