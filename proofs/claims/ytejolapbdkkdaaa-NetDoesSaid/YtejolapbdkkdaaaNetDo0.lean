/-
  NetDoes: what the calls answer, as one row and numbers; what stays as the calls go by.
-/
import Derived.Test.YtejolapbdkkdaaaNetRf3
import Derived.Test.YtejolapbdkkdaaaNetMade
namespace Go.Proofs.Ytejolapbdkkdaaa
open Go.RowKit Go.Lib
namespace Nt
open Rw
set_option linter.unusedVariables false
/-- What stays: boxes of rows, boxes of packets, rows. -/
structure Kp (w : World) (L : List (Nat × Value × List Pk)) (P : List (Nat × Pk)) (Q : List (Value × List Pk)) (z : World) : Prop where
  be : Below w.heap.size w z
  it : ∀ x ∈ L, x.1 < z.heap.size ∧ z.cell? ⟨x.1, 0, none⟩ = some x.2.1 ∧ Sl z 0 z.heap.size x.2.1 x.2.2
  pk : ∀ x ∈ P, x.1 < z.heap.size ∧ At z x.1 0 x.2
  rw : ∀ x ∈ Q, Sl z 0 z.heap.size x.1 x.2
section
variable {w z z' : World} {L : List (Nat × Value × List Pk)} {P : List (Nat × Pk)} {Q : List (Value × List Pk)} {v : Value} {R : List Pk} {b : Nat}
theorem Kp.go (h : Kp w L P Q z) (hb : Below z.heap.size z z') : Kp w L P Q z' :=
  ⟨h.be.trans (hb.mono h.be.size), fun x hx => ⟨Nat.lt_of_lt_of_le (h.it x hx).1 hb.size, (hb.cell (p := ⟨x.1, 0, none⟩) (h.it x hx).1).trans (h.it x hx).2.1, (h.it x hx).2.2.on hb⟩,
    fun x hx => ⟨Nat.lt_of_lt_of_le (h.pk x hx).1 hb.size, (h.pk x hx).2.keep hb (h.pk x hx).1⟩, fun x hx => (h.rw x hx).on hb⟩
theorem Kp.box (h : Kp w L P Q z) (hv : Sl z 0 z.heap.size v R) (T : TypeId) : Kp w ((z.heap.size, v, R) :: L) P Q (z.alloc (.cells #[v] T)) := by
  have h2 := h.go (al z (.cells #[v] T))
  refine ⟨h2.be, fun x hx => ?_, h2.pk, h2.rw⟩
  rcases List.mem_cons.1 hx with rfl | hx
  · exact ⟨by simp, cell_new z v T, hv.on (al z _)⟩
  · exact h2.it x hx
theorem Kp.pbox (h : Kp w L P Q z) (x : Pk) (T : TypeId) {B : Nat} (hB : z.heap.size = B) : Kp w L ((B, x) :: P) Q (z.alloc (.cells #[.int .i64 x.f, .int .i64 x.t, .string x.d] T)) := by
  subst hB
  have h2 := h.go (al z (.cells #[.int .i64 x.f, .int .i64 x.t, .string x.d] T))
  refine ⟨h2.be, h2.it, fun y hy => ?_, h2.rw⟩
  rcases List.mem_cons.1 hy with rfl | hy
  · exact ⟨by simp, at_new z x T⟩
  · exact h2.pk y hy
theorem Kp.row (h : Kp w L P Q z) (hv : Sl z 0 z.heap.size v R) : Kp w L P ((v, R) :: Q) z := by
  refine ⟨h.be, h.it, h.pk, fun y hy => ?_⟩
  rcases List.mem_cons.1 hy with rfl | hy
  · exact hv
  · exact h.rw y hy
theorem Kp.c (h : Kp w L P Q z) (hm : (b, v, R) ∈ L) : z.cell? ⟨b, 0, none⟩ = some v := (h.it _ hm).2.1
theorem Kp.s (h : Kp w L P Q z) (hm : (b, v, R) ∈ L) : Sl z 0 z.heap.size v R := (h.it _ hm).2.2
theorem Kp.q (h : Kp w L P Q z) (hm : (v, R) ∈ Q) : Sl z 0 z.heap.size v R := h.rw _ hm
theorem Kp.p (h : Kp w L P Q z) {f t : Int} {d : ByteArray} (hm : (b, (⟨f, t, d⟩ : Pk)) ∈ P) : z.cell? ⟨b, 0, none⟩ = some (.int .i64 f) ∧ z.cell? ⟨b, 1, none⟩ = some (.int .i64 t) ∧ z.cell? ⟨b, 2, none⟩ = some (.string d) := at_pk (h.pk _ hm).2
theorem Kp.start (w : World) (h : Sl w 0 w.heap.size v R) (T : TypeId) : Kp w [(w.heap.size, v, R)] [] [] (w.alloc (.cells #[v] T)) :=
  Kp.box (L := []) (P := []) (Q := []) ⟨Below.refl _ w, fun x hx => absurd hx (by simp), fun x hx => absurd hx (by simp), fun x hx => absurd hx (by simp)⟩ h T
end
def noP : Pk := ⟨0, 0, ⟨#[]⟩⟩
def givR (n : List Pk) (i : Int) : List Pk := if refN n i = 0 then n.eraseIdx i.toNat else []
def givP (n : List Pk) (i : Int) : Pk := if refN n i = 0 then n[i.toNat]?.getD noP else noP
def twR (n : List Pk) (i : Int) : List Pk := if twN n i = 0 then n ++ [n[i.toNat]?.getD noP] else []
def tkR (n : List Pk) : List Pk := if netB n then n else []
theorem sl_of {z : World} {base : Nat} {v : Value} {R : List Pk} (h : OwnP z base v R) (hl : R.length ≤ 4398046511104) : ∃ a c, v = .slice a R.length c ∧ Sl z 0 z.heap.size (.slice a R.length c) R := by
  have h2 := Own.sl h hl
  obtain ⟨a, c, rfl⟩ := Own.slice h
  exact ⟨a, c, rfl, h2.more (Nat.le_refl _) (Nat.zero_le _)⟩
theorem send_d {z w' : World} {n l : List Pk} {e : Ending} (h : SendIs z n l e w') : ∃ a c, e = .returned (.tuple #[.agg #[.slice a (putR n l).length c], .int .i64 (putN n l : Nat), .int .i64 (errN n)]) ∧ Sl w' 0 w'.heap.size (.slice a (putR n l).length c) (putR n l) ∧ Below z.heap.size z w' := by
  obtain ⟨v', h1, h2, h3⟩ := h
  have hl : (putR n l).length ≤ 4398046511104 := by
    cases hq : netB n
    · unfold putR; rw [hq]; simp
    · have := (put_len (l := l) hq).2.2.1; omega
  obtain ⟨a, c, rfl, hs⟩ := sl_of h2 hl
  exact ⟨a, c, h1, hs, h3⟩
theorem give_d {z w' : World} {n : List Pk} {i : Int} {e : Ending} (h : GiveIs z n i e w') (hn : n.length ≤ 4398046511104) : ∃ a c, e = .returned (.tuple #[.agg #[.slice a (givR n i).length c], .agg #[.int .i64 (givP n i).f, .int .i64 (givP n i).t, .string (givP n i).d], .int .i64 (refN n i)]) ∧ Sl w' 0 w'.heap.size (.slice a (givR n i).length c) (givR n i) ∧ Below z.heap.size z w' := by
  obtain ⟨v', l, p, h1, h2, h3, h4, h5⟩ := h
  have hlp : l = givR n i ∧ p = givP n i ∧ l.length ≤ 4398046511104 := by
    unfold givR givP
    by_cases h0 : refN n i = 0
    · obtain ⟨k, hk, rfl, rfl, rfl⟩ := h3 h0
      rw [if_pos h0, if_pos h0]
      refine ⟨rfl, by simp [hk], ?_⟩
      have := List.length_eraseIdx_le n k
      omega
    · obtain ⟨rfl, rfl⟩ := h4 h0
      rw [if_neg h0, if_neg h0]
      exact ⟨rfl, rfl, by simp⟩
  obtain ⟨rfl, rfl, hl⟩ := hlp
  obtain ⟨a, c, rfl, hs⟩ := sl_of h2 hl
  exact ⟨a, c, h1, hs, h5⟩
theorem twice_d {z w' : World} {n : List Pk} {i : Int} {e : Ending} (h : TwiceIs z n i e w') : ∃ a c, e = .returned (.tuple #[.agg #[.slice a (twR n i).length c], .int .i64 (twN n i)]) ∧ Sl w' 0 w'.heap.size (.slice a (twR n i).length c) (twR n i) ∧ Below z.heap.size z w' := by
  obtain ⟨v', l, h1, h2, h3, h4, h5⟩ := h
  have hlp : l = twR n i ∧ l.length ≤ 4398046511104 := by
    unfold twR
    by_cases h0 : twN n i = 0
    · obtain ⟨k, hk, rfl, rfl⟩ := h3 h0
      rw [if_pos h0]
      refine ⟨by simp [hk], ?_⟩
      have hn4 : n.length ≤ 4096 := by
        rcases ref_cases n (k : Int) with ⟨-, hb, -⟩ | h9 | h9
        · exact net_len hb
        all_goals
          unfold twN at h0
          rw [h9] at h0
          exact absurd h0 (by simp)
      rw [List.length_append]
      simp
      omega
    · obtain rfl := h4 h0
      rw [if_neg h0]
      exact ⟨rfl, by simp⟩
  obtain ⟨rfl, hl⟩ := hlp
  obtain ⟨a, c, rfl, hs⟩ := sl_of h2 hl
  exact ⟨a, c, h1, hs, h5⟩
theorem take_d {z w' : World} {n : List Pk} {e : Ending} (h : TakeIs z n e w') (hn : n.length ≤ 4398046511104) : ∃ a c, e = .returned (.tuple #[.slice a (tkR n).length c, .agg #[.slice none 0 0], .int .i64 (errN n)]) ∧ Sl w' 0 w'.heap.size (.slice a (tkR n).length c) (tkR n) ∧ Below z.heap.size z w' := by
  obtain ⟨v', h1, h2, h3⟩ := h
  have hl : (tkR n).length ≤ 4398046511104 := by unfold tkR; split <;> simp [hn]
  obtain ⟨a, c, rfl, hs⟩ := sl_of (R := tkR n) h2 hl
  exact ⟨a, c, h1, hs, h3⟩
theorem copy_d {z w' : World} {n : List Pk} {e : Ending} (h : CopyIs z n e w') (hn : n.length ≤ 4398046511104) : ∃ a c, e = .returned (.agg #[.slice a n.length c]) ∧ Sl w' 0 w'.heap.size (.slice a n.length c) n ∧ Below z.heap.size z w' := by
  obtain ⟨v', h1, h2, h3⟩ := h
  obtain ⟨a, c, rfl, hs⟩ := sl_of h2 hn
  exact ⟨a, c, h1, hs, h3⟩
theorem eqP_self (f t : Int) (d : ByteArray) : eqP f t d f t d = true := (eqk_iff ⟨f, t, d⟩ ⟨f, t, d⟩).2 rfl
end Nt
end Go.Proofs.Ytejolapbdkkdaaa
