/-
  lives of gafferlaw18 is true.
-/
import Derived.Test.YtejolapbdkkdaaaNetRef
namespace Go.Proofs.Ytejolapbdkkdaaa
open Go.RowKit Go.Lib
namespace Nt
open Rw
set_option linter.unusedVariables false
def pA : Pk := ⟨1, 2, ⟨#[97]⟩⟩
def pB : Pk := ⟨2, 1, ⟨#[98]⟩⟩
def pC : Pk := ⟨1, 1, ⟨#[]⟩⟩
theorem b1 : netB [] = true := by decide +kernel
theorem b2 : netB [pA, pB] = true := by decide +kernel
theorem b3 : netB [pA, pB, pA] = true := by decide +kernel
theorem b4 : netB [pA, pA] = true := by decide +kernel
theorem b5 : putR [] [pA, pC, pB] = [pA, pB] := by
  unfold putR
  rw [b1, if_pos rfl]
  rfl
theorem b6 : putN [] [pA, pC, pB] = 2 := by
  unfold putN
  rw [b1, if_pos rfl]
  rfl
theorem b7 : twN [pA, pB] 0 = 0 := by unfold twN refN; rw [b2]; rfl
theorem b8 : refN [pA, pB, pA] 1 = 0 := by unfold refN; rw [b3]; rfl
theorem b9 : refN [] 0 = 1 := by unfold refN; rw [b1]; rfl
theorem b10 : errN [pA, pA] = 0 := by unfold errN; rw [b4]; rfl
theorem b11 : errN [] = 0 := by unfold errN; rw [b1]; rfl
theorem live_send (z : World) (T : TypeId) (N : Nat) (hN : N = z.heap.size) :
    Calls Try.prog 8 #[.agg #[.slice none 0 0], .slice (some ⟨N, 0, none⟩) 3 3] (z.alloc (.cells #[.int .i64 1, .int .i64 2, .string ⟨#[97]⟩, .int .i64 1, .int .i64 1, .string ⟨#[]⟩, .int .i64 2, .int .i64 1, .string ⟨#[98]⟩] T)) fun e w' => ∃ a c, e = .returned (.tuple #[.agg #[.slice a 2 c], .int .i64 2, .int .i64 0]) ∧ OwnP w' (z.heap.size + 1) (.slice a 2 c) [pA, pB] ∧ Below z.heap.size z w' := by
  subst hN
  have h := send_any (.slice none 0 0) (.slice (some ⟨z.heap.size, 0, none⟩) 3 3) [] [pA, pC, pB] _ (A := 0) (Sl.nil _ _ _) (sl_new z [pA, pC, pB] T (by decide))
  refine h.mono ?_
  rintro e w' ⟨v', h1, h2, h3⟩
  rw [b6, b11] at h1
  rw [b5] at h2
  rw [World.size_alloc] at h2
  obtain ⟨a, c, rfl⟩ := Own.slice h2
  exact ⟨a, c, h1, h2, (al z _).trans (h3.mono (by simp))⟩
theorem live_twice (v : Value) (z : World) (base : Nat) (h : OwnP z base v [pA, pB]) :
    Calls Try.prog 14 #[.agg #[v], .int .i64 0] z fun e w' => ∃ a c, e = .returned (.tuple #[.agg #[.slice a 3 c], .int .i64 0]) ∧ OwnP w' z.heap.size (.slice a 3 c) [pA, pB, pA] ∧ Below z.heap.size z w' := by
  refine (twice_own v [pA, pB] 0 z (Own.sl h (by decide))).mono ?_
  rintro e w' ⟨v', l, h1, h2, h3, -, h5⟩
  rw [b7] at h1 h3
  obtain ⟨k, hk, hk0, hl⟩ := h3 rfl
  obtain rfl : k = 0 := by omega
  subst hl
  obtain ⟨a, c, rfl⟩ := Own.slice h2
  exact ⟨a, c, h1, h2, h5⟩
theorem live_give (v : Value) (z : World) (base : Nat) (h : OwnP z base v [pA, pB, pA]) :
    Calls Try.prog 10 #[.agg #[v], .int .i64 1] z fun e w' => ∃ a c, e = .returned (.tuple #[.agg #[.slice a 2 c], .agg #[.int .i64 2, .int .i64 1, .string ⟨#[98]⟩], .int .i64 0]) ∧ OwnP w' z.heap.size (.slice a 2 c) [pA, pA] ∧ Below z.heap.size z w' := by
  refine (give_own v [pA, pB, pA] 1 z (Own.sl h (by decide))).mono ?_
  rintro e w' ⟨v', l, p, h1, h2, h3, -, h5⟩
  rw [b8] at h1 h3
  obtain ⟨k, hk, hk0, hl, hp⟩ := h3 rfl
  obtain rfl : k = 1 := by omega
  subst hl hp
  obtain ⟨a, c, rfl⟩ := Own.slice h2
  exact ⟨a, c, h1, h2, h5⟩
theorem live_take (v : Value) (z : World) (base : Nat) (h : OwnP z base v [pA, pA]) :
    Calls Try.prog 16 #[.agg #[v]] z fun e w' => ∃ g c, e = .returned (.tuple #[.slice (some ⟨g, 0, none⟩) 2 c, .agg #[.slice none 0 0], .int .i64 0]) ∧ (z.heap.size ≤ g ∧ g < w'.heap.size ∧ At w' g 3 pA) ∧ Below z.heap.size z w' := by
  refine (take_own v [pA, pA] z (Own.sl h (by decide))).mono ?_
  rintro e w' ⟨v', h1, h2, h5⟩
  rw [b10] at h1
  rw [b4, if_pos rfl] at h2
  obtain ⟨a, c, he, -, -, -, hc⟩ := Own.sl h2 (by decide)
  obtain ⟨b, off, rfl, hb1, hb2, hcc⟩ := hc (by decide)
  have h0 : off = 0 := by
    rcases h2.2 with ⟨e1, -⟩ | ⟨g, cap, cur, e1, -⟩
    · rw [e1] at he; cases he
    · rw [e1] at he
      simp only [Value.slice.injEq, Option.some.injEq, Addr.mk.injEq] at he
      exact he.1.2.1.symm
  subst h0
  subst he
  have := hcc 1 (by decide)
  exact ⟨b, c, h1, ⟨hb1, hb2, this⟩, h5⟩
theorem live_none (z : World) :
    Calls Try.prog 10 #[.agg #[.slice none 0 0], .int .i64 0] z fun e w' => ∃ a c, e = .returned (.tuple #[.agg #[.slice a 0 c], .agg #[.int .i64 0, .int .i64 0, .string ⟨#[]⟩], .int .i64 1]) ∧ Below z.heap.size z w' := by
  refine (give_own (.slice none 0 0) [] 0 z (A := 0) (Sl.nil _ _ _)).mono ?_
  rintro e w' ⟨v', l, p, h1, h2, -, h4, h5⟩
  rw [b9] at h1 h4
  obtain ⟨rfl, rfl⟩ := h4 (by decide)
  obtain ⟨a, c, rfl⟩ := Own.slice h2
  exact ⟨a, c, h1, h5⟩
/-- The boxes of lives: two packets, and the net at block N. -/
structure LvS (w : World) (N : Nat) (v : Value) (z : World) : Prop where
  be : Below w.heap.size w z
  lo : w.heap.size + 2 ≤ N
  lt : N < z.heap.size
  a : At z w.heap.size 0 pA
  b : At z (w.heap.size + 1) 0 pB
  c : z.cell? ⟨N, 0, none⟩ = some v
  f : z.frozen? ⟨N, 0, none⟩ = false
theorem LvS.go {w z z' : World} {N : Nat} {v : Value} (h : LvS w N v z) (hb : Below z.heap.size z z') : LvS w N v z' := by
  have h1 := h.lo
  have h2 := h.lt
  exact ⟨h.be.trans (hb.mono h.be.size), h1, Nat.lt_of_lt_of_le h2 hb.size, h.a.keep hb (by omega), h.b.keep hb (by omega), (hb.cell (by exact h2)).trans h.c, (hb.frozen (by exact h2)).trans h.f⟩
theorem At.put {α : Type} [Flat α] {w : World} {b o N : Nat} {x : α} (h : At w b o x) (hn : N ≠ b) (v : Value) : At (w.setCell ⟨N, 0, none⟩ v) b o x := fun j u hj => (World.cell?_setCell_other _ _ _ _ (fun e => hn (congrArg Addr.block e))).trans (h j u hj)
theorem LvS.put {w z : World} {N : Nat} {v : Value} (h : LvS w N v z) (v' : Value) : LvS w N v' (z.setCell ⟨N, 0, none⟩ v') := by
  have h1 := h.lo
  have h2 := h.lt
  refine ⟨h.be.setCell (p := ⟨N, 0, none⟩) (by show w.heap.size ≤ N; omega) _, h1, by rw [World.size_setCell]; exact h2, At.put h.a (by omega) _, At.put h.b (by omega) _, World.cell?_setCell_same _ _ _ h.c, ?_⟩
  rw [World.frozen?_setCell]
  exact h.f
theorem own_put {z : World} {base M j : Nat} {v u : Value} {l : List Pk} (h : OwnP z base v l) (hM : v.ownBlock ≠ some M) : OwnP (z.setCell ⟨M, j, none⟩ u) base v l := by
  refine ⟨h.1, ?_⟩
  rcases h.2 with h2 | ⟨g, cap, cur, rfl, h4, h5, h6⟩
  · exact .inl h2
  · refine .inr ⟨g, cap, cur, rfl, h4, ?_, h6⟩
    rw [Below.heap_setCell _ _ _ _ (fun e => hM (congrArg some e))]
    exact h5
theorem LvS.oth {w z : World} {N M j : Nat} {v u : Value} (h : LvS w N v z) (hn : N < M) : LvS w N v (z.setCell ⟨M, j, none⟩ u) := by
  have h1 := h.lo
  have hne : ∀ {b o : Nat}, b < M → (⟨M, j, none⟩ : Addr) ≠ ⟨b, o, none⟩ := fun hb e => by have := congrArg Addr.block e; simp at this; omega
  refine ⟨h.be.setCell (p := ⟨M, j, none⟩) (by show w.heap.size ≤ M; omega) _, h1, by rw [World.size_setCell]; exact h.lt, fun i x hi => (World.cell?_setCell_other _ _ _ _ (hne (by omega))).trans (h.a i x hi), fun i x hi => (World.cell?_setCell_other _ _ _ _ (hne (by omega))).trans (h.b i x hi), (World.cell?_setCell_other _ _ _ _ (hne (by omega))).trans h.c, ?_⟩
  rw [World.frozen?_setCell]
  exact h.f
theorem three {z : World} {M : Nat} {x0 x1 x2 : Value} (y3 : z.cell? ⟨M, 0, none⟩ = some x0) (y4 : z.cell? ⟨M, 1, none⟩ = some x1) (y5 : z.cell? ⟨M, 2, none⟩ = some x2) (p : Pk) :
    At (((z.setCell ⟨M, 0, none⟩ (.int .i64 p.f)).setCell ⟨M, 1, none⟩ (.int .i64 p.t)).setCell ⟨M, 2, none⟩ (.string p.d)) M 0 p := by
  have n2 : ∀ {b o p : Nat}, o ≠ p → (⟨b, o, none⟩ : Addr) ≠ ⟨b, p, none⟩ := fun hn e => hn (by cases e; rfl)
  intro j u hj
  match j, hj with
  | 0, hj =>
    cases hj
    rw [World.cell?_setCell_other _ _ _ _ (n2 (by omega)), World.cell?_setCell_other _ _ _ _ (n2 (by omega))]
    exact World.cell?_setCell_same _ _ _ y3
  | 1, hj =>
    cases hj
    rw [World.cell?_setCell_other _ _ _ _ (n2 (by omega))]
    exact World.cell?_setCell_same _ _ _ ((World.cell?_setCell_other _ _ _ _ (n2 (by omega))).trans y4)
  | 2, hj =>
    cases hj
    exact World.cell?_setCell_same _ _ _ ((World.cell?_setCell_other _ _ _ _ (n2 (by omega))).trans ((World.cell?_setCell_other _ _ _ _ (n2 (by omega))).trans y5))
  | j + 3, hj => simp [Flat.enc] at hj
set_option maxHeartbeats 4000000 in
set_option maxRecDepth 100000 in
theorem lives_true (w : World) : Calls Try.prog 12 #[] w fun e w' => e = .returned (.bool true) ∧ Below w.heap.size w w' := by
  have K1 := Lib.hid (fun z T N h => live_send z T N h)
  have K2 := Lib.hid (fun v z base h => live_twice v z base h)
  have K3 := Lib.hid (fun v z base h => live_give v z base h)
  have K4 := Lib.hid (fun v z base h => live_take v z base h)
  have K5 := Lib.hid (fun z => live_none z)
  have hz0 : Below w.heap.size w ((w.alloc (.cells #[.int .i64 1, .int .i64 2, .string ⟨#[97]⟩] 30)).alloc (.cells #[.int .i64 2, .int .i64 1, .string ⟨#[98]⟩] 30)) := (al w _).alloc (by simp) _
  have hA0 : At ((w.alloc (.cells #[.int .i64 1, .int .i64 2, .string ⟨#[97]⟩] 30)).alloc (.cells #[.int .i64 2, .int .i64 1, .string ⟨#[98]⟩] 30)) w.heap.size 0 pA := (at_new w pA 30).keep (al (w.alloc (.cells #[.int .i64 1, .int .i64 2, .string ⟨#[97]⟩] 30)) (.cells #[.int .i64 2, .int .i64 1, .string ⟨#[98]⟩] 30)) (by simp)
  have hB0 : At ((w.alloc (.cells #[.int .i64 1, .int .i64 2, .string ⟨#[97]⟩] 30)).alloc (.cells #[.int .i64 2, .int .i64 1, .string ⟨#[98]⟩] 30)) (w.heap.size + 1) 0 pB := by
    have := at_new (w.alloc (.cells #[.int .i64 1, .int .i64 2, .string ⟨#[97]⟩] 30)) pB 30
    rw [World.size_alloc] at this
    exact this
  have HZ0 := Lib.hid hz0
  have HA0 := Lib.hid hA0
  have HB0 := Lib.hid hB0
  clear hz0 hA0 hB0
  go_enter Try.func12, Try.ntmps12
  go_wp2_with fail
  refine Calls.mono (K1.out _ _ (w.heap.size + 1 + 1) (by simp)) ?_
  rintro e w1 ⟨a1, c1, rfl, ho1, hb1⟩
  have hl1 : w.heap.size + 2 ≤ w1.heap.size := by have := hb1.size; simp at this; exact this
  have HO1 := Lib.hid (Own.keep ho1 (al w1 (.cells #[.slice a1 2 c1] 24)))
  have HS1 : Hid (LvS w w1.heap.size (.slice a1 2 c1) (w1.alloc (.cells #[.slice a1 2 c1] 24))) := by
    have hbe := HZ0.out.trans (hb1.mono HZ0.out.size)
    have ha := HA0.out.keep hb1 (by simp; omega)
    have hb := HB0.out.keep hb1 (by simp)
    exact ⟨hbe.alloc hbe.size _, hl1, by simp, ha.keep (al w1 _) (by omega), hb.keep (al w1 _) (by omega), cell_new _ _ _, frozen_of_row _ _ 0 _ _ (heap_alloc_new _ _)⟩
  clear ho1 hb1 HZ0 HA0 HB0 hl1 K1
  go_wp2_with fail
  refine Calls.mono (K2.out _ _ _ HO1.out) ?_
  rintro e w2 ⟨a2, c2, rfl, ho2, hb2⟩
  have HS2 := Lib.hid (HS1.out.go hb2)
  have HT2 := Lib.hid (HS2.out.put (.slice a2 3 c2))
  have HO2 : Hid (OwnP (w2.setCell ⟨w1.heap.size, 0, none⟩ (.slice a2 3 c2)) _ (.slice a2 3 c2) [pA, pB, pA]) := ownsRow_setCell_below ho2 (a := ⟨w1.heap.size, 0, none⟩) HS1.out.lt _
  have y2 := HS2.out.c
  have f2 := HS2.out.f
  clear ho2 hb2 HO1 K2
  go_wp2_with fail
  refine Calls.mono (K3.out _ _ _ HO2.out) ?_
  rintro e w3 ⟨a3, c3, rfl, ho3, hb3⟩
  have HS3 := Lib.hid (HT2.out.go hb3)
  have y3 := HS3.out.c
  have f3 := HS3.out.f
  have n3 : ¬ w3.heap.size = w1.heap.size := by have := HS3.out.lt; omega
  have n3' : ¬ w1.heap.size = w3.heap.size := by have := HS3.out.lt; omega
  have HS3a := Lib.hid (HS3.out.go (al w3 (.cells #[.int .i64 0, .int .i64 0, .string ⟨#[]⟩] 30)))
  have y3a := HS3a.out.c
  have f3a := HS3a.out.f
  have HT3 := Lib.hid ((((HS3a.out.put (.slice a3 2 c3)).oth (j := 0) (u := .int .i64 2) HS3.out.lt).oth (j := 1) (u := .int .i64 1) HS3.out.lt).oth (j := 2) (u := .string ⟨#[98]⟩) HS3.out.lt)
  have hz := at_pk (at_new w3 (⟨0, 0, ⟨#[]⟩⟩ : Pk) 30)
  have hne : ∀ o p : Nat, (⟨w1.heap.size, o, none⟩ : Addr) ≠ ⟨w3.heap.size, p, none⟩ := fun o p e => n3' (congrArg Addr.block e)
  have HP3 : Hid (At (((((w3.alloc (.cells #[.int .i64 0, .int .i64 0, .string ⟨#[]⟩] 30)).setCell ⟨w1.heap.size, 0, none⟩ (.slice a3 2 c3)).setCell ⟨w3.heap.size, 0, none⟩ (.int .i64 2)).setCell ⟨w3.heap.size, 1, none⟩ (.int .i64 1)).setCell ⟨w3.heap.size, 2, none⟩ (.string ⟨#[98]⟩)) w3.heap.size 0 pB) := (three ((World.cell?_setCell_other _ _ _ (.slice a3 2 c3) (hne 0 _)).trans hz.1) ((World.cell?_setCell_other _ _ _ (.slice a3 2 c3) (hne 0 _)).trans hz.2.1) ((World.cell?_setCell_other _ _ _ (.slice a3 2 c3) (hne 0 _)).trans hz.2.2) pB)
  have HO3 : Hid (OwnP (((((w3.alloc (.cells #[.int .i64 0, .int .i64 0, .string ⟨#[]⟩] 30)).setCell ⟨w1.heap.size, 0, none⟩ (.slice a3 2 c3)).setCell ⟨w3.heap.size, 0, none⟩ (.int .i64 2)).setCell ⟨w3.heap.size, 1, none⟩ (.int .i64 1)).setCell ⟨w3.heap.size, 2, none⟩ (.string ⟨#[98]⟩)) _ (.slice a3 2 c3) [pA, pA]) :=
    own_put (own_put (own_put (own_put (Own.keep ho3 (al w3 _)) (fun e => by have := (Own.lt ho3 _ e).1; have := HT2.out.lt; omega)) (fun e => by have := (Own.lt ho3 _ e).2; omega)) (fun e => by have := (Own.lt ho3 _ e).2; omega)) (fun e => by have := (Own.lt ho3 _ e).2; omega)
  have HZ3 : Hid (w3.heap.size < (((((w3.alloc (.cells #[.int .i64 0, .int .i64 0, .string ⟨#[]⟩] 30)).setCell ⟨w1.heap.size, 0, none⟩ (.slice a3 2 c3)).setCell ⟨w3.heap.size, 0, none⟩ (.int .i64 2)).setCell ⟨w3.heap.size, 1, none⟩ (.int .i64 1)).setCell ⟨w3.heap.size, 2, none⟩ (.string ⟨#[98]⟩)).heap.size) := by show _ < _; simp
  clear y2 f2 hz hne ho3 HO2 K3
  go_wp2_with fail
  refine Calls.mono (K4.out _ _ _ HO3.out) ?_
  clear y3a f3a y3 f3 n3 n3'
  generalize ((((w3.alloc (.cells #[.int .i64 0, .int .i64 0, .string ⟨#[]⟩] 30)).setCell ⟨w1.heap.size, 0, none⟩ (.slice a3 2 c3)).setCell ⟨w3.heap.size, 0, none⟩ (.int .i64 2)).setCell ⟨w3.heap.size, 1, none⟩ (.int .i64 1)).setCell ⟨w3.heap.size, 2, none⟩ (.string ⟨#[98]⟩) = z3 at *
  rintro e w4 ⟨g, c4, rfl, ⟨hg0, hg1, hg2⟩, hb4⟩
  have HL4 : Hid (w3.heap.size < z3.heap.size) := HZ3.out
  have HP4 := Lib.hid (HP3.out.keep hb4 HL4.out)
  have HT4 := Lib.hid (HT3.out.go hb4)
  have HG4 := Lib.hid hg2
  have HW43 : Hid (w3.heap.size < w4.heap.size) := Nat.lt_of_lt_of_le HL4.out hb4.size
  have HG1 := Lib.hid hg1
  clear hb4 HO3 K4 hg0 hg1 hg2 HP3
  go_wp2_with fail
  refine Calls.mono (K5.out _) ?_
  rintro e w5 ⟨a5, c5, rfl, hb5⟩
  have hb45 : Below w4.heap.size w4 w5 := (al w4 (.cells #[.slice none 0 0] 24)).trans (hb5.mono (by simp))
  have hb6 : Below w4.heap.size w4 ((w5.alloc (.cells #[.slice a5 0 c5] 24)).alloc (.cells #[.int .i64 0, .int .i64 0, .string ⟨#[]⟩] 30)) := (hb45.alloc hb45.size _).alloc (by have := hb45.size; simp; omega) _
  have HT6 := Lib.hid (HT4.out.go hb6)
  obtain ⟨pa0, pa1, pa2⟩ := at_pk HT6.out.a
  obtain ⟨pb0, pb1, pb2⟩ := at_pk HT6.out.b
  obtain ⟨pc0, pc1, pc2⟩ := at_pk (HP4.out.keep hb6 HW43.out)
  obtain ⟨pd0, pd1, pd2⟩ := at_pk (HG4.out.keep hb6 HG1.out)
  have gp := guard_pk
  have e1 := eql_pk 2 1 ⟨#[98]⟩ 2 1 ⟨#[98]⟩
  have e2 := eql_pk 1 2 ⟨#[97]⟩ 1 2 ⟨#[97]⟩
  rw [show eqP 2 1 ⟨#[98]⟩ 2 1 ⟨#[98]⟩ = true by decide +kernel] at e1
  rw [show eqP 1 2 ⟨#[97]⟩ 1 2 ⟨#[97]⟩ = true by decide +kernel] at e2
  simp only [pA, pB] at pa0 pa1 pa2 pb0 pb1 pb2 pc0 pc1 pc2 pd0 pd1 pd2
  clear hb45 hb6 hb5
  go_wp2
  go_quiet (fail)
  go_wp2
  go_ret
  exact ⟨rfl, bdN HT6.out.be _⟩
end Nt
end Go.Proofs.Ytejolapbdkkdaaa
