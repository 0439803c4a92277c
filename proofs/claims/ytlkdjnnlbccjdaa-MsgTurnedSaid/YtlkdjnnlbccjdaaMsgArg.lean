/-
  ARGUMENTS: a message that came in.
-/
import Derived.Test.YtlkdjnnlbccjdaaMgS
import Derived.Test.YtlkdjnnlbccjdaaLogArg
namespace Go.Proofs.Ytlkdjnnlbccjdaa
open Go.RowKit Go.WideShapes Go.ChangeShapes
namespace Hd
open PM
set_option linter.unusedVariables false
section
variable {H : Type} {enc : TypeId × Value → H} {P : Program} {w : World} {spare : Nat → Bool} {held : Bool}
theorem trod_struct4 {t : TypeId} {f0 f1 f2 f3 : Field} {n : Nat} {cs : List Value} {x : DataW H × List MemPlace} (ht : P.underlying t = some (.struct #[f0, f1, f2, f3])) (hx : DataW.trod enc P w 0 spare held n t cs = some x) :
    cs.length = P.cellsOf t ∧ ∃ y0 y1 y2 y3 m, x.1 = .agg [y0.1, y1.1, y2.1, y3.1] ∧ DataW.trod enc P w 0 spare held m f0.type ((cs.drop f0.offset).take (P.cellsOf f0.type)) = some y0 ∧ DataW.trod enc P w 0 spare held m f1.type ((cs.drop f1.offset).take (P.cellsOf f1.type)) = some y1 ∧
      DataW.trod enc P w 0 spare held m f2.type ((cs.drop f2.offset).take (P.cellsOf f2.type)) = some y2 ∧ DataW.trod enc P w 0 spare held m f3.type ((cs.drop f3.offset).take (P.cellsOf f3.type)) = some y3 := by
  obtain ⟨xs, m, -, hd, hl, hlen, hf⟩ := DataW.trod_struct ht hx
  match xs, hlen with
  | [y0, y1, y2, y3], _ =>
    exact ⟨hl, y0, y1, y2, y3, m, by rw [hd]; rfl, hf 0 _ rfl, hf 1 _ rfl, hf 2 _ rfl, hf 3 _ rfl⟩
theorem trod_struct8 {t : TypeId} {f0 f1 f2 f3 f4 f5 f6 f7 : Field} {n : Nat} {cs : List Value} {x : DataW H × List MemPlace} (ht : P.underlying t = some (.struct #[f0, f1, f2, f3, f4, f5, f6, f7])) (hx : DataW.trod enc P w 0 spare held n t cs = some x) :
    cs.length = P.cellsOf t ∧ ∃ y0 y1 y2 y3 y4 y5 y6 y7 m, x.1 = .agg [y0.1, y1.1, y2.1, y3.1, y4.1, y5.1, y6.1, y7.1] ∧ DataW.trod enc P w 0 spare held m f0.type ((cs.drop f0.offset).take (P.cellsOf f0.type)) = some y0 ∧ DataW.trod enc P w 0 spare held m f1.type ((cs.drop f1.offset).take (P.cellsOf f1.type)) = some y1 ∧
      DataW.trod enc P w 0 spare held m f2.type ((cs.drop f2.offset).take (P.cellsOf f2.type)) = some y2 ∧ DataW.trod enc P w 0 spare held m f3.type ((cs.drop f3.offset).take (P.cellsOf f3.type)) = some y3 ∧ DataW.trod enc P w 0 spare held m f4.type ((cs.drop f4.offset).take (P.cellsOf f4.type)) = some y4 ∧
      DataW.trod enc P w 0 spare held m f5.type ((cs.drop f5.offset).take (P.cellsOf f5.type)) = some y5 ∧ DataW.trod enc P w 0 spare held m f6.type ((cs.drop f6.offset).take (P.cellsOf f6.type)) = some y6 ∧ DataW.trod enc P w 0 spare held m f7.type ((cs.drop f7.offset).take (P.cellsOf f7.type)) = some y7 := by
  obtain ⟨xs, m, -, hd, hl, hlen, hf⟩ := DataW.trod_struct ht hx
  match xs, hlen with
  | [y0, y1, y2, y3, y4, y5, y6, y7], _ =>
    exact ⟨hl, y0, y1, y2, y3, y4, y5, y6, y7, m, by rw [hd]; rfl, hf 0 _ rfl, hf 1 _ rfl, hf 2 _ rfl, hf 3 _ rfl, hf 4 _ rfl, hf 5 _ rfl, hf 6 _ rfl, hf 7 _ rfl⟩
end
set_option maxRecDepth 100000 in
theorem snap_trod {H : Type} {enc : TypeId × Value → H} {w : World} {cs : List Value} {y : DataW H × List MemPlace} {n : Nat} (hf : DataW.trod enc Try.prog w 0 (fun _ => true) true n 27 cs = some y) (hw : ∀ n ∈ y.1.weights Try.prog 27, n ≤ reachBytes) :
    ∃ (s : Sn) (u : Value), cs = [.int .u64 (s.i : Nat), .int .u64 (s.t : Nat), u, .string s.d] ∧ s.i < 2 ^ 64 ∧ s.t < 2 ^ 64 ∧ Lo.IntsR w 0 w.heap.size u s.ks := by
  have hu := Try.underlying27
  obtain ⟨hl, y0, y1, y2, y3, m, hd, t0, t1, t2, t3⟩ := trod_struct4 hu hf
  have hl : cs.length = 4 := hl
  match cs, hl with
  | [c0, c1, c2, c3], _ =>
    have t0 : DataW.trod enc Try.prog w 0 (fun _ => true) true m 23 [c0] = some y0 := t0
    have t1 : DataW.trod enc Try.prog w 0 (fun _ => true) true m 23 [c1] = some y1 := t1
    have t2 : DataW.trod enc Try.prog w 0 (fun _ => true) true m 25 [c2] = some y2 := t2
    have t3 : DataW.trod enc Try.prog w 0 (fun _ => true) true m 9 [c3] = some y3 := t3
    obtain ⟨s0, e0, -, z0⟩ := DataW.trod_int Try.underlying23 t0
    obtain ⟨s1, e1, -, z1⟩ := DataW.trod_int Try.underlying23 t1
    obtain ⟨s3, e3, -, z3⟩ := DataW.trod_string Try.underlying9 t3
    have hw2 : ∀ n ∈ y2.1.weights Try.prog 25, n ≤ reachBytes := by
      intro n hn
      refine hw n ?_
      rw [hd]
      simp only [DataW.weights, hu, DataW.weightsEach, List.map_cons, List.map_nil, List.mem_append]
      first | exact .inr (.inr (.inl hn)) | (simp; exact .inr (.inr (.inl hn))) | (simp; exact .inl hn) | (simp; exact .inr hn)
    obtain ⟨u, ks, e2, hI⟩ := Lo.ints_trod Try.underlying25 Try.underlying3 rfl t2 rfl hw2
    have hx0 : 0 ≤ s0 ∧ s0 ≤ 18446744073709551615 := by simpa [Lit.wf, IntKind.min, IntKind.max, IntKind.signed, IntKind.bits] using z0
    have hx1 : 0 ≤ s1 ∧ s1 ≤ 18446744073709551615 := by simpa [Lit.wf, IntKind.min, IntKind.max, IntKind.signed, IntKind.bits] using z1
    obtain ⟨i, rfl⟩ := Int.eq_ofNat_of_zero_le hx0.1
    obtain ⟨t, rfl⟩ := Int.eq_ofNat_of_zero_le hx1.1
    cases e0
    cases e1
    cases e2
    cases e3
    exact ⟨⟨i, t, ks, s3⟩, _, rfl, by show i < _; omega, by show t < _; omega, hI⟩
/-- A message that came in: where its entries lie, their capacity, its snapshot's members. -/
structure MsgA (w : World) (v : Value) (x : Mg × Option Addr × Nat × Value) : Prop where
  is : v = mgV x.1 x.2.1 x.2.2.1 x.2.2.2
  sl : Lo.Sl w 0 w.heap.size x.2.1 x.2.2.1 x.1.l
  iv : Lo.IntsR w 0 w.heap.size x.2.2.2 x.1.s.ks
  lt : Lts x.1
theorem lts_sl {w : World} {A B : Nat} {a : Option Addr} {c : Nat} {l : List Lo.En} (h : Lo.Sl w A B a c l) : ∀ e ∈ l, e.i < 2 ^ 64 ∧ e.t < 2 ^ 64 := by
  intro e he
  obtain ⟨j, hj, rfl⟩ := List.getElem_of_mem he
  obtain ⟨b, off, -, -, -, uu, hcc⟩ := h.at j hj
  exact ⟨hcc.i64, hcc.t64⟩
set_option maxRecDepth 100000 in
set_option maxHeartbeats 1000000 in
theorem msg_of {H : Type} {enc : TypeId × Value → H} {w : World} {v : Value} {d : DataW H} {ps : List MemPlace} {base : Nat}
    (ho : Value.okWide Try.prog w .any base 29 v) (hk : DataW.Trod enc Try.prog w 0 (fun _ => true) true 29 v d ps) (hw : ∀ n ∈ d.weights Try.prog 29, n ≤ reachBytes) :
    ∃ x, MsgA w v x := by
  obtain ⟨cs, rfl, hcs⟩ := okWide_struct Try.underlying29 ho
  obtain ⟨fuel, hf⟩ := hk
  have hu := Try.underlying29
  obtain ⟨-, y0, y1, y2, y3, y4, y5, y6, y7, m, hd, t0, t1, t2, t3, t4, t5, t6, t7⟩ := trod_struct8 hu hf
  have hd : d = .agg [y0.1, y1.1, y2.1, y3.1, y4.1, y5.1, y6.1, y7.1] := hd
  subst hd
  rcases cs with ⟨l⟩
  have hl2 : l.length = 11 := hcs
  match l, hl2 with
  | [c0, c1, c2, c3, c4, c5, c6, c7, c8, c9, c10], _ =>
    have t0 : DataW.trod enc Try.prog w 0 (fun _ => true) true m 22 [c0] = some y0 := t0
    have t1 : DataW.trod enc Try.prog w 0 (fun _ => true) true m 23 [c1] = some y1 := t1
    have t2 : DataW.trod enc Try.prog w 0 (fun _ => true) true m 23 [c2] = some y2 := t2
    have t3 : DataW.trod enc Try.prog w 0 (fun _ => true) true m 23 [c3] = some y3 := t3
    have t4 : DataW.trod enc Try.prog w 0 (fun _ => true) true m 23 [c4] = some y4 := t4
    have t5 : DataW.trod enc Try.prog w 0 (fun _ => true) true m 4 [c5] = some y5 := t5
    have t6 : DataW.trod enc Try.prog w 0 (fun _ => true) true m 24 [c6] = some y6 := t6
    have t7 : DataW.trod enc Try.prog w 0 (fun _ => true) true m 27 [c7, c8, c9, c10] = some y7 := t7
    obtain ⟨s0, e0, -, z0⟩ := DataW.trod_int Try.underlying22 t0
    obtain ⟨s1, e1, -, z1⟩ := DataW.trod_int Try.underlying23 t1
    obtain ⟨s2, e2, -, z2⟩ := DataW.trod_int Try.underlying23 t2
    obtain ⟨s3, e3, -, z3⟩ := DataW.trod_int Try.underlying23 t3
    obtain ⟨s4, e4, -, z4⟩ := DataW.trod_int Try.underlying23 t4
    obtain ⟨s5, e5, -⟩ := DataW.trod_bool Try.underlying4 t5
    have hw6 : ∀ n ∈ y6.1.weights Try.prog 24, n ≤ reachBytes := by
      intro n hn
      refine hw n ?_
      simp only [DataW.weights, hu, DataW.weightsEach, List.map_cons, List.map_nil, List.mem_append]
      simp only [hn, true_or, or_true]
    have hw7 : ∀ n ∈ y7.1.weights Try.prog 27, n ≤ reachBytes := by
      intro n hn
      refine hw n ?_
      simp only [DataW.weights, hu, DataW.weightsEach, List.map_cons, List.map_nil, List.mem_append]
      simp only [hn, true_or, or_true]
    obtain ⟨a, c, l, e6, hS, -⟩ := Lo.ents_trod t6 hw6
    obtain ⟨s, u, e7, q1, q2, hI⟩ := snap_trod t7 hw7
    have hx0 : 0 ≤ s0 ∧ s0 ≤ 255 := by simpa [Lit.wf, IntKind.min, IntKind.max, IntKind.signed, IntKind.bits] using z0
    have hx1 : 0 ≤ s1 ∧ s1 ≤ 18446744073709551615 := by simpa [Lit.wf, IntKind.min, IntKind.max, IntKind.signed, IntKind.bits] using z1
    have hx2 : 0 ≤ s2 ∧ s2 ≤ 18446744073709551615 := by simpa [Lit.wf, IntKind.min, IntKind.max, IntKind.signed, IntKind.bits] using z2
    have hx3 : 0 ≤ s3 ∧ s3 ≤ 18446744073709551615 := by simpa [Lit.wf, IntKind.min, IntKind.max, IntKind.signed, IntKind.bits] using z3
    have hx4 : 0 ≤ s4 ∧ s4 ≤ 18446744073709551615 := by simpa [Lit.wf, IntKind.min, IntKind.max, IntKind.signed, IntKind.bits] using z4
    obtain ⟨k, rfl⟩ := Int.eq_ofNat_of_zero_le hx0.1
    obtain ⟨t, rfl⟩ := Int.eq_ofNat_of_zero_le hx1.1
    obtain ⟨x, rfl⟩ := Int.eq_ofNat_of_zero_le hx2.1
    obtain ⟨uu, rfl⟩ := Int.eq_ofNat_of_zero_le hx3.1
    obtain ⟨cc, rfl⟩ := Int.eq_ofNat_of_zero_le hx4.1
    cases e0
    cases e1
    cases e2
    cases e3
    cases e4
    cases e5
    cases e6
    cases e7
    exact ⟨(⟨k, t, x, uu, cc, s5, l, s⟩, a, c, _), rfl, hS, hI, by show k < _; omega, by show t < _; omega, by show x < _; omega, by show uu < _; omega, by show cc < _; omega, q1, q2, lts_sl hS⟩
end Hd
end Go.Proofs.Ytlkdjnnlbccjdaa
