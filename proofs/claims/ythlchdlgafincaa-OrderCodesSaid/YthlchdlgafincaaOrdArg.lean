/-
  ARGUMENTS: commands that came in.
-/
import Derived.Test.YthlchdlgafincaaOrdForm
import Derived.Test.YthlchdlgafincaaRgA
import Derived.OpenShut
namespace Go.Proofs.Ythlchdlgafincaa
open Go.RowKit Go.WideShapes Go.ChangeShapes
namespace Hd
open PM Hc
/-- A command that came in. -/
def CmdArg (w : World) (v : Value) (C : Cd) : Prop := ∃ v2 v3 v4 v5, v = .agg (cdC C v2 v3 v4 v5).toArray ∧ PrsIn w w.heap.size C v2 v3 v4 v5 ∧ Lens C ∧ Bnd C
section
variable {H : Type} {enc : TypeId × Value → H} {w : World} {spare : Nat → Bool} {held : Bool}
theorem bounds_u64' {i : Int} (h : (Lit.int .u64 i).wf = true) : ∃ n : Nat, i = (n : Nat) ∧ n < 2 ^ 64 := by
  have := bounds_u64 h
  exact ⟨i.toNat, by omega, by omega⟩
theorem bounds_u8' {i : Int} (h : (Lit.int .u8 i).wf = true) : ∃ n : Nat, i = (n : Nat) ∧ n < 256 := by
  have := bounds_u8 h
  exact ⟨i.toNat, by omega, by omega⟩
set_option maxRecDepth 100000 in
set_option maxHeartbeats 1000000 in
theorem order_cs {n : Nat} {cs : List Value} {y : DataW H × List MemPlace} (h : DataW.trod enc Try.prog w 0 spare held n 31 cs = some y) (hw : ∀ n ∈ y.1.weights Try.prog 31, n ≤ reachBytes) :
    ∃ (C : Cd) (v2 v3 v4 v5 : Value), C.cl = 0 ∧ C.sq = 0 ∧ cs = (cdC C v2 v3 v4 v5).drop 2 ∧ PrsIn w w.heap.size C v2 v3 v4 v5 ∧ Lens C ∧ C.k < 256 ∧ C.fe < 2 ^ 64 := by
  have hu := Try.underlying31
  obtain ⟨xs, m, -, rfl, hl, hlen, hf⟩ := DataW.trod_struct hu h
  match xs, hlen with
  | [y0, y1, y2, y3, y4, y5], _ =>
    have hl2 : cs.length = 19 := hl
    match cs, hl2 with
    | [c0, c1, c2, c3, c4, c5, c6, c7, c8, c9, c10, c11, c12, c13, c14, c15, c16, c17, c18], _ =>
      have t0 : DataW.trod enc Try.prog w 0 spare held m 23 [c0] = some y0 := hf 0 _ rfl
      have t1 : DataW.trod enc Try.prog w 0 spare held m 27 [c1, c2, c3, c4, c5, c6] = some y1 := hf 1 _ rfl
      have t2 : DataW.trod enc Try.prog w 0 spare held m 29 [c7, c8, c9, c10, c11, c12, c13, c14, c15] = some y2 := hf 2 _ rfl
      have t3 : DataW.trod enc Try.prog w 0 spare held m 9 [c16] = some y3 := hf 3 _ rfl
      have t4 : DataW.trod enc Try.prog w 0 spare held m 9 [c17] = some y4 := hf 4 _ rfl
      have t5 : DataW.trod enc Try.prog w 0 spare held m 22 [c18] = some y5 := hf 5 _ rfl
      have w1 : ∀ n ∈ y1.1.weights Try.prog 27, n ≤ reachBytes := fun n hn => hw n (by simp only [DataW.weights, hu, DataW.weightsEach, List.map_cons, List.map_nil, List.mem_append]; exact .inr (.inl hn))
      have w2 : ∀ n ∈ y2.1.weights Try.prog 29, n ≤ reachBytes := fun n hn => hw n (by simp only [DataW.weights, hu, DataW.weightsEach, List.map_cons, List.map_nil, List.mem_append]; exact .inr (.inr (.inl hn)))
      obtain ⟨z0, e0, -, b0⟩ := DataW.trod_int Try.underlying23 t0
      obtain ⟨xn, x0, x1, x2, xla, xlc, xta, xtc, ls, ts, e1, s1, -, p2, p3, -, -⟩ := Rg.node_cs t1 w1
      obtain ⟨tn, tg, ta, u0, u1, u2, ur, xwa, xwc, xba, xbc, ws, bs, e2, ⟨s2, s3, s4⟩, -, p4, p5, -, -⟩ := Rg.task_cs t2 w2
      obtain ⟨s5, e3, e3', q5⟩ := DataW.trod_string Try.underlying9 t3
      obtain ⟨s6, e4, e4', q6⟩ := DataW.trod_string Try.underlying9 t4
      obtain ⟨z5, e5, -, b5⟩ := DataW.trod_int Try.underlying22 t5
      obtain ⟨k, ek, hk⟩ := bounds_u8' b0
      obtain ⟨fe, ef, hfe⟩ := bounds_u64' b5
      subst ek
      subst ef
      cases e0
      cases e1
      cases e2
      cases e3
      cases e4
      cases e5
      exact ⟨⟨0, 0, k, ⟨xn, x0, x1, x2, ls, ts⟩, ⟨tn, u0, u1, u2, ws, bs, tg, ta, ur⟩, s5, s6, fe⟩, _, _, _, _, rfl, rfl, rfl, ⟨p2, p3, p4, p5⟩, ⟨s1, s2, s3, s4, q5, q6⟩, hk, hfe⟩
set_option maxRecDepth 100000 in
set_option maxHeartbeats 1000000 in
theorem cmd_cs {n : Nat} {cs : List Value} {y : DataW H × List MemPlace} (h : DataW.trod enc Try.prog w 0 spare held n 33 cs = some y) (hw : ∀ n ∈ y.1.weights Try.prog 33, n ≤ reachBytes) :
    ∃ (C : Cd) (v2 v3 v4 v5 : Value), cs = cdC C v2 v3 v4 v5 ∧ PrsIn w w.heap.size C v2 v3 v4 v5 ∧ Lens C ∧ Bnd C := by
  have hu := Try.underlying33
  obtain ⟨xs, m, -, rfl, hl, hlen, hf⟩ := DataW.trod_struct hu h
  match xs, hlen with
  | [y0, y1, y2], _ =>
    have hl2 : cs.length = 21 := hl
    match cs, hl2 with
    | c0 :: c1 :: r, hr =>
      have hr2 : r.length = 19 := by simpa using hr
      have t0 : DataW.trod enc Try.prog w 0 spare held m 22 [c0] = some y0 := hf 0 _ rfl
      have t1 : DataW.trod enc Try.prog w 0 spare held m 22 [c1] = some y1 := hf 1 _ rfl
      have t2 : DataW.trod enc Try.prog w 0 spare held m 31 r = some y2 := by
        have := hf 2 _ rfl
        rw [show r = r.take 19 from (List.take_of_length_le (by omega)).symm]
        exact this
      have w2 : ∀ n ∈ y2.1.weights Try.prog 31, n ≤ reachBytes := fun n hn => hw n (by simp only [DataW.weights, hu, DataW.weightsEach, List.map_cons, List.map_nil, List.mem_append]; exact .inr (.inr (.inl hn)))
      obtain ⟨z0, e0, -, b0⟩ := DataW.trod_int Try.underlying22 t0
      obtain ⟨z1, e1, -, b1⟩ := DataW.trod_int Try.underlying22 t1
      obtain ⟨C, v2, v3, v4, v5, -, -, e2, hp, hls, hk, hfe⟩ := order_cs t2 w2
      obtain ⟨cl, ecl, hcl⟩ := bounds_u64' b0
      obtain ⟨sq, esq, hsq⟩ := bounds_u64' b1
      subst ecl
      subst esq
      cases e0
      cases e1
      refine ⟨{ C with cl := cl, sq := sq }, v2, v3, v4, v5, ?_, ⟨hp.h2, hp.h3, hp.h4, hp.h5⟩, ⟨hls.nn, hls.tn, hls.tg, hls.ta, hls.na, hls.on⟩, ⟨hcl, hsq, hk, hfe⟩⟩
      rw [e2]
      rfl
end
section
variable {H : Type} {enc : TypeId × Value → H} {w : World} {v : Value} {d : DataW H} {ps : List MemPlace} {base : Nat}
set_option maxRecDepth 100000 in
theorem cmd_of (ho : Value.okWide Try.prog w .any base 33 v) (hk : DataW.Trod enc Try.prog w 0 (fun _ => true) true 33 v d ps) (hw : ∀ n ∈ d.weights Try.prog 33, n ≤ reachBytes) :
    ∃ C, CmdArg w v C := by
  obtain ⟨cs, rfl, hcs⟩ := okWide_struct Try.underlying33 ho
  obtain ⟨fuel, hf⟩ := hk
  obtain ⟨C, v2, v3, v4, v5, e, hp, hl, hb⟩ := cmd_cs hf hw
  refine ⟨C, v2, v3, v4, v5, ?_, hp, hl, hb⟩
  rcases cs with ⟨l⟩
  simp [Value.cells] at e
  rw [e]
end
end Hd
end Go.Proofs.Ythlchdlgafincaa
