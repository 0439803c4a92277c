/-
  ARGUMENTS: pairs, nodes, tasks, arrays of three, slices of tasks that came in.
-/
import Derived.Test.YtgdnpjmicdiclaaRigName
import Derived.ProofKit
import Derived.SliceStrings
import Derived.SizedLaws
import Derived.Deep.Strs
import Derived.OpenShut
import Derived.Laws.IdiomArrays
namespace Go.Proofs.Ytgdnpjmicdiclaa
open Go.RowKit Go.WideShapes Go.ChangeShapes
namespace Rg
structure Pr where
  k : ByteArray
  v : ByteArray
/-- v is a slice of the pairs ps, in memory below block B. -/
def Pairs (w : World) (B : Nat) (v : Value) (ps : List Pr) : Prop :=
  ∃ a c, v = .slice a ps.length c ∧ ps.length ≤ 4611686018427387904 ∧ (∀ p ∈ ps, p.k.size ≤ maxLen ∧ p.v.size ≤ maxLen) ∧
    (0 < ps.length → ∃ b off, a = some ⟨b, off, none⟩ ∧ b < B ∧ ∀ i (h : i < ps.length),
      w.cell? ⟨b, off + i * 2, none⟩ = some (.string ps[i].k) ∧ w.cell? ⟨b, off + i * 2 + 1, none⟩ = some (.string ps[i].v))
set_option maxRecDepth 100000 in
theorem Pairs.keep {w w' : World} {B : Nat} {v : Value} {ps : List Pr} (h : Pairs w B v ps) (hb : Below B w w') : Pairs w' B v ps := by
  obtain ⟨a, c, rfl, h1, h2, h3⟩ := h
  refine ⟨a, c, rfl, h1, h2, fun hp => ?_⟩
  obtain ⟨b, off, rfl, hlt, hc⟩ := h3 hp
  exact ⟨b, off, rfl, hlt, fun i hi => ⟨(hb.cell (by exact hlt)).trans (hc i hi).1, (hb.cell (by exact hlt)).trans (hc i hi).2⟩⟩
set_option maxRecDepth 100000 in
theorem Pairs.more {w : World} {B B' : Nat} {v : Value} {ps : List Pr} (h : Pairs w B v ps) (hb : B ≤ B') : Pairs w B' v ps := by
  obtain ⟨a, c, rfl, h1, h2, h3⟩ := h
  refine ⟨a, c, rfl, h1, h2, fun hp => ?_⟩
  obtain ⟨b, off, rfl, hlt, hc⟩ := h3 hp
  exact ⟨b, off, rfl, by omega, hc⟩
set_option maxRecDepth 100000 in
theorem Pairs.none_ (w : World) (B : Nat) : Pairs w B (.slice none 0 0) [] := ⟨none, 0, rfl, by simp, by simp, by simp⟩

set_option maxRecDepth 100000 in
theorem spot_none (w : World) (a : Addr) (v : Value) (h : w.cell? a = some v) : a.spot = none := by
  unfold World.cell? at h
  split at h
  · cases hs : a.spot with
    | none => rfl
    | some q => rw [hs] at h; simp at h
  · cases h
set_option maxRecDepth 100000 in
theorem add_form (a : Addr) (i : Nat) (h : a.spot = none) : a.add i = ⟨a.block, a.off + i, none⟩ := by
  cases a with
  | mk b o s => subst h; rw [Addr.add_lit]
set_option maxRecDepth 100000 in
theorem block_add0 (a : Addr) : a.add 0 = a := by unfold Addr.add; split <;> simp_all
set_option maxRecDepth 100000 in
theorem list_of {α : Type} (R : Nat → α → Prop) : ∀ n, (∀ i, i < n → ∃ f, R i f) → ∃ l : List α, l.length = n ∧ ∀ i (h : i < l.length), R i l[i]
  | 0, _ => ⟨[], rfl, fun i h => absurd h (Nat.not_lt_zero _)⟩
  | n + 1, h => by
    obtain ⟨l, hl, hr⟩ := list_of R n (fun i hi => h i (by omega))
    obtain ⟨f, hf⟩ := h n (by omega)
    refine ⟨l ++ [f], by simp [hl], fun i hi => ?_⟩
    by_cases hin : i < l.length
    · rw [List.getElem_append_left hin]; exact hr i hin
    · have : i = n := by simp at hi; omega
      subst this
      rw [List.getElem_append_right (by omega)]
      simpa [hl] using hf
set_option maxRecDepth 100000 in
theorem reach_max {n : Nat} (h : n ≤ reachBytes) : n ≤ maxLen := by simp only [reachBytes] at h; simp only [maxLen]; omega

section
variable {H : Type} {enc : TypeId × Value → H} {w : World} {spare : Nat → Bool} {held : Bool}
set_option maxRecDepth 100000 in
theorem all_mem {P : Program} {e : TypeId} {y : DataW H} : ∀ {l : List (DataW H)}, y ∈ l → ∀ n ∈ y.weights P e, n ∈ DataW.weightsAll P e l
  | [], h, _, _ => absurd h List.not_mem_nil
  | d :: r, h, n, hn => by
    unfold DataW.weightsAll
    rcases List.mem_cons.1 h with rfl | h
    · exact List.mem_append_left _ hn
    · exact List.mem_append_right _ (all_mem h n hn)
set_option maxRecDepth 100000 in
theorem slice_len {P : Program} {t e : TypeId} {a b : List (DataW H)} (ht : P.underlying t = some (.slice e)) (hw : ∀ n ∈ (DataW.slice a b).weights P t, n ≤ reachBytes) : a.length * P.bytesOf e ≤ reachBytes := by
  have := hw ((a.length + b.length) * P.bytesOf e) (by simp [DataW.weights, ht])
  exact Nat.le_trans (Nat.mul_le_mul_right _ (by omega)) this

set_option maxRecDepth 100000 in
theorem pair_cs {n : Nat} {cs : List Value} {y : DataW H × List MemPlace} (h : DataW.trod enc Try.prog w 0 spare held n 53 cs = some y) (hw : ∀ n ∈ y.1.weights Try.prog 53, n ≤ reachBytes) :
    ∃ p : Pr, cs = [.string p.k, .string p.v] ∧ p.k.size ≤ maxLen ∧ p.v.size ≤ maxLen := by
  have hu := Try.underlying53
  obtain ⟨xs, m, -, rfl, hl, hlen, hf⟩ := DataW.trod_struct hu h
  match xs, hlen with
  | [y0, y1], _ =>
    have hl2 : cs.length = 2 := hl
    match cs, hl2 with
    | [c0, c1], _ =>
      have t0 : DataW.trod enc Try.prog w 0 spare held m 9 [c0] = some y0 := hf 0 _ rfl
      have t1 : DataW.trod enc Try.prog w 0 spare held m 9 [c1] = some y1 := hf 1 _ rfl
      obtain ⟨s0, e0, e0', z0⟩ := DataW.trod_string Try.underlying9 t0
      obtain ⟨s1, e1, e1', z1⟩ := DataW.trod_string Try.underlying9 t1
      cases e0
      cases e1
      exact ⟨⟨s0, s1⟩, rfl, z0, z1⟩
set_option maxRecDepth 100000 in
theorem pairs_cs {n : Nat} {cs : List Value} {y : DataW H × List MemPlace} (h : DataW.trod enc Try.prog w 0 spare held n 24 cs = some y) (hw : ∀ n ∈ y.1.weights Try.prog 24, n ≤ reachBytes) :
    ∃ a c ps, cs = [.slice a ps.length c] ∧ Pairs w w.heap.size (.slice a ps.length c) ps ∧ (ps.length * 32 ≤ reachBytes ∧ ps.length ≤ c ∧ c ≤ maxLen) := by
  have ht := Try.underlying24
  rcases DataW.trod_slice ht h with ⟨rfl, -⟩ | ⟨a, len, cap, elems, rest, m, -, rfl, rfl, hb, hl, hm, hlen, hel, -, -⟩
  · exact ⟨none, 0, [], rfl, Pairs.none_ _ _, by simp, by simp, by simp⟩
  · have hln := slice_len ht hw
    rw [show Try.prog.bytesOf 53 = 32 from rfl, List.length_map, hlen] at hln
    have hwe : ∀ y ∈ elems, ∀ n ∈ y.1.weights Try.prog 53, n ≤ reachBytes := by
      intro y hy n hn
      refine hw n ?_
      have := all_mem (List.mem_map_of_mem (f := (·.1)) hy) n hn
      simp only [DataW.weights, ht, List.mem_cons, List.mem_append]
      exact .inr (.inl this)
    have each : ∀ i, i < len → ∃ p : Pr, (w.cell? (a.add (i * 2)) = some (.string p.k) ∧ w.cell? ((a.add (i * 2)).add 1) = some (.string p.v)) ∧ p.k.size ≤ maxLen ∧ p.v.size ≤ maxLen := by
      intro i hi
      have hy := hel i hi
      rw [List.getElem?_eq_getElem (by omega : i < elems.length), show Try.prog.cellsOf 53 = 2 from rfl, Option.bind_eq_some_iff] at hy
      obtain ⟨cs', hcs, hy'⟩ := hy
      obtain ⟨p, rfl, z0, z1⟩ := pair_cs hy' (hwe _ (List.getElem_mem _))
      obtain ⟨-, -, hcell⟩ := World.cells?_some hcs
      refine ⟨p, ⟨?_, ?_⟩, z0, z1⟩
      · have := hcell 0 (by omega)
        rw [block_add0] at this
        exact this
      · exact hcell 1 (by omega)
    obtain ⟨ps, hfl, hfs⟩ := list_of _ len each
    refine ⟨some a, cap, ps, by rw [hfl], ⟨some a, cap, rfl, by rw [hfl]; simp only [reachBytes] at hln; omega, fun p hp => ?_, fun hp => ?_⟩, by rw [hfl]; exact hln, by rw [hfl]; exact hl, hm⟩
    · obtain ⟨i, hi, rfl⟩ := List.getElem_of_mem hp
      exact (hfs i hi).2
    · have hz := (hfs 0 hp).1.1
      have hx := World.block_lt_of_cell? w _ hz
      have hsp : a.spot = none := by
        have := spot_none w _ _ hz
        simpa [Addr.add] using this
      refine ⟨a.block, a.off, by cases a; simp_all, by simpa [Addr.add] using hx, fun i hi => ?_⟩
      obtain ⟨k0, k1⟩ := (hfs i hi).1
      rw [add_form a _ hsp] at k0 k1
      exact ⟨k0, k1⟩
set_option maxRecDepth 100000 in
/-- An array of three numbers. -/
theorem arr_cs {n : Nat} {cs : List Value} {y : DataW H × List MemPlace} (hl : cs.length = 3) (h : DataW.trod enc Try.prog w 0 spare held n 23 cs = some y) :
    ∃ z0 z1 z2 : Int, cs = [.int .i64 z0, .int .i64 z1, .int .i64 z2] ∧ (-9223372036854775808 ≤ z0 ∧ z0 ≤ 9223372036854775807) ∧ (-9223372036854775808 ≤ z1 ∧ z1 ≤ 9223372036854775807) ∧ (-9223372036854775808 ≤ z2 ∧ z2 ≤ 9223372036854775807) := by
  match cs, hl with
  | [c0, c1, c2], _ =>
    obtain ⟨y0, y1, y2, m, -, t0, t1, t2⟩ := trod_array3 Try.underlying23 rfl h
    obtain ⟨z0, e0, -, b0⟩ := DataW.trod_int Try.underlying2 t0
    obtain ⟨z1, e1, -, b1⟩ := DataW.trod_int Try.underlying2 t1
    obtain ⟨z2, e2, -, b2⟩ := DataW.trod_int Try.underlying2 t2
    cases e0
    cases e1
    cases e2
    exact ⟨z0, z1, z2, rfl, bounds_i64 b0, bounds_i64 b1, bounds_i64 b2⟩
/-- What is known of a number. -/
def In64 (z : Int) : Prop := -9223372036854775808 ≤ z ∧ z ≤ 9223372036854775807
set_option maxRecDepth 100000 in
theorem task_cs {n : Nat} {cs : List Value} {y : DataW H × List MemPlace} (h : DataW.trod enc Try.prog w 0 spare held n 26 cs = some y) (hw : ∀ n ∈ y.1.weights Try.prog 26, n ≤ reachBytes) :
    ∃ xn xg xa x0 x1 x2 xr xwa xwc xba xbc ws bs, cs = [.string xn, .int .i64 x0, .int .i64 x1, .int .i64 x2, .slice xwa ws.length xwc, .slice xba bs.length xbc, .string xg, .string xa, .int .i64 xr] ∧
      (xn.size ≤ maxLen ∧ xg.size ≤ maxLen ∧ xa.size ≤ maxLen) ∧ (In64 x0 ∧ In64 x1 ∧ In64 x2 ∧ In64 xr) ∧
      Pairs w w.heap.size (.slice xwa ws.length xwc) ws ∧ Pairs w w.heap.size (.slice xba bs.length xbc) bs ∧ (ws.length * 32 ≤ reachBytes ∧ ws.length ≤ xwc ∧ xwc ≤ maxLen) ∧ (bs.length * 32 ≤ reachBytes ∧ bs.length ≤ xbc ∧ xbc ≤ maxLen) := by
  have hu := Try.underlying26
  obtain ⟨xs, m, -, rfl, hl, hlen, hf⟩ := DataW.trod_struct hu h
  match xs, hlen with
  | [y0, y1, y2, y3, y4, y5, y6], _ =>
    have hl2 : cs.length = 9 := hl
    match cs, hl2 with
    | [c0, c1, c2, c3, c4, c5, c6, c7, c8], _ =>
      have t0 : DataW.trod enc Try.prog w 0 spare held m 9 [c0] = some y0 := hf 0 _ rfl
      have t1 : DataW.trod enc Try.prog w 0 spare held m 23 [c1, c2, c3] = some y1 := hf 1 _ rfl
      have t2 : DataW.trod enc Try.prog w 0 spare held m 24 [c4] = some y2 := hf 2 _ rfl
      have t3 : DataW.trod enc Try.prog w 0 spare held m 24 [c5] = some y3 := hf 3 _ rfl
      have t4 : DataW.trod enc Try.prog w 0 spare held m 9 [c6] = some y4 := hf 4 _ rfl
      have t5 : DataW.trod enc Try.prog w 0 spare held m 9 [c7] = some y5 := hf 5 _ rfl
      have t6 : DataW.trod enc Try.prog w 0 spare held m 3 [c8] = some y6 := hf 6 _ rfl
      have w2 : ∀ n ∈ y2.1.weights Try.prog 24, n ≤ reachBytes := fun n hn => hw n (by simp only [DataW.weights, hu, DataW.weightsEach, List.map_cons, List.map_nil, List.mem_append]; exact .inr (.inr (.inl hn)))
      have w3 : ∀ n ∈ y3.1.weights Try.prog 24, n ≤ reachBytes := fun n hn => hw n (by simp only [DataW.weights, hu, DataW.weightsEach, List.map_cons, List.map_nil, List.mem_append]; exact .inr (.inr (.inr (.inl hn))))
      obtain ⟨s0, e0, e0', z0⟩ := DataW.trod_string Try.underlying9 t0
      obtain ⟨x0, x1, x2, e1, b0, b1, b2⟩ := arr_cs rfl t1
      obtain ⟨a2, k2, ws, e2, p2, l2⟩ := pairs_cs t2 w2
      obtain ⟨a3, k3, bs, e3, p3, l3⟩ := pairs_cs t3 w3
      obtain ⟨s4, e4, e4', z4⟩ := DataW.trod_string Try.underlying9 t4
      obtain ⟨s5, e5, e5', z5⟩ := DataW.trod_string Try.underlying9 t5
      obtain ⟨z6, e6, e6', b6⟩ := DataW.trod_int Try.underlying3 t6
      cases e0
      cases e1
      cases e2
      cases e3
      cases e4
      cases e5
      cases e6
      exact ⟨s0, s4, s5, x0, x1, x2, z6, a2, k2, a3, k3, ws, bs, rfl, ⟨z0, z4, z5⟩, ⟨b0, b1, b2, bounds_i64 b6⟩, p2, p3, l2, l3⟩
set_option maxRecDepth 100000 in
theorem node_cs {n : Nat} {cs : List Value} {y : DataW H × List MemPlace} (h : DataW.trod enc Try.prog w 0 spare held n 33 cs = some y) (hw : ∀ n ∈ y.1.weights Try.prog 33, n ≤ reachBytes) :
    ∃ xn x0 x1 x2 xla xlc xta xtc ls ts, cs = [.string xn, .int .i64 x0, .int .i64 x1, .int .i64 x2, .slice xla ls.length xlc, .slice xta ts.length xtc] ∧
      xn.size ≤ maxLen ∧ (In64 x0 ∧ In64 x1 ∧ In64 x2) ∧
      Pairs w w.heap.size (.slice xla ls.length xlc) ls ∧ Pairs w w.heap.size (.slice xta ts.length xtc) ts ∧ (ls.length * 32 ≤ reachBytes ∧ ls.length ≤ xlc ∧ xlc ≤ maxLen) ∧ (ts.length * 32 ≤ reachBytes ∧ ts.length ≤ xtc ∧ xtc ≤ maxLen) := by
  have hu := Try.underlying33
  obtain ⟨xs, m, -, rfl, hl, hlen, hf⟩ := DataW.trod_struct hu h
  match xs, hlen with
  | [y0, y1, y2, y3], _ =>
    have hl2 : cs.length = 6 := hl
    match cs, hl2 with
    | [c0, c1, c2, c3, c4, c5], _ =>
      have t0 : DataW.trod enc Try.prog w 0 spare held m 9 [c0] = some y0 := hf 0 _ rfl
      have t1 : DataW.trod enc Try.prog w 0 spare held m 23 [c1, c2, c3] = some y1 := hf 1 _ rfl
      have t2 : DataW.trod enc Try.prog w 0 spare held m 24 [c4] = some y2 := hf 2 _ rfl
      have t3 : DataW.trod enc Try.prog w 0 spare held m 24 [c5] = some y3 := hf 3 _ rfl
      have w2 : ∀ n ∈ y2.1.weights Try.prog 24, n ≤ reachBytes := fun n hn => hw n (by simp only [DataW.weights, hu, DataW.weightsEach, List.map_cons, List.map_nil, List.mem_append]; exact .inr (.inr (.inl hn)))
      have w3 : ∀ n ∈ y3.1.weights Try.prog 24, n ≤ reachBytes := fun n hn => hw n (by simp only [DataW.weights, hu, DataW.weightsEach, List.map_cons, List.map_nil, List.mem_append]; exact .inr (.inr (.inr (.inl hn))))
      obtain ⟨s0, e0, e0', z0⟩ := DataW.trod_string Try.underlying9 t0
      obtain ⟨x0, x1, x2, e1, b0, b1, b2⟩ := arr_cs rfl t1
      obtain ⟨a2, k2, ws, e2, p2, l2⟩ := pairs_cs t2 w2
      obtain ⟨a3, k3, bs, e3, p3, l3⟩ := pairs_cs t3 w3
      cases e0
      cases e1
      cases e2
      cases e3
      exact ⟨s0, x0, x1, x2, a2, k2, a3, k3, ws, bs, rfl, z0, ⟨b0, b1, b2⟩, p2, p3, l2, l3⟩
end
section
variable {H : Type} {enc : TypeId × Value → H} {w : World} {v : Value} {d : DataW H} {ps : List MemPlace} {base : Nat}
set_option maxRecDepth 100000 in
theorem task_of (ho : Value.okWide Try.prog w .any base 26 v) (hk : DataW.Trod enc Try.prog w 0 (fun _ => true) true 26 v d ps) (hw : ∀ n ∈ d.weights Try.prog 26, n ≤ reachBytes) :
    ∃ xn xg xa x0 x1 x2 xr xwa xwc xba xbc ws bs, v = .agg #[.string xn, .int .i64 x0, .int .i64 x1, .int .i64 x2, .slice xwa ws.length xwc, .slice xba bs.length xbc, .string xg, .string xa, .int .i64 xr] ∧
      (xn.size ≤ maxLen ∧ xg.size ≤ maxLen ∧ xa.size ≤ maxLen) ∧ (In64 x0 ∧ In64 x1 ∧ In64 x2 ∧ In64 xr) ∧
      Pairs w w.heap.size (.slice xwa ws.length xwc) ws ∧ Pairs w w.heap.size (.slice xba bs.length xbc) bs ∧ (ws.length * 32 ≤ reachBytes ∧ ws.length ≤ xwc ∧ xwc ≤ maxLen) ∧ (bs.length * 32 ≤ reachBytes ∧ bs.length ≤ xbc ∧ xbc ≤ maxLen) := by
  obtain ⟨cs, rfl, hcs⟩ := okWide_struct Try.underlying26 ho
  obtain ⟨fuel, hf⟩ := hk
  obtain ⟨xn, xg, xa, x0, x1, x2, xr, xwa, xwc, xba, xbc, ws, bs, e, r⟩ := task_cs hf hw
  refine ⟨xn, xg, xa, x0, x1, x2, xr, xwa, xwc, xba, xbc, ws, bs, ?_, r⟩
  rcases cs with ⟨l⟩
  simp [Value.cells] at e
  rw [e]
set_option maxRecDepth 100000 in
theorem node_of (ho : Value.okWide Try.prog w .any base 33 v) (hk : DataW.Trod enc Try.prog w 0 (fun _ => true) true 33 v d ps) (hw : ∀ n ∈ d.weights Try.prog 33, n ≤ reachBytes) :
    ∃ xn x0 x1 x2 xla xlc xta xtc ls ts, v = .agg #[.string xn, .int .i64 x0, .int .i64 x1, .int .i64 x2, .slice xla ls.length xlc, .slice xta ts.length xtc] ∧
      xn.size ≤ maxLen ∧ (In64 x0 ∧ In64 x1 ∧ In64 x2) ∧
      Pairs w w.heap.size (.slice xla ls.length xlc) ls ∧ Pairs w w.heap.size (.slice xta ts.length xtc) ts ∧ (ls.length * 32 ≤ reachBytes ∧ ls.length ≤ xlc ∧ xlc ≤ maxLen) ∧ (ts.length * 32 ≤ reachBytes ∧ ts.length ≤ xtc ∧ xtc ≤ maxLen) := by
  obtain ⟨cs, rfl, hcs⟩ := okWide_struct Try.underlying33 ho
  obtain ⟨fuel, hf⟩ := hk
  obtain ⟨xn, x0, x1, x2, xla, xlc, xta, xtc, ls, ts, e, r⟩ := node_cs hf hw
  refine ⟨xn, x0, x1, x2, xla, xlc, xta, xtc, ls, ts, ?_, r⟩
  rcases cs with ⟨l⟩
  simp [Value.cells] at e
  rw [e]
set_option maxRecDepth 100000 in
theorem arr_of (ho : Value.okWide Try.prog w .any base 23 v) (hk : DataW.Trod enc Try.prog w 0 (fun _ => true) true 23 v d ps) :
    ∃ z0 z1 z2 : Int, v = .agg #[.int .i64 z0, .int .i64 z1, .int .i64 z2] ∧ In64 z0 ∧ In64 z1 ∧ In64 z2 := by
  simp only [Value.okWide, Try.underlying23] at ho
  obtain ⟨cs, rfl, hcs, _⟩ := ho
  have hl : cs.size = 3 := hcs
  obtain ⟨fuel, hf⟩ := hk
  rcases cs with ⟨l⟩
  obtain ⟨z0, z1, z2, e, b0, b1, b2⟩ := arr_cs (by simpa [Value.cells] using hl) hf
  refine ⟨z0, z1, z2, ?_, b0, b1, b2⟩
  simp [Value.cells] at e
  rw [e]
set_option maxRecDepth 100000 in
theorem pair_of (ho : Value.okWide Try.prog w .any base 53 v) (hk : DataW.Trod enc Try.prog w 0 (fun _ => true) true 53 v d ps) (hw : ∀ n ∈ d.weights Try.prog 53, n ≤ reachBytes) :
    ∃ p : Pr, v = .agg #[.string p.k, .string p.v] ∧ p.k.size ≤ maxLen ∧ p.v.size ≤ maxLen := by
  obtain ⟨cs, rfl, hcs⟩ := okWide_struct Try.underlying53 ho
  obtain ⟨fuel, hf⟩ := hk
  obtain ⟨p, e, r⟩ := pair_cs hf hw
  refine ⟨p, ?_, r⟩
  rcases cs with ⟨l⟩
  simp [Value.cells] at e
  rw [e]
structure Tk where
  n : ByteArray
  g : ByteArray
  a : ByteArray
  z0 : Int
  z1 : Int
  z2 : Int
  r : Int
  wa : Option Addr
  wn : Nat
  wc : Nat
  ba : Option Addr
  bn : Nat
  bc : Nat
/-- v is a slice of the tasks ts, in memory below block B. -/
def Tasks (w : World) (B : Nat) (v : Value) (ts : List Tk) : Prop :=
  ∃ a c, v = .slice a ts.length c ∧ ts.length ≤ 4611686018427387904 ∧ (∀ t ∈ ts, In64 t.z0 ∧ In64 t.z1 ∧ In64 t.z2) ∧
    (0 < ts.length → ∃ b off, a = some ⟨b, off, none⟩ ∧ b < B ∧ ∀ i (h : i < ts.length),
      w.cell? ⟨b, off + i * 9, none⟩ = some (.string ts[i].n) ∧ w.cell? ⟨b, off + i * 9 + 1, none⟩ = some (.int .i64 ts[i].z0) ∧ w.cell? ⟨b, off + i * 9 + 2, none⟩ = some (.int .i64 ts[i].z1) ∧
      w.cell? ⟨b, off + i * 9 + 3, none⟩ = some (.int .i64 ts[i].z2) ∧ w.cell? ⟨b, off + i * 9 + 4, none⟩ = some (.slice ts[i].wa ts[i].wn ts[i].wc) ∧ w.cell? ⟨b, off + i * 9 + 5, none⟩ = some (.slice ts[i].ba ts[i].bn ts[i].bc) ∧
      w.cell? ⟨b, off + i * 9 + 6, none⟩ = some (.string ts[i].g) ∧ w.cell? ⟨b, off + i * 9 + 7, none⟩ = some (.string ts[i].a) ∧ w.cell? ⟨b, off + i * 9 + 8, none⟩ = some (.int .i64 ts[i].r))
set_option maxRecDepth 100000 in
theorem Tasks.keep {w w' : World} {B : Nat} {v : Value} {ts : List Tk} (h : Tasks w B v ts) (hb : Below B w w') : Tasks w' B v ts := by
  obtain ⟨a, c, rfl, h1, h2, h3⟩ := h
  refine ⟨a, c, rfl, h1, h2, fun hp => ?_⟩
  obtain ⟨b, off, rfl, hlt, hc⟩ := h3 hp
  refine ⟨b, off, rfl, hlt, fun i hi => ?_⟩
  have k : ∀ o, w'.cell? ⟨b, o, none⟩ = w.cell? ⟨b, o, none⟩ := fun o => hb.cell (by exact hlt)
  simp only [k]
  exact hc i hi
set_option maxRecDepth 100000 in
theorem Tasks.more {w : World} {B B' : Nat} {v : Value} {ts : List Tk} (h : Tasks w B v ts) (hb : B ≤ B') : Tasks w B' v ts := by
  obtain ⟨a, c, rfl, h1, h2, h3⟩ := h
  refine ⟨a, c, rfl, h1, h2, fun hp => ?_⟩
  obtain ⟨b, off, rfl, hlt, hc⟩ := h3 hp
  exact ⟨b, off, rfl, by omega, hc⟩
set_option maxRecDepth 100000 in
theorem tasks_of (ho : Value.okWide Try.prog w .any base 22 v) (hk : DataW.Trod enc Try.prog w 0 (fun _ => true) true 22 v d ps) (hw : ∀ n ∈ d.weights Try.prog 22, n ≤ reachBytes) :
    ∃ ts, Tasks w w.heap.size v ts ∧ ts.length * 128 ≤ reachBytes := by
  have ht := Try.underlying22
  obtain ⟨a0, len0, cap0, rfl⟩ := okWide_slice ht ho
  obtain ⟨fuel, hf⟩ := hk
  rcases DataW.trod_slice ht hf with ⟨hcs, -⟩ | ⟨a, len, cap, elems, rest, m, -, hcs, hx, hb, hl, hm, hlen, hel, -, -⟩
  · simp [Value.cells] at hcs
    obtain ⟨rfl, rfl, rfl⟩ := hcs
    exact ⟨[], ⟨none, 0, rfl, by simp, by simp, by simp⟩, by simp⟩
  · simp [Value.cells] at hcs
    obtain ⟨rfl, rfl, rfl⟩ := hcs
    cases hx
    have hln := slice_len ht hw
    rw [show Try.prog.bytesOf 26 = 128 from rfl, List.length_map, hlen] at hln
    have hwe : ∀ y ∈ elems, ∀ n ∈ y.1.weights Try.prog 26, n ≤ reachBytes := by
      intro y hy n hn
      refine hw n ?_
      have := all_mem (List.mem_map_of_mem (f := (·.1)) hy) n hn
      simp only [DataW.weights, ht, List.mem_cons, List.mem_append]
      exact .inr (.inl this)
    have each : ∀ i, i < len0 → ∃ t : Tk, (w.cell? (a.add (i * 9)) = some (.string t.n) ∧ w.cell? ((a.add (i * 9)).add 1) = some (.int .i64 t.z0) ∧ w.cell? ((a.add (i * 9)).add 2) = some (.int .i64 t.z1) ∧
        w.cell? ((a.add (i * 9)).add 3) = some (.int .i64 t.z2) ∧ w.cell? ((a.add (i * 9)).add 4) = some (.slice t.wa t.wn t.wc) ∧ w.cell? ((a.add (i * 9)).add 5) = some (.slice t.ba t.bn t.bc) ∧
        w.cell? ((a.add (i * 9)).add 6) = some (.string t.g) ∧ w.cell? ((a.add (i * 9)).add 7) = some (.string t.a) ∧ w.cell? ((a.add (i * 9)).add 8) = some (.int .i64 t.r)) ∧ In64 t.z0 ∧ In64 t.z1 ∧ In64 t.z2 := by
      intro i hi
      have hy := hel i hi
      rw [List.getElem?_eq_getElem (by omega : i < elems.length), show Try.prog.cellsOf 26 = 9 from rfl, Option.bind_eq_some_iff] at hy
      obtain ⟨cs', hcs, hy'⟩ := hy
      obtain ⟨xn, xg, xa, x0, x1, x2, xr, xwa, xwc, xba, xbc, ws, bs, rfl, -, ⟨i0, i1, i2, -⟩, -⟩ := task_cs hy' (hwe _ (List.getElem_mem _))
      obtain ⟨-, -, hcell⟩ := World.cells?_some hcs
      refine ⟨⟨xn, xg, xa, x0, x1, x2, xr, xwa, ws.length, xwc, xba, bs.length, xbc⟩, ⟨?_, hcell 1 (by omega), hcell 2 (by omega), hcell 3 (by omega), hcell 4 (by omega), hcell 5 (by omega), hcell 6 (by omega), hcell 7 (by omega), hcell 8 (by omega)⟩, i0, i1, i2⟩
      have := hcell 0 (by omega)
      rw [block_add0] at this
      exact this
    obtain ⟨ts, hfl, hfs⟩ := list_of _ len0 each
    refine ⟨ts, ⟨some a, cap0, by rw [hfl], by rw [hfl]; simp only [reachBytes] at hln; omega, fun t ht => ?_, fun hp => ?_⟩, by rw [hfl]; exact hln⟩
    · obtain ⟨i, hi, rfl⟩ := List.getElem_of_mem ht
      exact (hfs i hi).2
    · have hz := (hfs 0 hp).1.1
      have hx := World.block_lt_of_cell? w _ hz
      have hsp : a.spot = none := by
        have := spot_none w _ _ hz
        simpa [Addr.add] using this
      refine ⟨a.block, a.off, by cases a; simp_all, by simpa [Addr.add] using hx, fun i hi => ?_⟩
      have hh := (hfs i hi).1
      simp only [add_form a _ hsp, Addr.add_lit] at hh
      exact hh
end
end Rg
end Go.Proofs.Ytgdnpjmicdiclaa
