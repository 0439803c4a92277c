/-
  Merged: BoArg, BoArgO.
-/
import Derived.Test.YthbmnkeigmbbdaaGreatRgA
import Derived.Test.YthbmnkeigmbbdaaGreatBoBase
/-
  ARGUMENTS: books, tasks, orders that came in.
-/
namespace Go.Proofs.YthbmnkeigmbbdaaGreat
open Go.RowKit Go.WideShapes Go.ChangeShapes
namespace Bo
open Rw Rg
set_option linter.unusedVariables false
set_option maxRecDepth 100000
section
variable {H : Type} {enc : TypeId × Value → H} {w : World} {spare : Nat → Bool} {held : Bool}
theorem row_made {α : Type} [F : Flat α] {a : Addr} {len cap : Nat} {R : α → Prop} (hl : len ≤ cap) (hm : len ≤ 4398046511104) (each : ∀ i, i < len → ∃ x : α, (∀ j u, (F.enc x)[j]? = some u → w.cell? ((a.add (i * F.k)).add j) = some u) ∧ R x) :
    ∃ l : List α, l.length = len ∧ Sl w 0 w.heap.size (.slice (some a) l.length cap) l ∧ ∀ x ∈ l, R x := by
  obtain ⟨l, hfl, hfs⟩ := Rg.list_of _ len each
  refine ⟨l, hfl, ⟨some a, cap, rfl, by omega, (fun h => by cases h), by omega, fun hp => ?_⟩, fun x hx => ?_⟩
  · have h0 : (F.enc l[0])[0]? = some ((F.enc l[0])[0]'(by rw [F.len]; exact F.kp)) := List.getElem?_eq_getElem _
    have hz := (hfs 0 hp).1 0 _ h0
    rw [block_add0, Nat.zero_mul, block_add0] at hz
    have hx := World.block_lt_of_cell? w _ hz
    have hsp := spot_none w _ _ hz
    refine ⟨a.block, a.off, by cases a; simp_all, Nat.zero_le _, hx, fun i hi j u hj => ?_⟩
    have hh := (hfs i hi).1 j u hj
    simp only [add_form a _ hsp, Addr.add_lit] at hh
    exact hh
  · obtain ⟨i, hi, rfl⟩ := List.getElem_of_mem hx
    exact (hfs i hi).2
theorem rows_of {α : Type} [F : Flat α] {t e : TypeId} {R : α → Prop} {B : Nat} (ht : Tryz.prog.underlying t = some (.slice e)) (hk : Tryz.prog.cellsOf e = F.k) (hby : Tryz.prog.bytesOf e = B) (hB : 32 ≤ B)
    (each1 : ∀ (n : Nat) (cs : List Value) (y : DataW H × List MemPlace), DataW.trod enc Tryz.prog w 0 spare held n e cs = some y → (∀ n ∈ y.1.weights Tryz.prog e, n ≤ reachBytes) → ∃ x : α, cs = F.enc x ∧ R x)
    {n : Nat} {cs : List Value} {y : DataW H × List MemPlace} (h : DataW.trod enc Tryz.prog w 0 spare held n t cs = some y) (hw : ∀ n ∈ y.1.weights Tryz.prog t, n ≤ reachBytes) :
    ∃ (a : Option Addr) (c : Nat) (l : List α), cs = [.slice a l.length c] ∧ Sl w 0 w.heap.size (.slice a l.length c) l ∧ (∀ x ∈ l, R x) ∧ l.length * B ≤ 140737488355328 := by
  rcases DataW.trod_slice ht h with ⟨rfl, -⟩ | ⟨a, len, cap, elems, rest, m, -, rfl, rfl, hb, hl, hm, hlen, hel, -, -⟩
  · exact ⟨none, 0, [], rfl, Sl.nil _ _ _, by simp, by simp⟩
  · have hln := slice_len ht hw
    rw [hby, List.length_map, hlen] at hln
    have hln2 : len * B ≤ 140737488355328 := Nat.le_trans hln (by simp only [reachBytes]; omega)
    have hlen2 : len ≤ 4398046511104 := by
      have := Nat.mul_le_mul_left len hB
      omega
    have hwe : ∀ y ∈ elems, ∀ n ∈ y.1.weights Tryz.prog e, n ≤ reachBytes := by
      intro y hy n hn
      refine hw n ?_
      have := all_mem (List.mem_map_of_mem (f := (·.1)) hy) n hn
      simp only [DataW.weights, ht, List.mem_cons, List.mem_append]
      exact .inr (.inl this)
    have each : ∀ i, i < len → ∃ x : α, (∀ j u, (F.enc x)[j]? = some u → w.cell? ((a.add (i * F.k)).add j) = some u) ∧ R x := by
      intro i hi
      have hy := hel i hi
      rw [List.getElem?_eq_getElem (by omega : i < elems.length), hk, Option.bind_eq_some_iff] at hy
      obtain ⟨cs', hcs, hy'⟩ := hy
      obtain ⟨x, rfl, hx⟩ := each1 _ _ _ hy' (hwe _ (List.getElem_mem _))
      obtain ⟨-, hcl, hcell⟩ := World.cells?_some hcs
      exact ⟨x, fun j u hj => (hcell j (by rw [← hcl]; exact (List.getElem?_eq_some_iff.1 hj).1)).trans hj, hx⟩
    obtain ⟨l, hfl, hsl, hR⟩ := row_made hl hlen2 each
    exact ⟨some a, cap, l, by rw [hfl], hsl, hR, by rw [hfl]; exact hln2⟩
theorem pairs_sl {n : Nat} {cs : List Value} {y : DataW H × List MemPlace} (h : DataW.trod enc Tryz.prog w 0 spare held n 40 cs = some y) (hw : ∀ n ∈ y.1.weights Tryz.prog 40, n ≤ reachBytes) :
    ∃ (a : Option Addr) (c : Nat) (l : List Rg.Pr), cs = [.slice a l.length c] ∧ Sl w 0 w.heap.size (.slice a l.length c) l ∧ FitL l := by
  obtain ⟨a, c, l, h1, h2, h3, h4⟩ := rows_of (R := fun p : Rg.Pr => p.k.size ≤ maxLen ∧ p.v.size ≤ maxLen) (B := 32) Tryz.underlying40 rfl rfl (Nat.le_refl _) (fun n cs y h hw => pair_cs h hw) h hw
  exact ⟨a, c, l, h1, h2, h4, h3⟩
set_option maxHeartbeats 1000000 in
theorem node_sl {n : Nat} {cs : List Value} {y : DataW H × List MemPlace} (h : DataW.trod enc Tryz.prog w 0 spare held n 45 cs = some y) (hw : ∀ n ∈ y.1.weights Tryz.prog 45, n ≤ reachBytes) :
    ∃ x : NdM, cs = ndE x ∧ DeepN w w.heap.size x ∧ FitN x.nd := by
  have hu := Tryz.underlying45
  obtain ⟨xs, m, -, rfl, hl, hlen, hf⟩ := DataW.trod_struct hu h
  match xs, hlen with
  | [y0, y1, y2, y3], _ =>
    have hl2 : cs.length = 6 := hl
    match cs, hl2 with
    | [c0, c1, c2, c3, c4, c5], _ =>
      have t0 : DataW.trod enc Tryz.prog w 0 spare held m 9 [c0] = some y0 := hf 0 _ rfl
      have t1 : DataW.trod enc Tryz.prog w 0 spare held m 39 [c1, c2, c3] = some y1 := hf 1 _ rfl
      have t2 : DataW.trod enc Tryz.prog w 0 spare held m 40 [c4] = some y2 := hf 2 _ rfl
      have t3 : DataW.trod enc Tryz.prog w 0 spare held m 40 [c5] = some y3 := hf 3 _ rfl
      have w2 : ∀ n ∈ y2.1.weights Tryz.prog 40, n ≤ reachBytes := fun n hn => hw n (by simp only [DataW.weights, hu, DataW.weightsEach, List.map_cons, List.map_nil, List.mem_append]; exact .inr (.inr (.inl hn)))
      have w3 : ∀ n ∈ y3.1.weights Tryz.prog 40, n ≤ reachBytes := fun n hn => hw n (by simp only [DataW.weights, hu, DataW.weightsEach, List.map_cons, List.map_nil, List.mem_append]; exact .inr (.inr (.inr (.inl hn))))
      obtain ⟨s0, e0, e0', z0⟩ := DataW.trod_string Tryz.underlying9 t0
      obtain ⟨x0, x1, x2, e1, b0, b1, b2⟩ := arr_cs rfl t1
      obtain ⟨a2, k2, ws, e2, p2, l2⟩ := pairs_sl t2 w2
      obtain ⟨a3, k3, bs, e3, p3, l3⟩ := pairs_sl t3 w3
      cases e0
      cases e1
      cases e2
      cases e3
      exact ⟨⟨⟨s0, x0, x1, x2, ws, bs⟩, a2, k2, a3, k3⟩, rfl, ⟨p2, p3⟩, z0, ⟨b0, b1, b2⟩, l2, l3⟩
set_option maxHeartbeats 1000000 in
theorem task_sl {n : Nat} {cs : List Value} {y : DataW H × List MemPlace} (h : DataW.trod enc Tryz.prog w 0 spare held n 42 cs = some y) (hw : ∀ n ∈ y.1.weights Tryz.prog 42, n ≤ reachBytes) :
    ∃ x : TdM, cs = tdE x ∧ DeepT w w.heap.size x ∧ FitT x.td := by
  have hu := Tryz.underlying42
  obtain ⟨xs, m, -, rfl, hl, hlen, hf⟩ := DataW.trod_struct hu h
  match xs, hlen with
  | [y0, y1, y2, y3, y4, y5, y6], _ =>
    have hl2 : cs.length = 9 := hl
    match cs, hl2 with
    | [c0, c1, c2, c3, c4, c5, c6, c7, c8], _ =>
      have t0 : DataW.trod enc Tryz.prog w 0 spare held m 9 [c0] = some y0 := hf 0 _ rfl
      have t1 : DataW.trod enc Tryz.prog w 0 spare held m 39 [c1, c2, c3] = some y1 := hf 1 _ rfl
      have t2 : DataW.trod enc Tryz.prog w 0 spare held m 40 [c4] = some y2 := hf 2 _ rfl
      have t3 : DataW.trod enc Tryz.prog w 0 spare held m 40 [c5] = some y3 := hf 3 _ rfl
      have t4 : DataW.trod enc Tryz.prog w 0 spare held m 9 [c6] = some y4 := hf 4 _ rfl
      have t5 : DataW.trod enc Tryz.prog w 0 spare held m 9 [c7] = some y5 := hf 5 _ rfl
      have t6 : DataW.trod enc Tryz.prog w 0 spare held m 3 [c8] = some y6 := hf 6 _ rfl
      have w2 : ∀ n ∈ y2.1.weights Tryz.prog 40, n ≤ reachBytes := fun n hn => hw n (by simp only [DataW.weights, hu, DataW.weightsEach, List.map_cons, List.map_nil, List.mem_append]; exact .inr (.inr (.inl hn)))
      have w3 : ∀ n ∈ y3.1.weights Tryz.prog 40, n ≤ reachBytes := fun n hn => hw n (by simp only [DataW.weights, hu, DataW.weightsEach, List.map_cons, List.map_nil, List.mem_append]; exact .inr (.inr (.inr (.inl hn))))
      obtain ⟨s0, e0, e0', z0⟩ := DataW.trod_string Tryz.underlying9 t0
      obtain ⟨x0, x1, x2, e1, b0, b1, b2⟩ := arr_cs rfl t1
      obtain ⟨a2, k2, ws, e2, p2, l2⟩ := pairs_sl t2 w2
      obtain ⟨a3, k3, bs, e3, p3, l3⟩ := pairs_sl t3 w3
      obtain ⟨s4, e4, e4', z4⟩ := DataW.trod_string Tryz.underlying9 t4
      obtain ⟨s5, e5, e5', z5⟩ := DataW.trod_string Tryz.underlying9 t5
      obtain ⟨z6, e6, e6', b6⟩ := DataW.trod_int Tryz.underlying3 t6
      cases e0
      cases e1
      cases e2
      cases e3
      cases e4
      cases e5
      cases e6
      exact ⟨⟨⟨s0, x0, x1, x2, ws, bs, s4, s5, z6⟩, a2, k2, a3, k3⟩, rfl, ⟨p2, p3⟩, ⟨z0, z4, z5⟩, ⟨b0, b1, b2, bounds_i64 b6⟩, l2, l3⟩
theorem bind_sl {n : Nat} {cs : List Value} {y : DataW H × List MemPlace} (h : DataW.trod enc Tryz.prog w 0 spare held n 106 cs = some y) (hw : ∀ n ∈ y.1.weights Tryz.prog 106, n ≤ reachBytes) :
    ∃ x : Rg.Pr, cs = bdE x ∧ FitB x := by
  have hu := Tryz.underlying106
  obtain ⟨xs, m, -, rfl, hl, hlen, hf⟩ := DataW.trod_struct hu h
  match xs, hlen with
  | [y0, y1], _ =>
    have hl2 : cs.length = 2 := hl
    match cs, hl2 with
    | [c0, c1], _ =>
      have t0 : DataW.trod enc Tryz.prog w 0 spare held m 9 [c0] = some y0 := hf 0 _ rfl
      have t1 : DataW.trod enc Tryz.prog w 0 spare held m 9 [c1] = some y1 := hf 1 _ rfl
      obtain ⟨s0, e0, e0', z0⟩ := DataW.trod_string Tryz.underlying9 t0
      obtain ⟨s1, e1, e1', z1⟩ := DataW.trod_string Tryz.underlying9 t1
      cases e0
      cases e1
      exact ⟨⟨s0, s1⟩, rfl, z0, z1⟩
set_option maxHeartbeats 1000000 in
theorem book_cs {n : Nat} {cs : List Value} {y : DataW H × List MemPlace} (h : DataW.trod enc Tryz.prog w 0 spare held n 27 cs = some y) (hw : ∀ n ∈ y.1.weights Tryz.prog 27, n ≤ reachBytes) :
    ∃ (b : Bk) (vn vt vb : Value), cs = [vn, vt, vb, .int .u64 (b.fe : Nat)] ∧ Books w w.heap.size vn vt vb b := by
  have hu := Tryz.underlying27
  obtain ⟨xs, m, -, rfl, hl, hlen, hf⟩ := DataW.trod_struct hu h
  match xs, hlen with
  | [y0, y1, y2, y3], _ =>
    have hl2 : cs.length = 4 := hl
    match cs, hl2 with
    | [c0, c1, c2, c3], _ =>
      have t0 : DataW.trod enc Tryz.prog w 0 spare held m 22 [c0] = some y0 := hf 0 _ rfl
      have t1 : DataW.trod enc Tryz.prog w 0 spare held m 23 [c1] = some y1 := hf 1 _ rfl
      have t2 : DataW.trod enc Tryz.prog w 0 spare held m 24 [c2] = some y2 := hf 2 _ rfl
      have t3 : DataW.trod enc Tryz.prog w 0 spare held m 25 [c3] = some y3 := hf 3 _ rfl
      have w0 : ∀ n ∈ y0.1.weights Tryz.prog 22, n ≤ reachBytes := fun n hn => hw n (by simp only [DataW.weights, hu, DataW.weightsEach, List.map_cons, List.map_nil, List.mem_append]; exact .inl hn)
      have w1 : ∀ n ∈ y1.1.weights Tryz.prog 23, n ≤ reachBytes := fun n hn => hw n (by simp only [DataW.weights, hu, DataW.weightsEach, List.map_cons, List.map_nil, List.mem_append]; exact .inr (.inl hn))
      have w2 : ∀ n ∈ y2.1.weights Tryz.prog 24, n ≤ reachBytes := fun n hn => hw n (by simp only [DataW.weights, hu, DataW.weightsEach, List.map_cons, List.map_nil, List.mem_append]; exact .inr (.inr (.inl hn)))
      obtain ⟨a0, k0, l0, e0, p0, r0, s0⟩ := rows_of (R := fun x : NdM => DeepN w w.heap.size x ∧ FitN x.nd) (B := 88) Tryz.underlying22 rfl rfl (by omega) (fun n cs y h hw => node_sl h hw) t0 w0
      obtain ⟨a1, k1, l1, e1, p1, r1, s1⟩ := rows_of (R := fun x : TdM => DeepT w w.heap.size x ∧ FitT x.td) (B := 128) Tryz.underlying23 rfl rfl (by omega) (fun n cs y h hw => task_sl h hw) t1 w1
      obtain ⟨a2, k2, l2, e2, p2, r2, s2⟩ := rows_of (R := fun x : Rg.Pr => FitB x) (B := 32) Tryz.underlying24 rfl rfl (by omega) (fun n cs y h hw => bind_sl h hw) t2 w2
      obtain ⟨z3, e3, -, b3⟩ := DataW.trod_int Tryz.underlying25 t3
      have hb := bounds_u64 b3
      obtain ⟨fe, rfl, hfe⟩ : ∃ fe : Nat, z3 = (fe : Nat) ∧ fe < 18446744073709551616 := ⟨z3.toNat, by omega, by omega⟩
      cases e0
      cases e1
      cases e2
      cases e3
      exact ⟨⟨l0.map (·.nd), l1.map (·.td), l2, fe⟩, _, _, _, rfl, ⟨l0, rfl, p0, r0, by rw [List.length_map]; exact s0⟩, ⟨l1, rfl, p1, r1, by rw [List.length_map]; exact s1⟩, ⟨p2, r2, s2⟩, hfe⟩
end
section
variable {H : Type} {enc : TypeId × Value → H} {w : World} {v : Value} {d : DataW H} {ps : List MemPlace} {base : Nat}
def BookArg (w : World) (v : Value) (b : Bk) : Prop := ∃ vn vt vb, v = .agg #[vn, vt, vb, .int .u64 (b.fe : Nat)] ∧ Books w w.heap.size vn vt vb b
def TaskArg (w : World) (v : Value) (x : TdM) : Prop := v = .agg (tdE x).toArray ∧ DeepT w w.heap.size x ∧ FitT x.td
theorem book_of (ho : Value.okWide Tryz.prog w .any base 27 v) (hk : DataW.Trod enc Tryz.prog w 0 (fun _ => true) true 27 v d ps) (hw : ∀ n ∈ d.weights Tryz.prog 27, n ≤ reachBytes) : ∃ b, BookArg w v b := by
  obtain ⟨cs, rfl, hcs⟩ := okWide_struct Tryz.underlying27 ho
  obtain ⟨fuel, hf⟩ := hk
  obtain ⟨b, vn, vt, vb, e, r⟩ := book_cs hf hw
  refine ⟨b, vn, vt, vb, ?_, r⟩
  rcases cs with ⟨l⟩
  simp [Value.cells] at e
  rw [e]
theorem task_of2 (ho : Value.okWide Tryz.prog w .any base 42 v) (hk : DataW.Trod enc Tryz.prog w 0 (fun _ => true) true 42 v d ps) (hw : ∀ n ∈ d.weights Tryz.prog 42, n ≤ reachBytes) : ∃ x, TaskArg w v x := by
  obtain ⟨cs, rfl, hcs⟩ := okWide_struct Tryz.underlying42 ho
  obtain ⟨fuel, hf⟩ := hk
  obtain ⟨x, e, r⟩ := task_sl hf hw
  refine ⟨x, ?_, r⟩
  rcases cs with ⟨l⟩
  simp [Value.cells] at e
  rw [e]
end
end Bo
end Go.Proofs.YthbmnkeigmbbdaaGreat

/-
  ARGUMENTS: slices of orders that came in.
-/
namespace Go.Proofs.YthbmnkeigmbbdaaGreat
open Go.RowKit Go.WideShapes Go.ChangeShapes
namespace Bo
open Rw Rg
set_option linter.unusedVariables false
set_option maxRecDepth 100000
/-- An order as it lies in a row. -/
structure OdM where
  C : Hd.Cd
  a2 : Option Addr
  c2 : Nat
  a3 : Option Addr
  c3 : Nat
  a4 : Option Addr
  c4 : Nat
  a5 : Option Addr
  c5 : Nat
def odE (x : OdM) : List Value := [.int .u8 (x.C.k : Nat), .string x.C.nd.n, .int .i64 x.C.nd.z0, .int .i64 x.C.nd.z1, .int .i64 x.C.nd.z2, .slice x.a2 x.C.nd.ls.length x.c2, .slice x.a3 x.C.nd.ts.length x.c3, .string x.C.td.n, .int .i64 x.C.td.z0, .int .i64 x.C.td.z1, .int .i64 x.C.td.z2, .slice x.a4 x.C.td.ws.length x.c4, .slice x.a5 x.C.td.bs.length x.c5, .string x.C.td.g, .string x.C.td.a, .int .i64 x.C.td.r, .string x.C.na, .string x.C.on, .int .u64 (x.C.fe : Nat)]
theorem odE_one (x : OdM) : ∀ u ∈ odE x, u.oneCell' = true := List.all_eq_true.1 (show List.all (odE x) (fun v => v.oneCell') = true from rfl)
instance : Rw.Flat OdM := ⟨odE, 19, by omega, fun _ => rfl, odE_one⟩
def OdM.n (x : OdM) : NdM := ⟨x.C.nd, x.a2, x.c2, x.a3, x.c3⟩
def OdM.t (x : OdM) : TdM := ⟨x.C.td, x.a4, x.c4, x.a5, x.c5⟩
/-- What an order must bear to be in memory, and where its pairs are. -/
structure DeepO (w : World) (B : Nat) (x : OdM) : Prop where
  hn : DeepN w B x.n
  ht : DeepT w B x.t
structure FitO (C : Hd.Cd) : Prop where
  fn : FitN C.nd
  ft : FitT C.td
  fb : FitB ⟨C.na, C.on⟩
  ff : C.fe < 18446744073709551616
  fk : C.k < 256
theorem DeepO.keep {w w' : World} {B : Nat} {x : OdM} (h : DeepO w B x) (hb : Below B w w') : DeepO w' B x := ⟨h.hn.keep hb, h.ht.keep hb⟩
theorem DeepO.on {w w' : World} {x : OdM} (h : DeepO w w.heap.size x) (hb : Below w.heap.size w w') : DeepO w' w'.heap.size x := ⟨h.hn.on hb, h.ht.on hb⟩
section
variable {H : Type} {enc : TypeId × Value → H} {w : World} {spare : Nat → Bool} {held : Bool}
set_option maxHeartbeats 1000000 in
theorem order_sl {n : Nat} {cs : List Value} {y : DataW H × List MemPlace} (h : DataW.trod enc Tryz.prog w 0 spare held n 55 cs = some y) (hw : ∀ n ∈ y.1.weights Tryz.prog 55, n ≤ reachBytes) :
    ∃ x : OdM, cs = odE x ∧ DeepO w w.heap.size x ∧ FitO x.C := by
  have hu := Tryz.underlying55
  obtain ⟨xs, m, -, rfl, hl, hlen, hf⟩ := DataW.trod_struct hu h
  match xs, hlen with
  | [y0, y1, y2, y3, y4, y5], _ =>
    have hl2 : cs.length = 19 := hl
    match cs, hl2 with
    | [c0, c1, c2, c3, c4, c5, c6, c7, c8, c9, c10, c11, c12, c13, c14, c15, c16, c17, c18], _ =>
      have t0 : DataW.trod enc Tryz.prog w 0 spare held m 53 [c0] = some y0 := hf 0 _ rfl
      have t1 : DataW.trod enc Tryz.prog w 0 spare held m 45 [c1, c2, c3, c4, c5, c6] = some y1 := hf 1 _ rfl
      have t2 : DataW.trod enc Tryz.prog w 0 spare held m 42 [c7, c8, c9, c10, c11, c12, c13, c14, c15] = some y2 := hf 2 _ rfl
      have t3 : DataW.trod enc Tryz.prog w 0 spare held m 9 [c16] = some y3 := hf 3 _ rfl
      have t4 : DataW.trod enc Tryz.prog w 0 spare held m 9 [c17] = some y4 := hf 4 _ rfl
      have t5 : DataW.trod enc Tryz.prog w 0 spare held m 25 [c18] = some y5 := hf 5 _ rfl
      have w1 : ∀ n ∈ y1.1.weights Tryz.prog 45, n ≤ reachBytes := fun n hn => hw n (by simp only [DataW.weights, hu, DataW.weightsEach, List.map_cons, List.map_nil, List.mem_append]; exact .inr (.inl hn))
      have w2 : ∀ n ∈ y2.1.weights Tryz.prog 42, n ≤ reachBytes := fun n hn => hw n (by simp only [DataW.weights, hu, DataW.weightsEach, List.map_cons, List.map_nil, List.mem_append]; exact .inr (.inr (.inl hn)))
      obtain ⟨z0, e0, -, b0⟩ := DataW.trod_int Tryz.underlying53 t0
      obtain ⟨xn, e1, p1, f1⟩ := node_sl t1 w1
      obtain ⟨xt, e2, p2, f2⟩ := task_sl t2 w2
      obtain ⟨s5, e3, e3', q5⟩ := DataW.trod_string Tryz.underlying9 t3
      obtain ⟨s6, e4, e4', q6⟩ := DataW.trod_string Tryz.underlying9 t4
      obtain ⟨z5, e5, -, b5⟩ := DataW.trod_int Tryz.underlying25 t5
      have hb := bounds_u64 b5
      obtain ⟨fe, rfl, hfe⟩ : ∃ fe : Nat, z5 = (fe : Nat) ∧ fe < 18446744073709551616 := ⟨z5.toNat, by omega, by omega⟩
      have hb0 := bounds_u8 b0
      obtain ⟨k, rfl, hk⟩ : ∃ k : Nat, z0 = (k : Nat) ∧ k < 256 := ⟨z0.toNat, by omega, by omega⟩
      cases e0
      cases e1
      cases e2
      cases e3
      cases e4
      cases e5
      exact ⟨⟨⟨0, 0, k, xn.nd, xt.td, s5, s6, fe⟩, xn.a2, xn.c2, xn.a3, xn.c3, xt.a4, xt.c4, xt.a5, xt.c5⟩, rfl, ⟨p1, p2⟩, f1, f2, ⟨q5, q6⟩, hfe, hk⟩
end
section
variable {H : Type} {enc : TypeId × Value → H} {w : World} {v : Value} {d : DataW H} {ps : List MemPlace} {base : Nat}
def OrdersArg (w : World) (v : Value) (l : List OdM) : Prop := Sl w 0 w.heap.size v l ∧ (∀ x ∈ l, DeepO w w.heap.size x ∧ FitO x.C) ∧ l.length * 264 ≤ 140737488355328
def OrderArg (w : World) (v : Value) (x : OdM) : Prop := v = .agg (odE x).toArray ∧ DeepO w w.heap.size x ∧ FitO x.C
theorem orders_of (ho : Value.okWide Tryz.prog w .any base 56 v) (hk : DataW.Trod enc Tryz.prog w 0 (fun _ => true) true 56 v d ps) (hw : ∀ n ∈ d.weights Tryz.prog 56, n ≤ reachBytes) : ∃ l, OrdersArg w v l := by
  have ht := Tryz.underlying56
  obtain ⟨a0, len0, cap0, rfl⟩ := okWide_slice ht ho
  obtain ⟨fuel, hf⟩ := hk
  obtain ⟨a, c, l, h1, h2, h3, h4⟩ := rows_of (R := fun x : OdM => DeepO w w.heap.size x ∧ FitO x.C) (B := 264) ht rfl rfl (by omega) (fun n cs y h hw => order_sl h hw) hf hw
  simp [Value.cells] at h1
  obtain ⟨rfl, rfl, rfl⟩ := h1
  exact ⟨l, h2, h3, h4⟩
theorem order_of (ho : Value.okWide Tryz.prog w .any base 55 v) (hk : DataW.Trod enc Tryz.prog w 0 (fun _ => true) true 55 v d ps) (hw : ∀ n ∈ d.weights Tryz.prog 55, n ≤ reachBytes) : ∃ x, OrderArg w v x := by
  obtain ⟨cs, rfl, hcs⟩ := okWide_struct Tryz.underlying55 ho
  obtain ⟨fuel, hf⟩ := hk
  obtain ⟨x, e, r⟩ := order_sl hf hw
  refine ⟨x, ?_, r⟩
  rcases cs with ⟨l⟩
  simp [Value.cells] at e
  rw [e]
end
end Bo
end Go.Proofs.YthbmnkeigmbbdaaGreat
