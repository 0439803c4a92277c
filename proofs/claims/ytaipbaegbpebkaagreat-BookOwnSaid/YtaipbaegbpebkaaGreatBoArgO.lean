/-
  ARGUMENTS: slices of orders that came in.
-/
import Derived.Test.YtaipbaegbpebkaaGreatBoArg
namespace Go.Proofs.YtaipbaegbpebkaaGreat
open Go.RowKit Go.WideShapes Go.ChangeShapes
namespace Bo
open Rw Rg
set_option linter.unusedVariables false
set_option maxRecDepth 100000
/-- An order as it lies in a row. -/
structure OdM where
  C : Hd.Cd
  a2 : Option Addr
  c2 : Nat
  a3 : Option Addr
  c3 : Nat
  a4 : Option Addr
  c4 : Nat
  a5 : Option Addr
  c5 : Nat
def odE (x : OdM) : List Value := [.int .u8 (x.C.k : Nat), .string x.C.nd.n, .int .i64 x.C.nd.z0, .int .i64 x.C.nd.z1, .int .i64 x.C.nd.z2, .slice x.a2 x.C.nd.ls.length x.c2, .slice x.a3 x.C.nd.ts.length x.c3, .string x.C.td.n, .int .i64 x.C.td.z0, .int .i64 x.C.td.z1, .int .i64 x.C.td.z2, .slice x.a4 x.C.td.ws.length x.c4, .slice x.a5 x.C.td.bs.length x.c5, .string x.C.td.g, .string x.C.td.a, .int .i64 x.C.td.r, .string x.C.na, .string x.C.on, .int .u64 (x.C.fe : Nat)]
theorem odE_one (x : OdM) : ∀ u ∈ odE x, u.oneCell' = true := List.all_eq_true.1 (show List.all (odE x) (fun v => v.oneCell') = true from rfl)
instance : Rw.Flat OdM := ⟨odE, 19, by omega, fun _ => rfl, odE_one⟩
def OdM.n (x : OdM) : NdM := ⟨x.C.nd, x.a2, x.c2, x.a3, x.c3⟩
def OdM.t (x : OdM) : TdM := ⟨x.C.td, x.a4, x.c4, x.a5, x.c5⟩
/-- What an order must bear to be in memory, and where its pairs are. -/
structure DeepO (w : World) (B : Nat) (x : OdM) : Prop where
  hn : DeepN w B x.n
  ht : DeepT w B x.t
structure FitO (C : Hd.Cd) : Prop where
  fn : FitN C.nd
  ft : FitT C.td
  fb : FitB ⟨C.na, C.on⟩
  ff : C.fe < 18446744073709551616
  fk : C.k < 256
theorem DeepO.keep {w w' : World} {B : Nat} {x : OdM} (h : DeepO w B x) (hb : Below B w w') : DeepO w' B x := ⟨h.hn.keep hb, h.ht.keep hb⟩
theorem DeepO.on {w w' : World} {x : OdM} (h : DeepO w w.heap.size x) (hb : Below w.heap.size w w') : DeepO w' w'.heap.size x := ⟨h.hn.on hb, h.ht.on hb⟩
section
variable {H : Type} {enc : TypeId × Value → H} {w : World} {spare : Nat → Bool} {held : Bool}
set_option maxHeartbeats 1000000 in
theorem order_sl {n : Nat} {cs : List Value} {y : DataW H × List MemPlace} (h : DataW.trod enc Tryz.prog w 0 spare held n 36 cs = some y) (hw : ∀ n ∈ y.1.weights Tryz.prog 36, n ≤ reachBytes) :
    ∃ x : OdM, cs = odE x ∧ DeepO w w.heap.size x ∧ FitO x.C := by
  have hu := Tryz.underlying36
  obtain ⟨xs, m, -, rfl, hl, hlen, hf⟩ := DataW.trod_struct hu h
  match xs, hlen with
  | [y0, y1, y2, y3, y4, y5], _ =>
    have hl2 : cs.length = 19 := hl
    match cs, hl2 with
    | [c0, c1, c2, c3, c4, c5, c6, c7, c8, c9, c10, c11, c12, c13, c14, c15, c16, c17, c18], _ =>
      have t0 : DataW.trod enc Tryz.prog w 0 spare held m 28 [c0] = some y0 := hf 0 _ rfl
      have t1 : DataW.trod enc Tryz.prog w 0 spare held m 32 [c1, c2, c3, c4, c5, c6] = some y1 := hf 1 _ rfl
      have t2 : DataW.trod enc Tryz.prog w 0 spare held m 34 [c7, c8, c9, c10, c11, c12, c13, c14, c15] = some y2 := hf 2 _ rfl
      have t3 : DataW.trod enc Tryz.prog w 0 spare held m 9 [c16] = some y3 := hf 3 _ rfl
      have t4 : DataW.trod enc Tryz.prog w 0 spare held m 9 [c17] = some y4 := hf 4 _ rfl
      have t5 : DataW.trod enc Tryz.prog w 0 spare held m 25 [c18] = some y5 := hf 5 _ rfl
      have w1 : ∀ n ∈ y1.1.weights Tryz.prog 32, n ≤ reachBytes := fun n hn => hw n (by simp only [DataW.weights, hu, DataW.weightsEach, List.map_cons, List.map_nil, List.mem_append]; exact .inr (.inl hn))
      have w2 : ∀ n ∈ y2.1.weights Tryz.prog 34, n ≤ reachBytes := fun n hn => hw n (by simp only [DataW.weights, hu, DataW.weightsEach, List.map_cons, List.map_nil, List.mem_append]; exact .inr (.inr (.inl hn)))
      obtain ⟨z0, e0, -, b0⟩ := DataW.trod_int Tryz.underlying28 t0
      obtain ⟨xn, e1, p1, f1⟩ := node_sl t1 w1
      obtain ⟨xt, e2, p2, f2⟩ := task_sl t2 w2
      obtain ⟨s5, e3, e3', q5⟩ := DataW.trod_string Tryz.underlying9 t3
      obtain ⟨s6, e4, e4', q6⟩ := DataW.trod_string Tryz.underlying9 t4
      obtain ⟨z5, e5, -, b5⟩ := DataW.trod_int Tryz.underlying25 t5
      have hb := bounds_u64 b5
      obtain ⟨fe, rfl, hfe⟩ : ∃ fe : Nat, z5 = (fe : Nat) ∧ fe < 18446744073709551616 := ⟨z5.toNat, by omega, by omega⟩
      have hb0 := bounds_u8 b0
      obtain ⟨k, rfl, hk⟩ : ∃ k : Nat, z0 = (k : Nat) ∧ k < 256 := ⟨z0.toNat, by omega, by omega⟩
      cases e0
      cases e1
      cases e2
      cases e3
      cases e4
      cases e5
      exact ⟨⟨⟨0, 0, k, xn.nd, xt.td, s5, s6, fe⟩, xn.a2, xn.c2, xn.a3, xn.c3, xt.a4, xt.c4, xt.a5, xt.c5⟩, rfl, ⟨p1, p2⟩, f1, f2, ⟨q5, q6⟩, hfe, hk⟩
end
section
variable {H : Type} {enc : TypeId × Value → H} {w : World} {v : Value} {d : DataW H} {ps : List MemPlace} {base : Nat}
def OrdersArg (w : World) (v : Value) (l : List OdM) : Prop := Sl w 0 w.heap.size v l ∧ (∀ x ∈ l, DeepO w w.heap.size x ∧ FitO x.C) ∧ l.length * 264 ≤ 140737488355328
def OrderArg (w : World) (v : Value) (x : OdM) : Prop := v = .agg (odE x).toArray ∧ DeepO w w.heap.size x ∧ FitO x.C
theorem orders_of (ho : Value.okWide Tryz.prog w .any base 54 v) (hk : DataW.Trod enc Tryz.prog w 0 (fun _ => true) true 54 v d ps) (hw : ∀ n ∈ d.weights Tryz.prog 54, n ≤ reachBytes) : ∃ l, OrdersArg w v l := by
  have ht := Tryz.underlying54
  obtain ⟨a0, len0, cap0, rfl⟩ := okWide_slice ht ho
  obtain ⟨fuel, hf⟩ := hk
  obtain ⟨a, c, l, h1, h2, h3, h4⟩ := rows_of (R := fun x : OdM => DeepO w w.heap.size x ∧ FitO x.C) (B := 264) ht rfl rfl (by omega) (fun n cs y h hw => order_sl h hw) hf hw
  simp [Value.cells] at h1
  obtain ⟨rfl, rfl, rfl⟩ := h1
  exact ⟨l, h2, h3, h4⟩
theorem order_of (ho : Value.okWide Tryz.prog w .any base 36 v) (hk : DataW.Trod enc Tryz.prog w 0 (fun _ => true) true 36 v d ps) (hw : ∀ n ∈ d.weights Tryz.prog 36, n ≤ reachBytes) : ∃ x, OrderArg w v x := by
  obtain ⟨cs, rfl, hcs⟩ := okWide_struct Tryz.underlying36 ho
  obtain ⟨fuel, hf⟩ := hk
  obtain ⟨x, e, r⟩ := order_sl hf hw
  refine ⟨x, ?_, r⟩
  rcases cs with ⟨l⟩
  simp [Value.cells] at e
  rw [e]
end
end Bo
end Go.Proofs.YtaipbaegbpebkaaGreat
