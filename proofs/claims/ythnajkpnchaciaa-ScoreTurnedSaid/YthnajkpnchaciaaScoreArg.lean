/-
  ARGUMENTS: loads, slices of loads that came in.
-/
import Derived.Test.YthnajkpnchaciaaRigArg
namespace Go.Proofs.Ythnajkpnchaciaa
open Go.RowKit Go.WideShapes Go.ChangeShapes
namespace Rg
structure Ld where
  n : ByteArray
  h0 : Int
  h1 : Int
  h2 : Int
  la : Option Addr
  lc : Nat
  ta : Option Addr
  tc : Nat
  u0 : Int
  u1 : Int
  u2 : Int
  ls : List Pr
  ts : List Pr
/-- v is a slice of the loads l, in memory below block B. -/
def Loads (w : World) (B : Nat) (v : Value) (l : List Ld) : Prop :=
  ∃ a c, v = .slice a l.length c ∧ l.length ≤ 4611686018427387904 ∧ (∀ x ∈ l, x.n.size ≤ maxLen ∧ Pairs w B (.slice x.la x.ls.length x.lc) x.ls ∧ Pairs w B (.slice x.ta x.ts.length x.tc) x.ts) ∧
    (0 < l.length → ∃ b off, a = some ⟨b, off, none⟩ ∧ b < B ∧ ∀ i (h : i < l.length),
      w.cell? ⟨b, off + i * 9, none⟩ = some (.string l[i].n) ∧ w.cell? ⟨b, off + i * 9 + 1, none⟩ = some (.int .i64 l[i].h0) ∧ w.cell? ⟨b, off + i * 9 + 2, none⟩ = some (.int .i64 l[i].h1) ∧
      w.cell? ⟨b, off + i * 9 + 3, none⟩ = some (.int .i64 l[i].h2) ∧ w.cell? ⟨b, off + i * 9 + 4, none⟩ = some (.slice l[i].la l[i].ls.length l[i].lc) ∧ w.cell? ⟨b, off + i * 9 + 5, none⟩ = some (.slice l[i].ta l[i].ts.length l[i].tc) ∧
      w.cell? ⟨b, off + i * 9 + 6, none⟩ = some (.int .i64 l[i].u0) ∧ w.cell? ⟨b, off + i * 9 + 7, none⟩ = some (.int .i64 l[i].u1) ∧ w.cell? ⟨b, off + i * 9 + 8, none⟩ = some (.int .i64 l[i].u2))
theorem Loads.keep {w w' : World} {B : Nat} {v : Value} {l : List Ld} (h : Loads w B v l) (hb : Below B w w') : Loads w' B v l := by
  obtain ⟨a, c, rfl, h1, h2, h3⟩ := h
  refine ⟨a, c, rfl, h1, fun x hx => ⟨(h2 x hx).1, (h2 x hx).2.1.keep hb, (h2 x hx).2.2.keep hb⟩, fun hp => ?_⟩
  obtain ⟨b, off, rfl, hlt, hc⟩ := h3 hp
  refine ⟨b, off, rfl, hlt, fun i hi => ?_⟩
  have k : ∀ o, w'.cell? ⟨b, o, none⟩ = w.cell? ⟨b, o, none⟩ := fun o => hb.cell (by exact hlt)
  simp only [k]
  exact hc i hi
theorem Loads.more {w : World} {B B' : Nat} {v : Value} {l : List Ld} (h : Loads w B v l) (hb : B ≤ B') : Loads w B' v l := by
  obtain ⟨a, c, rfl, h1, h2, h3⟩ := h
  refine ⟨a, c, rfl, h1, fun x hx => ⟨(h2 x hx).1, (h2 x hx).2.1.more hb, (h2 x hx).2.2.more hb⟩, fun hp => ?_⟩
  obtain ⟨b, off, rfl, hlt, hc⟩ := h3 hp
  exact ⟨b, off, rfl, by omega, hc⟩
theorem Loads.over {w w' : World} {v : Value} {l : List Ld} (h : Loads w w.heap.size v l) (hb : Below w.heap.size w w') : Loads w' w'.heap.size v l := (h.keep hb).more hb.size
theorem Loads.none_ (w : World) (B : Nat) : Loads w B (.slice none 0 0) [] := ⟨none, 0, rfl, by simp, by simp, by simp⟩
theorem Loads.slice {w : World} {B : Nat} {v : Value} {l : List Ld} (h : Loads w B v l) : ∃ a c, v = .slice a l.length c := by
  obtain ⟨a, c, rfl, -⟩ := h
  exact ⟨a, c, rfl⟩
section
variable {H : Type} {enc : TypeId × Value → H} {w : World} {spare : Nat → Bool} {held : Bool}
theorem load_cs {n : Nat} {cs : List Value} {y : DataW H × List MemPlace} (h : DataW.trod enc Try.prog w 0 spare held n 29 cs = some y) (hw : ∀ n ∈ y.1.weights Try.prog 29, n ≤ reachBytes) :
    ∃ x : Ld, cs = [.string x.n, .int .i64 x.h0, .int .i64 x.h1, .int .i64 x.h2, .slice x.la x.ls.length x.lc, .slice x.ta x.ts.length x.tc, .int .i64 x.u0, .int .i64 x.u1, .int .i64 x.u2] ∧
      x.n.size ≤ maxLen ∧ Pairs w w.heap.size (.slice x.la x.ls.length x.lc) x.ls ∧ Pairs w w.heap.size (.slice x.ta x.ts.length x.tc) x.ts ∧ (In64 x.u0 ∧ In64 x.u1 ∧ In64 x.u2) := by
  have hu := Try.underlying29
  obtain ⟨xs, m, -, rfl, hl, hlen, hf⟩ := DataW.trod_struct hu h
  match xs, hlen with
  | [y0, y1], _ =>
    have hl2 : cs.length = 9 := hl
    match cs, hl2 with
    | [c0, c1, c2, c3, c4, c5, c6, c7, c8], _ =>
      have t0 : DataW.trod enc Try.prog w 0 spare held m 27 [c0, c1, c2, c3, c4, c5] = some y0 := hf 0 _ rfl
      have t1 : DataW.trod enc Try.prog w 0 spare held m 22 [c6, c7, c8] = some y1 := hf 1 _ rfl
      have w0 : ∀ n ∈ y0.1.weights Try.prog 27, n ≤ reachBytes := fun n hn => hw n (by simp only [DataW.weights, hu, DataW.weightsEach, List.map_cons, List.map_nil, List.mem_append]; exact .inl hn)
      obtain ⟨xn, x0, x1, x2, a2, k2, a3, k3, ls, ts, e0, z0, ⟨b0, b1, b2⟩, p2, p3, l2, l3⟩ := node_cs t0 w0
      obtain ⟨u0, u1, u2, e1, d0, d1, d2⟩ := arr_cs rfl t1
      cases e0
      cases e1
      exact ⟨⟨xn, x0, x1, x2, a2, k2, a3, k3, u0, u1, u2, ls, ts⟩, rfl, z0, p2, p3, d0, d1, d2⟩
end
section
variable {H : Type} {enc : TypeId × Value → H} {w : World} {v : Value} {d : DataW H} {ps : List MemPlace} {base : Nat}
theorem load_of (ho : Value.okWide Try.prog w .any base 29 v) (hk : DataW.Trod enc Try.prog w 0 (fun _ => true) true 29 v d ps) (hw : ∀ n ∈ d.weights Try.prog 29, n ≤ reachBytes) :
    ∃ x : Ld, v = .agg #[.string x.n, .int .i64 x.h0, .int .i64 x.h1, .int .i64 x.h2, .slice x.la x.ls.length x.lc, .slice x.ta x.ts.length x.tc, .int .i64 x.u0, .int .i64 x.u1, .int .i64 x.u2] ∧
      x.n.size ≤ maxLen ∧ Pairs w w.heap.size (.slice x.la x.ls.length x.lc) x.ls ∧ Pairs w w.heap.size (.slice x.ta x.ts.length x.tc) x.ts ∧ (In64 x.u0 ∧ In64 x.u1 ∧ In64 x.u2) := by
  obtain ⟨cs, rfl, hcs⟩ := okWide_struct Try.underlying29 ho
  obtain ⟨fuel, hf⟩ := hk
  obtain ⟨x, e, r⟩ := load_cs hf hw
  refine ⟨x, ?_, r⟩
  rcases cs with ⟨l⟩
  simp [Value.cells] at e
  rw [e]
theorem loads_of (ho : Value.okWide Try.prog w .any base 36 v) (hk : DataW.Trod enc Try.prog w 0 (fun _ => true) true 36 v d ps) (hw : ∀ n ∈ d.weights Try.prog 36, n ≤ reachBytes) :
    ∃ l, Loads w w.heap.size v l ∧ l.length * 112 ≤ reachBytes := by
  have ht := Try.underlying36
  obtain ⟨a0, len0, cap0, rfl⟩ := okWide_slice ht ho
  obtain ⟨fuel, hf⟩ := hk
  rcases DataW.trod_slice ht hf with ⟨hcs, -⟩ | ⟨a, len, cap, elems, rest, m, -, hcs, hx, hb, hl, hm, hlen, hel, -, -⟩
  · simp [Value.cells] at hcs
    obtain ⟨rfl, rfl, rfl⟩ := hcs
    exact ⟨[], Loads.none_ _ _, by simp⟩
  · simp [Value.cells] at hcs
    obtain ⟨rfl, rfl, rfl⟩ := hcs
    cases hx
    have hln := slice_len ht hw
    rw [show Try.prog.bytesOf 29 = 112 from rfl, List.length_map, hlen] at hln
    have hwe : ∀ y ∈ elems, ∀ n ∈ y.1.weights Try.prog 29, n ≤ reachBytes := by
      intro y hy n hn
      refine hw n ?_
      have := all_mem (List.mem_map_of_mem (f := (·.1)) hy) n hn
      simp only [DataW.weights, ht, List.mem_cons, List.mem_append]
      exact .inr (.inl this)
    have each : ∀ i, i < len0 → ∃ x : Ld, (w.cell? (a.add (i * 9)) = some (.string x.n) ∧ w.cell? ((a.add (i * 9)).add 1) = some (.int .i64 x.h0) ∧ w.cell? ((a.add (i * 9)).add 2) = some (.int .i64 x.h1) ∧
        w.cell? ((a.add (i * 9)).add 3) = some (.int .i64 x.h2) ∧ w.cell? ((a.add (i * 9)).add 4) = some (.slice x.la x.ls.length x.lc) ∧ w.cell? ((a.add (i * 9)).add 5) = some (.slice x.ta x.ts.length x.tc) ∧
        w.cell? ((a.add (i * 9)).add 6) = some (.int .i64 x.u0) ∧ w.cell? ((a.add (i * 9)).add 7) = some (.int .i64 x.u1) ∧ w.cell? ((a.add (i * 9)).add 8) = some (.int .i64 x.u2)) ∧
        x.n.size ≤ maxLen ∧ Pairs w w.heap.size (.slice x.la x.ls.length x.lc) x.ls ∧ Pairs w w.heap.size (.slice x.ta x.ts.length x.tc) x.ts := by
      intro i hi
      have hy := hel i hi
      rw [List.getElem?_eq_getElem (by omega : i < elems.length), show Try.prog.cellsOf 29 = 9 from rfl, Option.bind_eq_some_iff] at hy
      obtain ⟨cs', hcs, hy'⟩ := hy
      obtain ⟨x, rfl, z0, p2, p3, -⟩ := load_cs hy' (hwe _ (List.getElem_mem _))
      obtain ⟨-, -, hcell⟩ := World.cells?_some hcs
      refine ⟨x, ⟨?_, hcell 1 (by omega), hcell 2 (by omega), hcell 3 (by omega), hcell 4 (by omega), hcell 5 (by omega), hcell 6 (by omega), hcell 7 (by omega), hcell 8 (by omega)⟩, z0, p2, p3⟩
      have := hcell 0 (by omega)
      rw [block_add0] at this
      exact this
    obtain ⟨ts, hfl, hfs⟩ := list_of _ len0 each
    refine ⟨ts, ⟨some a, cap0, by rw [hfl], by rw [hfl]; simp only [reachBytes] at hln; omega, fun t ht => ?_, fun hp => ?_⟩, by rw [hfl]; exact hln⟩
    · obtain ⟨i, hi, rfl⟩ := List.getElem_of_mem ht
      exact (hfs i hi).2
    · have hz := (hfs 0 hp).1.1
      have hx := World.block_lt_of_cell? w _ hz
      have hsp : a.spot = none := by
        have := spot_none w _ _ hz
        simpa [Addr.add] using this
      refine ⟨a.block, a.off, by cases a; simp_all, by simpa [Addr.add] using hx, fun i hi => ?_⟩
      have hh := (hfs i hi).1
      simp only [add_form a _ hsp, Addr.add_lit] at hh
      exact hh
end
end Rg
end Go.Proofs.Ythnajkpnchaciaa
