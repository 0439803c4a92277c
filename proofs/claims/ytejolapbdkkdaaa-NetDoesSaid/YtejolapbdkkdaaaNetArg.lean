/-
  ARGUMENTS: a net, packets, numbers that came in.
-/
import Derived.Test.YtejolapbdkkdaaaNetChk
import Derived.ProofKit
import Derived.SizedLaws
import Derived.OpenShut
import Derived.ShutString
import Derived.Deep.Strs
namespace Go.Proofs.Ytejolapbdkkdaaa
open Go.RowKit Go.WideShapes Go.ChangeShapes
namespace Nt
open Rw
theorem spot_none (w : World) (a : Addr) (v : Value) (h : w.cell? a = some v) : a.spot = none := by
  unfold World.cell? at h
  split at h
  · cases hs : a.spot with
    | none => rfl
    | some q => rw [hs] at h; simp at h
  · cases h
theorem add_form (a : Addr) (i : Nat) (h : a.spot = none) : a.add i = ⟨a.block, a.off + i, none⟩ := by
  cases a with
  | mk b o s => subst h; rw [Addr.add_lit]
theorem block_add0 (a : Addr) : a.add 0 = a := by unfold Addr.add; split <;> simp_all
theorem slice_len {H : Type} {P : Program} {t e : TypeId} {a b : List (DataW H)} (ht : P.underlying t = some (.slice e)) (hw : ∀ n ∈ (DataW.slice a b).weights P t, n ≤ reachBytes) : a.length * P.bytesOf e ≤ reachBytes := by
  have := hw ((a.length + b.length) * P.bytesOf e) (by simp [DataW.weights, ht])
  exact Nat.le_trans (Nat.mul_le_mul_right _ (by omega)) this
set_option maxRecDepth 100000 in
theorem pk_trod {H : Type} {enc : TypeId × Value → H} {w : World} {cs : List Value} {y : DataW H × List MemPlace} {n : Nat} (hf : DataW.trod enc Try.prog w 0 (fun _ => true) true n 30 cs = some y) :
    ∃ p : Pk, cs = [.int .i64 p.f, .int .i64 p.t, .string p.d] := by
  have hu := Try.underlying30
  have hl : cs.length = 3 := by
    obtain ⟨xs, m, -, hd, hl, hlen, hff⟩ := DataW.trod_struct hu hf
    exact hl
  obtain ⟨y0, y1, y2, m, hd, -, t0, t1, t2⟩ := Go.Deep.trod_struct3 hu hf
  match cs, hl with
  | [c0, c1, c2], _ =>
    have t0 : DataW.trod enc Try.prog w 0 (fun _ => true) true m 3 [c0] = some y0 := t0
    have t1 : DataW.trod enc Try.prog w 0 (fun _ => true) true m 3 [c1] = some y1 := t1
    have t2 : DataW.trod enc Try.prog w 0 (fun _ => true) true m 9 [c2] = some y2 := t2
    obtain ⟨s0, e0, -, z0⟩ := DataW.trod_int Try.underlying3 t0
    obtain ⟨s1, e1, -, z1⟩ := DataW.trod_int Try.underlying3 t1
    obtain ⟨s2, e2, -, z2⟩ := DataW.trod_string Try.underlying9 t2
    cases e0
    cases e1
    cases e2
    exact ⟨⟨s0, s1, s2⟩, rfl⟩
set_option maxRecDepth 100000 in
theorem pks_trod {H : Type} {enc : TypeId × Value → H} {w : World} {n : Nat} {cs : List Value} {y : DataW H × List MemPlace} (h : DataW.trod enc Try.prog w 0 (fun _ => true) true n 22 cs = some y) (hw : ∀ n ∈ y.1.weights Try.prog 22, n ≤ reachBytes) :
    ∃ (v : Value) (l : List Pk), cs = [v] ∧ Sl w 0 w.heap.size v l := by
  have ht := Try.underlying22
  rcases DataW.trod_slice ht h with ⟨rfl, -⟩ | ⟨a, len, cap, elems, rest, m, -, rfl, rfl, hb, hl, hm, hlen, hel, -, -⟩
  · exact ⟨_, [], rfl, Sl.nil _ _ _⟩
  · have hln := slice_len ht hw
    rw [show Try.prog.bytesOf 30 = 32 from rfl, List.length_map, hlen] at hln
    have each : ∀ i, i < len → ∃ p : Pk, w.cell? (a.add (i * 3)) = some (.int .i64 p.f) ∧ w.cell? ((a.add (i * 3)).add 1) = some (.int .i64 p.t) ∧ w.cell? ((a.add (i * 3)).add 2) = some (.string p.d) := by
      intro i hi
      have hy := hel i hi
      rw [List.getElem?_eq_getElem (by omega : i < elems.length), show Try.prog.cellsOf 30 = 3 from rfl, Option.bind_eq_some_iff] at hy
      obtain ⟨cs', hcs, hy'⟩ := hy
      obtain ⟨-, -, hcell⟩ := World.cells?_some hcs
      obtain ⟨p, e⟩ := pk_trod hy'
      subst e
      refine ⟨p, ?_, hcell 1 (by omega), hcell 2 (by omega)⟩
      have := hcell 0 (by omega)
      rw [block_add0] at this
      exact this
    obtain ⟨l, hll, hls⟩ := list_of _ len each
    refine ⟨_, l, rfl, some a, cap, by rw [hll], by rw [hll]; exact hl, (fun h => by cases h), by rw [hll]; simp only [reachBytes] at hln; omega, fun hp => ?_⟩
    have hz := (hls 0 hp).1
    have hx := World.block_lt_of_cell? w _ hz
    have hsp : a.spot = none := by
      have := spot_none w _ _ hz
      simpa [Addr.add] using this
    refine ⟨a.block, a.off, by cases a; simp_all, Nat.zero_le _, by simpa [Addr.add] using hx, fun i hi j u hj => ?_⟩
    obtain ⟨k0, k1, k2⟩ := hls i hi
    simp only [add_form a _ hsp, Addr.add_lit] at k0 k1 k2
    match j, hj with
    | 0, hj => cases hj; exact k0
    | 1, hj => cases hj; exact k1
    | 2, hj => cases hj; exact k2
    | j + 3, hj => simp [Flat.enc] at hj
set_option maxRecDepth 100000 in
theorem pks_of {H : Type} {enc : TypeId × Value → H} {w : World} {v : Value} {d : DataW H} {ps : List MemPlace} {base : Nat}
    (ho : Value.okWide Try.prog w .any base 22 v) (hk : DataW.Trod enc Try.prog w 0 (fun _ => true) true 22 v d ps) (hw : ∀ n ∈ d.weights Try.prog 22, n ≤ reachBytes) :
    ∃ l : List Pk, Sl w 0 w.heap.size v l := by
  obtain ⟨a0, len0, cap0, rfl⟩ := okWide_slice Try.underlying22 ho
  obtain ⟨fuel, hf⟩ := hk
  obtain ⟨u, l, e, hI⟩ := pks_trod hf hw
  have e : [Value.slice a0 len0 cap0] = [u] := e
  cases e
  exact ⟨l, hI⟩
/-- v is a net of the packets l. -/
def NetA (w : World) (v : Value) (l : List Pk) : Prop := ∃ u, v = .agg #[u] ∧ Sl w 0 w.heap.size u l
set_option maxRecDepth 100000 in
theorem net_of {H : Type} {enc : TypeId × Value → H} {w : World} {v : Value} {d : DataW H} {ps : List MemPlace} {base : Nat}
    (ho : Value.okWide Try.prog w .any base 24 v) (hk : DataW.Trod enc Try.prog w 0 (fun _ => true) true 24 v d ps) (hw : ∀ n ∈ d.weights Try.prog 24, n ≤ reachBytes) :
    ∃ l, NetA w v l := by
  obtain ⟨cs, rfl, hcs⟩ := okWide_struct Try.underlying24 ho
  obtain ⟨fuel, hf⟩ := hk
  have hu := Try.underlying24
  obtain ⟨xs, m, -, hd, hl, hlen, hff⟩ := DataW.trod_struct hu hf
  match xs, hlen with
  | [y0], _ =>
    have hd : d = .agg [y0.1] := by cases hd; rfl
    subst hd
    rcases cs with ⟨l⟩
    have hl2 : l.length = 1 := hcs
    match l, hl2 with
    | [c0], _ =>
      have t0 : DataW.trod enc Try.prog w 0 (fun _ => true) true m 22 [c0] = some y0 := hff 0 _ rfl
      have hw0 : ∀ n ∈ y0.1.weights Try.prog 22, n ≤ reachBytes := by
        intro n hn
        refine hw n ?_
        simp only [DataW.weights, hu, DataW.weightsEach, List.map_cons, List.map_nil, List.mem_append]
        first | exact .inr (.inl hn) | (simp; exact hn) | (simp; exact .inr hn)
      obtain ⟨u, l, e, hI⟩ := pks_trod t0 hw0
      cases e
      exact ⟨l, _, rfl, hI⟩
end Nt
end Go.Proofs.Ytejolapbdkkdaaa
