/-
  ARGUMENTS: a log, entries, ints that came in.
-/
import Derived.Test.YtndihliagcgdeaaLogOwn
import Derived.ProofKit
import Derived.SizedLaws
import Derived.Deep.Strs
namespace Go.Proofs.Ytndihliagcgdeaa
open Go.RowKit Go.WideShapes Go.ChangeShapes
namespace Lo
theorem spot_none (w : World) (a : Addr) (v : Value) (h : w.cell? a = some v) : a.spot = none := by
  unfold World.cell? at h
  split at h
  · cases hs : a.spot with
    | none => rfl
    | some q => rw [hs] at h; simp at h
  · cases h
theorem add_form (a : Addr) (i : Nat) (h : a.spot = none) : a.add i = ⟨a.block, a.off + i, none⟩ := by
  cases a with
  | mk b o s => subst h; rw [Addr.add_lit]
theorem block_add0 (a : Addr) : a.add 0 = a := by unfold Addr.add; split <;> simp_all
section
variable {H : Type} {enc : TypeId × Value → H} {P : Program} {w : World} {spare : Nat → Bool} {held : Bool}
theorem all_mem {e : TypeId} {y : DataW H} : ∀ {l : List (DataW H)}, y ∈ l → ∀ n ∈ y.weights P e, n ∈ DataW.weightsAll P e l
  | [], h, _, _ => absurd h List.not_mem_nil
  | d :: r, h, n, hn => by
    unfold DataW.weightsAll
    rcases List.mem_cons.1 h with rfl | h
    · exact List.mem_append_left _ hn
    · exact List.mem_append_right _ (all_mem h n hn)
theorem slice_len {t e : TypeId} {a b : List (DataW H)} (ht : P.underlying t = some (.slice e)) (hw : ∀ n ∈ (DataW.slice a b).weights P t, n ≤ reachBytes) : a.length * P.bytesOf e ≤ reachBytes := by
  have := hw ((a.length + b.length) * P.bytesOf e) (by simp [DataW.weights, ht])
  exact Nat.le_trans (Nat.mul_le_mul_right _ (by omega)) this
theorem bulk_one {H : Type} (d : DataW H) : 1 ≤ Rows.uptoBulk d := by
  cases d with
  | lit l => cases l <;> simp [Rows.uptoBulk]
  | nil => simp [Rows.uptoBulk]
  | ptr d => simp [Rows.uptoBulk]
  | slice elems spare => simp [Rows.uptoBulk]
  | agg parts => simp [Rows.uptoBulk]
  | iface t d => simp [Rows.uptoBulk]
  | map entries => simp [Rows.uptoBulk]
  | held h => simp [Rows.uptoBulk]
theorem bulk_len {H : Type} (l : List (DataW H)) : l.length ≤ Rows.uptoBulkAll l := by
  induction l with
  | nil => simp [Rows.uptoBulkAll]
  | cons x r ih => have := bulk_one x; simp only [Rows.uptoBulkAll, List.length_cons]; omega
theorem ints_trod {t e : TypeId} {n : Nat} {cs : List Value} {y : DataW H × List MemPlace} (ht : P.underlying t = some (.slice e)) (he : P.underlying e = some (.int .i64)) (hc : P.cellsOf e = 1)
    (h : DataW.trod enc P w 0 spare held n t cs = some y) (hby : P.bytesOf e = 8) (hw : ∀ n ∈ y.1.weights P t, n ≤ reachBytes) : ∃ v ks, cs = [v] ∧ IntsR w 0 w.heap.size v ks := by
  rcases DataW.trod_slice ht h with ⟨rfl, -⟩ | ⟨a, len, cap, elems, rest, m, -, rfl, rfl, hb, hl, hm, hlen, hel, -, -⟩
  · exact ⟨_, [], rfl, none, 0, rfl, by simp, by simp, by simp⟩
  · have hln := slice_len ht hw
    rw [hby, List.length_map, hlen] at hln
    have each : ∀ i, i < len → ∃ z : Int, w.cell? (a.add i) = some (.int .i64 z) ∧ -9223372036854775808 ≤ z ∧ z ≤ 9223372036854775807 := by
      intro i hi
      have hy := hel i hi
      rw [List.getElem?_eq_getElem (by omega : i < elems.length), hc, Nat.mul_one, Option.bind_eq_some_iff] at hy
      obtain ⟨cs', hcs, hy'⟩ := hy
      obtain ⟨z, rfl, -, hz⟩ := DataW.trod_int he hy'
      exact ⟨z, cell_of_cells?_one hcs, bounds_i64 hz⟩
    obtain ⟨ks, hkl, hks⟩ := list_of _ len each
    refine ⟨_, ks, rfl, some a, cap, by rw [hkl], by rw [hkl]; simp only [reachBytes] at hln; omega, fun x hx => ?_, fun hp => ?_⟩
    · obtain ⟨i, hi, rfl⟩ := List.getElem_of_mem hx
      exact (hks i hi).2
    · have hz := (hks 0 hp).1
      have hx := World.block_lt_of_cell? w _ hz
      have hsp : a.spot = none := by
        have := spot_none w _ _ hz
        simpa [Addr.add] using this
      refine ⟨a.block, a.off, by cases a; simp_all, Nat.zero_le _, by simpa [Addr.add] using hx, fun i hi => ?_⟩
      have k0 := (hks i hi).1
      rw [add_form a _ hsp] at k0
      exact k0
theorem trod_struct5 {t : TypeId} {f0 f1 f2 f3 f4 : Field} {n : Nat} {cs : List Value} {x : DataW H × List MemPlace} (ht : P.underlying t = some (.struct #[f0, f1, f2, f3, f4])) (hx : DataW.trod enc P w 0 spare held n t cs = some x) :
    cs.length = P.cellsOf t ∧ ∃ y0 y1 y2 y3 y4 m, x.1 = .agg [y0.1, y1.1, y2.1, y3.1, y4.1] ∧ DataW.trod enc P w 0 spare held m f0.type ((cs.drop f0.offset).take (P.cellsOf f0.type)) = some y0 ∧ DataW.trod enc P w 0 spare held m f1.type ((cs.drop f1.offset).take (P.cellsOf f1.type)) = some y1 ∧
      DataW.trod enc P w 0 spare held m f2.type ((cs.drop f2.offset).take (P.cellsOf f2.type)) = some y2 ∧ DataW.trod enc P w 0 spare held m f3.type ((cs.drop f3.offset).take (P.cellsOf f3.type)) = some y3 ∧ DataW.trod enc P w 0 spare held m f4.type ((cs.drop f4.offset).take (P.cellsOf f4.type)) = some y4 := by
  obtain ⟨xs, m, -, hd, hl, hlen, hf⟩ := DataW.trod_struct ht hx
  match xs, hlen with
  | [y0, y1, y2, y3, y4], _ =>
    exact ⟨hl, y0, y1, y2, y3, y4, m, by rw [hd]; rfl, hf 0 _ rfl, hf 1 _ rfl, hf 2 _ rfl, hf 3 _ rfl, hf 4 _ rfl⟩
end
set_option maxRecDepth 100000 in
theorem ent_trod {H : Type} {enc : TypeId × Value → H} {w : World} {cs : List Value} {y : DataW H × List MemPlace} {n : Nat} (hf : DataW.trod enc Try.prog w 0 (fun _ => true) true n 48 cs = some y) (hw : ∀ n ∈ y.1.weights Try.prog 48, n ≤ reachBytes) :
    ∃ (x : En) (u : Value), cs = [.int .u64 (x.i : Nat), .int .u64 (x.t : Nat), .int .u8 (x.k : Nat), .string x.d, u] ∧ Lt64 x.i ∧ Lt64 x.t ∧ IntsR w 0 w.heap.size u x.ks := by
  have hu := Try.underlying48
  obtain ⟨hl, y0, y1, y2, y3, y4, m, hd, t0, t1, t2, t3, t4⟩ := trod_struct5 hu hf
  have hl : cs.length = 5 := hl
  match cs, hl with
  | [c0, c1, c2, c3, c4], _ =>
    have t0 : DataW.trod enc Try.prog w 0 (fun _ => true) true m 27 [c0] = some y0 := t0
    have t1 : DataW.trod enc Try.prog w 0 (fun _ => true) true m 27 [c1] = some y1 := t1
    have t2 : DataW.trod enc Try.prog w 0 (fun _ => true) true m 46 [c2] = some y2 := t2
    have t3 : DataW.trod enc Try.prog w 0 (fun _ => true) true m 9 [c3] = some y3 := t3
    have t4 : DataW.trod enc Try.prog w 0 (fun _ => true) true m 22 [c4] = some y4 := t4
    obtain ⟨s0, e0, -, z0⟩ := DataW.trod_int Try.underlying27 t0
    obtain ⟨s1, e1, -, z1⟩ := DataW.trod_int Try.underlying27 t1
    obtain ⟨s2, e2, -, z2⟩ := DataW.trod_int Try.underlying46 t2
    obtain ⟨s3, e3, -, z3⟩ := DataW.trod_string Try.underlying9 t3
    have hw4 : ∀ n ∈ y4.1.weights Try.prog 22, n ≤ reachBytes := by
      intro n hn
      refine hw n ?_
      rw [hd]
      simp only [DataW.weights, hu, DataW.weightsEach, List.map_cons, List.map_nil, List.mem_append]
      first | exact .inr (.inr (.inr (.inr (.inl hn)))) | (simp; exact .inr (.inr hn)) | (simp; exact .inr (.inr (.inr hn))) | (simp; exact .inr hn)
    obtain ⟨u, ks, e4, hI⟩ := ints_trod Try.underlying22 Try.underlying3 rfl t4 rfl hw4
    have hx0 : 0 ≤ s0 ∧ s0 ≤ 18446744073709551615 := by simpa [Lit.wf, IntKind.min, IntKind.max, IntKind.signed, IntKind.bits] using z0
    have hx1 : 0 ≤ s1 ∧ s1 ≤ 18446744073709551615 := by simpa [Lit.wf, IntKind.min, IntKind.max, IntKind.signed, IntKind.bits] using z1
    have hx2 : 0 ≤ s2 ∧ s2 ≤ 255 := by simpa [Lit.wf, IntKind.min, IntKind.max, IntKind.signed, IntKind.bits] using z2
    obtain ⟨i, rfl⟩ := Int.eq_ofNat_of_zero_le hx0.1
    obtain ⟨t, rfl⟩ := Int.eq_ofNat_of_zero_le hx1.1
    obtain ⟨k, rfl⟩ := Int.eq_ofNat_of_zero_le hx2.1
    cases e0
    cases e1
    cases e2
    cases e3
    cases e4
    exact ⟨⟨i, t, k, s3, ks⟩, _, rfl, by unfold Lt64; show i < _; omega, by unfold Lt64; show t < _; omega, hI⟩
/-- A log that came in. -/
structure Lg where
  b : Nat
  t : Nat
  a : Option Addr
  c : Nat
  l : List En
structure LogA (w : World) (v : Value) (x : Lg) : Prop where
  is : v = .agg #[.int .u64 (x.b : Nat), .int .u64 (x.t : Nat), .slice x.a x.l.length x.c]
  sl : Sl w 0 w.heap.size x.a x.c x.l
  b64 : Lt64 x.b
  t64 : Lt64 x.t
set_option maxRecDepth 100000 in
theorem ints_of {H : Type} {enc : TypeId × Value → H} {w : World} {v : Value} {d : DataW H} {ps : List MemPlace} {base : Nat}
    (ho : Value.okWide Try.prog w .any base 22 v) (hk : DataW.Trod enc Try.prog w 0 (fun _ => true) true 22 v d ps) (hw : ∀ n ∈ d.weights Try.prog 22, n ≤ reachBytes) :
    ∃ ks, IntsR w 0 w.heap.size v ks := by
  obtain ⟨a0, len0, cap0, rfl⟩ := okWide_slice Try.underlying22 ho
  obtain ⟨fuel, hf⟩ := hk
  obtain ⟨u, ks, e, hI⟩ := ints_trod Try.underlying22 Try.underlying3 rfl hf rfl hw
  have e : [Value.slice a0 len0 cap0] = [u] := e
  cases e
  exact ⟨ks, hI⟩
/-- An integer that came in, as a natural number. -/
theorem u64_of {a : Int} (w : (Lit.int .u64 a).wf = true) : ∃ n : Nat, a = (n : Nat) ∧ Lt64 n := by
  have h : 0 ≤ a ∧ a ≤ 18446744073709551615 := by simpa [Lit.wf, IntKind.min, IntKind.max, IntKind.signed, IntKind.bits] using w
  obtain ⟨n, rfl⟩ := Int.eq_ofNat_of_zero_le h.1
  exact ⟨n, rfl, by unfold Lt64; omega⟩
theorem u8_of {a : Int} (w : (Lit.int .u8 a).wf = true) : ∃ n : Nat, a = (n : Nat) ∧ n < 256 := by
  have h : 0 ≤ a ∧ a ≤ 255 := by simpa [Lit.wf, IntKind.min, IntKind.max, IntKind.signed, IntKind.bits] using w
  obtain ⟨n, rfl⟩ := Int.eq_ofNat_of_zero_le h.1
  exact ⟨n, rfl, by omega⟩
end Lo
end Go.Proofs.Ytndihliagcgdeaa
