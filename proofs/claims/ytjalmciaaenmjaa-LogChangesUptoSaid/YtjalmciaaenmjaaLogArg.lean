/-
  ARGUMENTS: a log, entries, ints that came in.
-/
import Derived.Test.YtjalmciaaenmjaaLogOwn
import Derived.ProofKit
import Derived.SizedLaws
import Derived.Deep.Strs
namespace Go.Proofs.Ytjalmciaaenmjaa
open Go.RowKit Go.WideShapes Go.ChangeShapes
namespace Lo
theorem spot_none (w : World) (a : Addr) (v : Value) (h : w.cell? a = some v) : a.spot = none := by
  unfold World.cell? at h
  split at h
  · cases hs : a.spot with
    | none => rfl
    | some q => rw [hs] at h; simp at h
  · cases h
theorem add_form (a : Addr) (i : Nat) (h : a.spot = none) : a.add i = ⟨a.block, a.off + i, none⟩ := by
  cases a with
  | mk b o s => subst h; rw [Addr.add_lit]
theorem block_add0 (a : Addr) : a.add 0 = a := by unfold Addr.add; split <;> simp_all
section
variable {H : Type} {enc : TypeId × Value → H} {P : Program} {w : World} {spare : Nat → Bool} {held : Bool}
theorem all_mem {e : TypeId} {y : DataW H} : ∀ {l : List (DataW H)}, y ∈ l → ∀ n ∈ y.weights P e, n ∈ DataW.weightsAll P e l
  | [], h, _, _ => absurd h List.not_mem_nil
  | d :: r, h, n, hn => by
    unfold DataW.weightsAll
    rcases List.mem_cons.1 h with rfl | h
    · exact List.mem_append_left _ hn
    · exact List.mem_append_right _ (all_mem h n hn)
theorem slice_len {t e : TypeId} {a b : List (DataW H)} (ht : P.underlying t = some (.slice e)) (hw : ∀ n ∈ (DataW.slice a b).weights P t, n ≤ reachBytes) : a.length * P.bytesOf e ≤ reachBytes := by
  have := hw ((a.length + b.length) * P.bytesOf e) (by simp [DataW.weights, ht])
  exact Nat.le_trans (Nat.mul_le_mul_right _ (by omega)) this
theorem bulk_one {H : Type} (d : DataW H) : 1 ≤ Rows.uptoBulk d := by
  cases d with
  | lit l => cases l <;> simp [Rows.uptoBulk]
  | nil => simp [Rows.uptoBulk]
  | ptr d => simp [Rows.uptoBulk]
  | slice elems spare => simp [Rows.uptoBulk]
  | agg parts => simp [Rows.uptoBulk]
  | iface t d => simp [Rows.uptoBulk]
  | map entries => simp [Rows.uptoBulk]
  | held h => simp [Rows.uptoBulk]
theorem bulk_len {H : Type} (l : List (DataW H)) : l.length ≤ Rows.uptoBulkAll l := by
  induction l with
  | nil => simp [Rows.uptoBulkAll]
  | cons x r ih => have := bulk_one x; simp only [Rows.uptoBulkAll, List.length_cons]; omega
theorem ints_trod {t e : TypeId} {n : Nat} {cs : List Value} {y : DataW H × List MemPlace} (ht : P.underlying t = some (.slice e)) (he : P.underlying e = some (.int .i64)) (hc : P.cellsOf e = 1)
    (h : DataW.trod enc P w 0 spare held n t cs = some y) (hby : P.bytesOf e = 8) (hw : ∀ n ∈ y.1.weights P t, n ≤ reachBytes) : ∃ v ks, cs = [v] ∧ IntsR w 0 w.heap.size v ks := by
  rcases DataW.trod_slice ht h with ⟨rfl, -⟩ | ⟨a, len, cap, elems, rest, m, -, rfl, rfl, hb, hl, hm, hlen, hel, -, -⟩
  · exact ⟨_, [], rfl, none, 0, rfl, by simp, by simp, by simp⟩
  · have hln := slice_len ht hw
    rw [hby, List.length_map, hlen] at hln
    have each : ∀ i, i < len → ∃ z : Int, w.cell? (a.add i) = some (.int .i64 z) ∧ -9223372036854775808 ≤ z ∧ z ≤ 9223372036854775807 := by
      intro i hi
      have hy := hel i hi
      rw [List.getElem?_eq_getElem (by omega : i < elems.length), hc, Nat.mul_one, Option.bind_eq_some_iff] at hy
      obtain ⟨cs', hcs, hy'⟩ := hy
      obtain ⟨z, rfl, -, hz⟩ := DataW.trod_int he hy'
      exact ⟨z, cell_of_cells?_one hcs, bounds_i64 hz⟩
    obtain ⟨ks, hkl, hks⟩ := list_of _ len each
    refine ⟨_, ks, rfl, some a, cap, by rw [hkl], by rw [hkl]; simp only [reachBytes] at hln; omega, fun x hx => ?_, fun hp => ?_⟩
    · obtain ⟨i, hi, rfl⟩ := List.getElem_of_mem hx
      exact (hks i hi).2
    · have hz := (hks 0 hp).1
      have hx := World.block_lt_of_cell? w _ hz
      have hsp : a.spot = none := by
        have := spot_none w _ _ hz
        simpa [Addr.add] using this
      refine ⟨a.block, a.off, by cases a; simp_all, Nat.zero_le _, by simpa [Addr.add] using hx, fun i hi => ?_⟩
      have k0 := (hks i hi).1
      rw [add_form a _ hsp] at k0
      exact k0
theorem trod_struct5 {t : TypeId} {f0 f1 f2 f3 f4 : Field} {n : Nat} {cs : List Value} {x : DataW H × List MemPlace} (ht : P.underlying t = some (.struct #[f0, f1, f2, f3, f4])) (hx : DataW.trod enc P w 0 spare held n t cs = some x) :
    cs.length = P.cellsOf t ∧ ∃ y0 y1 y2 y3 y4 m, x.1 = .agg [y0.1, y1.1, y2.1, y3.1, y4.1] ∧ DataW.trod enc P w 0 spare held m f0.type ((cs.drop f0.offset).take (P.cellsOf f0.type)) = some y0 ∧ DataW.trod enc P w 0 spare held m f1.type ((cs.drop f1.offset).take (P.cellsOf f1.type)) = some y1 ∧
      DataW.trod enc P w 0 spare held m f2.type ((cs.drop f2.offset).take (P.cellsOf f2.type)) = some y2 ∧ DataW.trod enc P w 0 spare held m f3.type ((cs.drop f3.offset).take (P.cellsOf f3.type)) = some y3 ∧ DataW.trod enc P w 0 spare held m f4.type ((cs.drop f4.offset).take (P.cellsOf f4.type)) = some y4 := by
  obtain ⟨xs, m, -, hd, hl, hlen, hf⟩ := DataW.trod_struct ht hx
  match xs, hlen with
  | [y0, y1, y2, y3, y4], _ =>
    exact ⟨hl, y0, y1, y2, y3, y4, m, by rw [hd]; rfl, hf 0 _ rfl, hf 1 _ rfl, hf 2 _ rfl, hf 3 _ rfl, hf 4 _ rfl⟩
end
set_option maxRecDepth 100000 in
theorem ent_trod {H : Type} {enc : TypeId × Value → H} {w : World} {cs : List Value} {y : DataW H × List MemPlace} {n : Nat} (hf : DataW.trod enc Try.prog w 0 (fun _ => true) true n 53 cs = some y) (hw : ∀ n ∈ y.1.weights Try.prog 53, n ≤ reachBytes) :
    ∃ (x : En) (u : Value), cs = [.int .u64 (x.i : Nat), .int .u64 (x.t : Nat), .int .u8 (x.k : Nat), .string x.d, u] ∧ Lt64 x.i ∧ Lt64 x.t ∧ IntsR w 0 w.heap.size u x.ks := by
  have hu := Try.underlying53
  obtain ⟨hl, y0, y1, y2, y3, y4, m, hd, t0, t1, t2, t3, t4⟩ := trod_struct5 hu hf
  have hl : cs.length = 5 := hl
  match cs, hl with
  | [c0, c1, c2, c3, c4], _ =>
    have t0 : DataW.trod enc Try.prog w 0 (fun _ => true) true m 22 [c0] = some y0 := t0
    have t1 : DataW.trod enc Try.prog w 0 (fun _ => true) true m 22 [c1] = some y1 := t1
    have t2 : DataW.trod enc Try.prog w 0 (fun _ => true) true m 51 [c2] = some y2 := t2
    have t3 : DataW.trod enc Try.prog w 0 (fun _ => true) true m 9 [c3] = some y3 := t3
    have t4 : DataW.trod enc Try.prog w 0 (fun _ => true) true m 26 [c4] = some y4 := t4
    obtain ⟨s0, e0, -, z0⟩ := DataW.trod_int Try.underlying22 t0
    obtain ⟨s1, e1, -, z1⟩ := DataW.trod_int Try.underlying22 t1
    obtain ⟨s2, e2, -, z2⟩ := DataW.trod_int Try.underlying51 t2
    obtain ⟨s3, e3, -, z3⟩ := DataW.trod_string Try.underlying9 t3
    have hw4 : ∀ n ∈ y4.1.weights Try.prog 26, n ≤ reachBytes := by
      intro n hn
      refine hw n ?_
      rw [hd]
      simp only [DataW.weights, hu, DataW.weightsEach, List.map_cons, List.map_nil, List.mem_append]
      first | exact .inr (.inr (.inr (.inr (.inl hn)))) | (simp; exact .inr (.inr hn)) | (simp; exact .inr (.inr (.inr hn))) | (simp; exact .inr hn)
    obtain ⟨u, ks, e4, hI⟩ := ints_trod Try.underlying26 Try.underlying3 rfl t4 rfl hw4
    have hx0 : 0 ≤ s0 ∧ s0 ≤ 18446744073709551615 := by simpa [Lit.wf, IntKind.min, IntKind.max, IntKind.signed, IntKind.bits] using z0
    have hx1 : 0 ≤ s1 ∧ s1 ≤ 18446744073709551615 := by simpa [Lit.wf, IntKind.min, IntKind.max, IntKind.signed, IntKind.bits] using z1
    have hx2 : 0 ≤ s2 ∧ s2 ≤ 255 := by simpa [Lit.wf, IntKind.min, IntKind.max, IntKind.signed, IntKind.bits] using z2
    obtain ⟨i, rfl⟩ := Int.eq_ofNat_of_zero_le hx0.1
    obtain ⟨t, rfl⟩ := Int.eq_ofNat_of_zero_le hx1.1
    obtain ⟨k, rfl⟩ := Int.eq_ofNat_of_zero_le hx2.1
    cases e0
    cases e1
    cases e2
    cases e3
    cases e4
    exact ⟨⟨i, t, k, s3, ks⟩, _, rfl, by unfold Lt64; show i < _; omega, by unfold Lt64; show t < _; omega, hI⟩
set_option maxRecDepth 100000 in
theorem ents_trod {H : Type} {enc : TypeId × Value → H} {w : World} {n : Nat} {cs : List Value} {y : DataW H × List MemPlace} (h : DataW.trod enc Try.prog w 0 (fun _ => true) true n 23 cs = some y) (hw : ∀ n ∈ y.1.weights Try.prog 23, n ≤ reachBytes) :
    ∃ a c l, cs = [.slice a l.length c] ∧ Sl w 0 w.heap.size a c l ∧ l.length ≤ Rows.uptoBulk y.1 := by
  have ht := Try.underlying23
  rcases DataW.trod_slice ht h with ⟨rfl, -⟩ | ⟨a, len, cap, elems, rest, m, -, rfl, rfl, hb, hl, hm, hlen, hel, -, -⟩
  · exact ⟨none, 0, [], rfl, Sl.empty _ _ _ _ _ (fun _ => rfl), Nat.zero_le _⟩
  · have hln := slice_len ht hw
    rw [show Try.prog.bytesOf 53 = 64 from rfl, List.length_map, hlen] at hln
    have hwe : ∀ y ∈ elems, ∀ n ∈ y.1.weights Try.prog 53, n ≤ reachBytes := by
      intro y hy n hn
      refine hw n ?_
      have := all_mem (List.mem_map_of_mem (f := (·.1)) hy) n hn
      simp only [DataW.weights, ht, List.mem_cons, List.mem_append]
      exact .inr (.inl this)
    have each : ∀ i, i < len → ∃ x : En × Value, (w.cell? (a.add (i * 5)) = some (.int .u64 (x.1.i : Nat)) ∧ w.cell? ((a.add (i * 5)).add 1) = some (.int .u64 (x.1.t : Nat)) ∧ w.cell? ((a.add (i * 5)).add 2) = some (.int .u8 (x.1.k : Nat)) ∧ w.cell? ((a.add (i * 5)).add 3) = some (.string x.1.d) ∧ w.cell? ((a.add (i * 5)).add 4) = some x.2) ∧ Lt64 x.1.i ∧ Lt64 x.1.t ∧ IntsR w 0 w.heap.size x.2 x.1.ks := by
      intro i hi
      have hy := hel i hi
      rw [List.getElem?_eq_getElem (by omega : i < elems.length), show Try.prog.cellsOf 53 = 5 from rfl, Option.bind_eq_some_iff] at hy
      obtain ⟨cs', hcs, hy'⟩ := hy
      obtain ⟨-, -, hcell⟩ := World.cells?_some hcs
      obtain ⟨x, u, e, hx⟩ := ent_trod hy' (hwe _ (List.getElem_mem _))
      subst e
      refine ⟨(x, u), ⟨?_, hcell 1 (by omega), hcell 2 (by omega), hcell 3 (by omega), hcell 4 (by omega)⟩, hx⟩
      have := hcell 0 (by omega)
      rw [block_add0] at this
      exact this
    obtain ⟨ps, hpl, hps⟩ := list_of _ len each
    refine ⟨some a, cap, ps.map (·.1), by rw [List.length_map, hpl], ⟨fun hp => ?_, by rw [List.length_map, hpl]; exact hl, (fun e => by cases e), by rw [List.length_map, hpl]; simp only [reachBytes] at hln; omega⟩, by rw [List.length_map, hpl]; simp only [Rows.uptoBulk]; have h9 := bulk_len (elems.map (·.1)); rw [List.length_map] at h9; omega⟩
    rw [List.length_map] at hp
    have hz := (hps 0 hp).1.1
    have hx := World.block_lt_of_cell? w _ hz
    have hsp : a.spot = none := by
      have := spot_none w _ _ hz
      simpa [Addr.add] using this
    refine ⟨a.block, a.off, by cases a; simp_all, Nat.zero_le _, by simpa [Addr.add] using hx, fun i hi => ?_⟩
    rw [List.length_map] at hi
    obtain ⟨⟨k0, k1, k2, k3, k4⟩, i64, t64, hI⟩ := hps i hi
    simp only [add_form a _ hsp, Addr.add_lit] at k0 k1 k2 k3 k4
    rw [List.getElem_map]
    exact ⟨ps[i].2, k0, k1, k2, k3, k4, hI, i64, t64⟩
/-- A log that came in. -/
structure Lg where
  b : Nat
  t : Nat
  a : Option Addr
  c : Nat
  l : List En
structure LogA (w : World) (v : Value) (x : Lg) : Prop where
  is : v = .agg #[.int .u64 (x.b : Nat), .int .u64 (x.t : Nat), .slice x.a x.l.length x.c]
  sl : Sl w 0 w.heap.size x.a x.c x.l
  b64 : Lt64 x.b
  t64 : Lt64 x.t
set_option maxRecDepth 100000 in
theorem log_of2 {H : Type} {enc : TypeId × Value → H} {w : World} {v : Value} {d : DataW H} {ps : List MemPlace} {base : Nat}
    (ho : Value.okWide Try.prog w .any base 25 v) (hk : DataW.Trod enc Try.prog w 0 (fun _ => true) true 25 v d ps) (hw : ∀ n ∈ d.weights Try.prog 25, n ≤ reachBytes) :
    ∃ x, LogA w v x ∧ x.l.length ≤ Rows.uptoBulk d := by
  obtain ⟨cs, rfl, hcs⟩ := okWide_struct Try.underlying25 ho
  obtain ⟨fuel, hf⟩ := hk
  have hu := Try.underlying25
  obtain ⟨y0, y1, y2, m, hd, -, t0, t1, t2⟩ := Go.Deep.trod_struct3 hu hf
  have hd : d = .agg [y0.1, y1.1, y2.1] := by cases hd; rfl
  subst hd
  rcases cs with ⟨l⟩
  have hl2 : l.length = 3 := hcs
  match l, hl2 with
  | [c0, c1, c2], _ =>
    have t0 : DataW.trod enc Try.prog w 0 (fun _ => true) true m 22 [c0] = some y0 := t0
    have t1 : DataW.trod enc Try.prog w 0 (fun _ => true) true m 22 [c1] = some y1 := t1
    have t2 : DataW.trod enc Try.prog w 0 (fun _ => true) true m 23 [c2] = some y2 := t2
    obtain ⟨s0, e0, -, z0⟩ := DataW.trod_int Try.underlying22 t0
    obtain ⟨s1, e1, -, z1⟩ := DataW.trod_int Try.underlying22 t1
    have hw2 : ∀ n ∈ y2.1.weights Try.prog 23, n ≤ reachBytes := by
      intro n hn
      refine hw n ?_
      simp only [DataW.weights, hu, DataW.weightsEach, List.map_cons, List.map_nil, List.mem_append]
      first | exact .inr (.inr (.inl hn)) | (simp; exact .inr hn) | (simp; exact .inr (.inr hn)) | (simp; exact .inr (.inr (.inl hn)))
    obtain ⟨a, c, l, e2, hS, hbk⟩ := ents_trod t2 hw2
    have hx0 : 0 ≤ s0 ∧ s0 ≤ 18446744073709551615 := by simpa [Lit.wf, IntKind.min, IntKind.max, IntKind.signed, IntKind.bits] using z0
    have hx1 : 0 ≤ s1 ∧ s1 ≤ 18446744073709551615 := by simpa [Lit.wf, IntKind.min, IntKind.max, IntKind.signed, IntKind.bits] using z1
    obtain ⟨i, rfl⟩ := Int.eq_ofNat_of_zero_le hx0.1
    obtain ⟨t, rfl⟩ := Int.eq_ofNat_of_zero_le hx1.1
    cases e0
    cases e1
    cases e2
    exact ⟨⟨i, t, a, c, l⟩, ⟨rfl, hS, by unfold Lt64; show i < _; omega, by unfold Lt64; show t < _; omega⟩, by simp only [Rows.uptoBulk, Rows.uptoBulkAll]; show l.length ≤ _; omega⟩
theorem log_of {H : Type} {enc : TypeId × Value → H} {w : World} {v : Value} {d : DataW H} {ps : List MemPlace} {base : Nat}
    (ho : Value.okWide Try.prog w .any base 25 v) (hk : DataW.Trod enc Try.prog w 0 (fun _ => true) true 25 v d ps) (hw : ∀ n ∈ d.weights Try.prog 25, n ≤ reachBytes) :
    ∃ x, LogA w v x := by
  obtain ⟨x, h, -⟩ := log_of2 ho hk hw
  exact ⟨x, h⟩
set_option maxRecDepth 100000 in
theorem ents_of {H : Type} {enc : TypeId × Value → H} {w : World} {v : Value} {d : DataW H} {ps : List MemPlace} {base : Nat}
    (ho : Value.okWide Try.prog w .any base 23 v) (hk : DataW.Trod enc Try.prog w 0 (fun _ => true) true 23 v d ps) (hw : ∀ n ∈ d.weights Try.prog 23, n ≤ reachBytes) :
    ∃ x : Option Addr × Nat × List En, v = .slice x.1 x.2.2.length x.2.1 ∧ Sl w 0 w.heap.size x.1 x.2.1 x.2.2 ∧ x.2.2.length ≤ Rows.uptoBulk d := by
  obtain ⟨a0, len0, cap0, rfl⟩ := okWide_slice Try.underlying23 ho
  obtain ⟨fuel, hf⟩ := hk
  obtain ⟨a, c, l, e, hS, hbk⟩ := ents_trod hf hw
  have e : [Value.slice a0 len0 cap0] = [Value.slice a l.length c] := e
  cases e
  exact ⟨(_, _, l), rfl, hS, hbk⟩
set_option maxRecDepth 100000 in
theorem ints_of {H : Type} {enc : TypeId × Value → H} {w : World} {v : Value} {d : DataW H} {ps : List MemPlace} {base : Nat}
    (ho : Value.okWide Try.prog w .any base 26 v) (hk : DataW.Trod enc Try.prog w 0 (fun _ => true) true 26 v d ps) (hw : ∀ n ∈ d.weights Try.prog 26, n ≤ reachBytes) :
    ∃ ks, IntsR w 0 w.heap.size v ks := by
  obtain ⟨a0, len0, cap0, rfl⟩ := okWide_slice Try.underlying26 ho
  obtain ⟨fuel, hf⟩ := hk
  obtain ⟨u, ks, e, hI⟩ := ints_trod Try.underlying26 Try.underlying3 rfl hf rfl hw
  have e : [Value.slice a0 len0 cap0] = [u] := e
  cases e
  exact ⟨ks, hI⟩
/-- An integer that came in, as a natural number. -/
theorem u64_of {a : Int} (w : (Lit.int .u64 a).wf = true) : ∃ n : Nat, a = (n : Nat) ∧ Lt64 n := by
  have h : 0 ≤ a ∧ a ≤ 18446744073709551615 := by simpa [Lit.wf, IntKind.min, IntKind.max, IntKind.signed, IntKind.bits] using w
  obtain ⟨n, rfl⟩ := Int.eq_ofNat_of_zero_le h.1
  exact ⟨n, rfl, by unfold Lt64; omega⟩
theorem u8_of {a : Int} (w : (Lit.int .u8 a).wf = true) : ∃ n : Nat, a = (n : Nat) ∧ n < 256 := by
  have h : 0 ≤ a ∧ a ≤ 255 := by simpa [Lit.wf, IntKind.min, IntKind.max, IntKind.signed, IntKind.bits] using w
  obtain ⟨n, rfl⟩ := Int.eq_ofNat_of_zero_le h.1
  exact ⟨n, rfl, by omega⟩
end Lo
end Go.Proofs.Ytjalmciaaenmjaa
