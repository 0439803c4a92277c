/-
  WALK of the law on nodes without taints, and on what wants some of a node's labels.
-/
import Derived.Test.YtgnkaijaoaailaaRigSuit2
namespace Go.Proofs.Ytgnkaijaoaailaa
open Go.RowKit
namespace Rg
theorem eqP_refl (p : Pr) : eqP p p = true := by simp [eqP]
theorem isIn_self (l : List Pr) (p : Pr) (h : p ∈ l) : isIn l p = true := by
  unfold isIn
  rw [List.any_eq_true]
  exact ⟨p, h, eqP_refl p⟩
theorem among_self (l : List Pr) : amongB l l = true := by
  unfold amongB
  rw [List.all_eq_true]
  exact fun p hp => isIn_self l p hp
theorem suit_one (ls ts : List Pr) (i : Nat) (h : i < ls.length) : suitB [ls[i]] ls ts ts = true := by
  unfold suitB
  rw [among_self]
  simp [amongB, isIn_self ls ls[i] (List.getElem_mem h)]
theorem suit_plain (ls : List Pr) : suitB [] ls [] [] = true := by simp [suitB, amongB]
/-- One pair of some. -/
theorem Pairs.one {w : World} {B : Nat} {b off c c2 i : Nat} {ls : List Pr} (h : Pairs w B (.slice (some ⟨b, off, none⟩) ls.length c) ls) (hi : i < ls.length) : Pairs w B (.slice (some ⟨b, off + i * 2, none⟩) 1 c2) [ls[i]] := by
  obtain ⟨a, c3, e, h1, h2, h3⟩ := h
  obtain ⟨b', off', rfl, hlt, hc⟩ := h3 (by omega)
  simp only [Value.slice.injEq, Option.some.injEq, Addr.mk.injEq] at e
  obtain ⟨⟨rfl, rfl, -⟩, -, -⟩ := e
  refine ⟨_, _, rfl, by simp, fun p hp => ?_, fun _ => ⟨_, _, rfl, hlt, fun j hj => ?_⟩⟩
  · obtain rfl := List.mem_singleton.1 hp
    exact h2 _ (List.getElem_mem hi)
  · obtain rfl : j = 0 := by simpa using hj
    exact hc i hi
set_option maxRecDepth 100000 in
set_option maxHeartbeats 2000000 in
theorem rigOwn (xn : ByteArray) (x0 x1 x2 : Int) (xla xta : Option Addr) (xln xlc xtn xtc : Nat) (yn yg ya : ByteArray) (y0 y1 y2 yr : Int) (ywa yba : Option Addr) (ywn ywc ybn ybc : Nat) (i : Int) (ls ts : List Pr) (w : World) (hin : ls.length = xln) (h1 : Pairs w w.heap.size (.slice xla xln xlc) ls) (h2 : Pairs w w.heap.size (.slice xta xtn xtc) ts) (hc : xln ≤ xlc ∧ xlc ≤ maxLen) :
    Calls Try.prog 10 #[.agg #[.string xn, .int .i64 x0, .int .i64 x1, .int .i64 x2, .slice xla xln xlc, .slice xta xtn xtc], .agg #[.string yn, .int .i64 y0, .int .i64 y1, .int .i64 y2, .slice ywa ywn ywc, .slice yba ybn ybc, .string yg, .string ya, .int .i64 yr], .int .i64 i] w fun e w' => e = .returned (.bool true) ∧ Below w.heap.size w w' := by
  obtain ⟨hc1, hc2⟩ := hc
  unfold maxLen at hc2
  have H1 := Lib.hid h1
  have H2 := Lib.hid h2
  clear h1 h2
  have HB0 := Lib.hid (two w (.cells #[.string xn, .int .i64 x0, .int .i64 x1, .int .i64 x2, .slice xla xln xlc, .slice xta xtn xtc] 27) (.cells #[.string yn, .int .i64 y0, .int .i64 y1, .int .i64 y2, .slice ywa ywn ywc, .slice yba ybn ybc, .string yg, .string ya, .int .i64 yr] 29))
  go_enter Try.func10, Try.ntmps10
  go_wp2_with fail
  refine (suits_true _).mono ?_
  rintro e w1 ⟨rfl, hb⟩
  obtain ⟨c0, c1, hbw⟩ := boxed hb
  have hz := hb.size
  simp at hz
  have HB := Lib.hid hbw
  have HIN := Lib.hid hin
  clear hb hbw hin
  have q0 : ∀ o i, (w1.alloc o).cell? ⟨w.heap.size, i, none⟩ = #[.string xn, .int .i64 x0, .int .i64 x1, .int .i64 x2, .slice xla xln xlc, .slice xta xtn xtc][i]? := fun o i => by rw [World.cell?_alloc_lt _ _ _ (by show w.heap.size < _; omega)]; exact c0 i
  have HT := Lib.hid (fun o o' o'' u => show Below w1.heap.size w1 (((w1.alloc o).alloc o').setCell ⟨w1.heap.size + 1, 5, none⟩ u) from ((two w1 o o').setCell (by show w1.heap.size ≤ w1.heap.size + 1; omega) u))
  go_wp2_with fail
  refine (suits_at (r := true) (suit_plain ls) (Pairs.none_ _ _) (Pairs.none_ _ _) (H1.out.over (HB.out.trans ((two w1 _ _).mono HB.out.size))) (Pairs.none_ _ _)).mono ?_
  rintro e w2 ⟨rfl, hb⟩
  have hz2 := hb.size
  simp at hz2
  have d0 : w2.cell? ⟨w.heap.size, 0, none⟩ = some (.string xn) ∧ w2.cell? ⟨w.heap.size, 1, none⟩ = some (.int .i64 x0) ∧ w2.cell? ⟨w.heap.size, 2, none⟩ = some (.int .i64 x1) ∧ w2.cell? ⟨w.heap.size, 3, none⟩ = some (.int .i64 x2) ∧ w2.cell? ⟨w.heap.size, 4, none⟩ = some (.slice xla xln xlc) ∧ w2.cell? ⟨w.heap.size, 5, none⟩ = some (.slice xta xtn xtc) := by
    refine ⟨?_, ?_, ?_, ?_, ?_, ?_⟩ <;> (rw [hb.cell (by simp; omega), World.cell?_alloc_lt _ _ _ (by simp; omega), q0]; rfl)
  obtain ⟨a0, a1, a2, a3, a4, a5⟩ := d0
  have HB2 := Lib.hid (HB.out.trans ((((two w1 _ _).mono HB.out.size).trans (hb.mono (by simp; omega)))))
  clear hb q0 c0 c1 HT
  by_cases h0 : i < 0
  · go_wp2
    go_ret
    exact ⟨rfl, HB2.out⟩
  · by_cases h1 : (xln : Int) ≤ i
    · have h0' : decide (i < 0) = false := by simpa using h0
      go_wp2
      go_ret
      exact ⟨rfl, HB2.out⟩
    · obtain ⟨k, rfl⟩ : ∃ k : Nat, i = k := ⟨i.toNat, by omega⟩
      have hk : k < ls.length := by rw [HIN.out]; omega
      obtain ⟨b, off, rfl⟩ : ∃ b off, xla = some ⟨b, off, none⟩ := by
        obtain ⟨a, c3, e, -, -, h3⟩ := H1.out
        obtain ⟨b, off, rfl, -⟩ := h3 (by omega)
        simp only [Value.slice.injEq] at e
        exact ⟨b, off, e.1⟩
      have HP : Hid (Pairs w w.heap.size (.slice (some ⟨b, off + k * 2, none⟩) 1 (xlc - k)) [ls[k]]) := by
        have := H1.out
        rw [← HIN.out] at this
        exact this.one hk
      have hk2 : (k : Int) < (xln : Int) := by have := HIN.out; omega
      have t1 : (0 : Int) ≤ (k : Int) := by omega
      have t2 : IntKind.i64.wrap ((k : Int) + 1) = (k : Int) + 1 := by rw [IntKind.wrap_i64]; omega
      have t3 : (k : Int) + 1 ≤ (xlc : Int) := by omega
      have t4 : (k : Int) ≤ (k : Int) + 1 := by omega
      have t5 : ((k : Int) + 1).toNat = k + 1 := by omega
      have t6 : k + 1 - k = 1 := by omega
      have t7 : ¬ xlc = k := by omega
      have KB : Hid (∀ z, (z.cell? ⟨w.heap.size, 0, none⟩ = some (.string xn) ∧ z.cell? ⟨w.heap.size, 1, none⟩ = some (.int .i64 x0) ∧ z.cell? ⟨w.heap.size, 2, none⟩ = some (.int .i64 x1) ∧ z.cell? ⟨w.heap.size, 3, none⟩ = some (.int .i64 x2) ∧ z.cell? ⟨w.heap.size, 4, none⟩ = some (.slice (some ⟨b, off, none⟩) xln xlc) ∧ z.cell? ⟨w.heap.size, 5, none⟩ = some (.slice xta xtn xtc) ∧ Hid (Below w2.heap.size w2 z)) → Below w.heap.size w z) := by
        intro x h
        exact HB2.out.trans (h.2.2.2.2.2.2.out.mono HB2.out.size)
      have K1 : Hid (∀ z, (z.cell? ⟨w.heap.size, 0, none⟩ = some (.string xn) ∧ z.cell? ⟨w.heap.size, 1, none⟩ = some (.int .i64 x0) ∧ z.cell? ⟨w.heap.size, 2, none⟩ = some (.int .i64 x1) ∧ z.cell? ⟨w.heap.size, 3, none⟩ = some (.int .i64 x2) ∧ z.cell? ⟨w.heap.size, 4, none⟩ = some (.slice (some ⟨b, off, none⟩) xln xlc) ∧ z.cell? ⟨w.heap.size, 5, none⟩ = some (.slice xta xtn xtc) ∧ Hid (Below w2.heap.size w2 z)) → Calls Try.prog 20 #[.agg #[.string ⟨#[]⟩, .int .i64 0, .int .i64 0, .int .i64 0, .slice (some ⟨b, off + k * 2, none⟩) 1 (xlc - k), .slice xta xtn xtc, .string ⟨#[]⟩, .string ⟨#[]⟩, .int .i64 0], .agg #[.string xn, .int .i64 x0, .int .i64 x1, .int .i64 x2, .slice (some ⟨b, off, none⟩) xln xlc, .slice xta xtn xtc]] z fun e x' => e = .returned (.bool true) ∧ (x'.cell? ⟨w.heap.size, 0, none⟩ = some (.string xn) ∧ x'.cell? ⟨w.heap.size, 1, none⟩ = some (.int .i64 x0) ∧ x'.cell? ⟨w.heap.size, 2, none⟩ = some (.int .i64 x1) ∧ x'.cell? ⟨w.heap.size, 3, none⟩ = some (.int .i64 x2) ∧ x'.cell? ⟨w.heap.size, 4, none⟩ = some (.slice (some ⟨b, off, none⟩) xln xlc) ∧ x'.cell? ⟨w.heap.size, 5, none⟩ = some (.slice xta xtn xtc) ∧ Hid (Below w2.heap.size w2 x'))) := by
        intro x h
        have hw := KB.out x h
        refine (suits_at (r := true) (suit_one ls ts k hk) (HP.out.over hw) (H2.out.over hw) (H1.out.over hw) (H2.out.over hw)).mono fun e x' ⟨he, hb⟩ => ⟨he, ?_⟩
        obtain ⟨a0, a1, a2, a3, a4, a5, hS⟩ := h
        have hz := hS.out.size
        have k0 : ∀ i, x'.cell? ⟨w.heap.size, i, none⟩ = x.cell? ⟨w.heap.size, i, none⟩ := fun i => hb.cell (by show w.heap.size < _; omega)
        simp only [k0]
        exact ⟨a0, a1, a2, a3, a4, a5, hS.out.trans (hb.mono hz)⟩
      have KD : Hid (w2.drew.cell? ⟨w.heap.size, 0, none⟩ = some (.string xn) ∧ w2.drew.cell? ⟨w.heap.size, 1, none⟩ = some (.int .i64 x0) ∧ w2.drew.cell? ⟨w.heap.size, 2, none⟩ = some (.int .i64 x1) ∧ w2.drew.cell? ⟨w.heap.size, 3, none⟩ = some (.int .i64 x2) ∧ w2.drew.cell? ⟨w.heap.size, 4, none⟩ = some (.slice (some ⟨b, off, none⟩) xln xlc) ∧ w2.drew.cell? ⟨w.heap.size, 5, none⟩ = some (.slice xta xtn xtc) ∧ Hid (Below w2.heap.size w2 w2.drew)) := ⟨a0, a1, a2, a3, a4, a5, bdN (Below.refl _ _) 1⟩
      have h0' : decide ((k : Int) < 0) = false := by simp
      have h1' : decide ((xln : Int) ≤ (k : Int)) = false := by simpa using h1
      clear h0 h1
      go_wp2
      go_region_held3 (fun z => z.cell? ⟨w.heap.size, 0, none⟩ = some (.string xn) ∧ z.cell? ⟨w.heap.size, 1, none⟩ = some (.int .i64 x0) ∧ z.cell? ⟨w.heap.size, 2, none⟩ = some (.int .i64 x1) ∧ z.cell? ⟨w.heap.size, 3, none⟩ = some (.int .i64 x2) ∧ z.cell? ⟨w.heap.size, 4, none⟩ = some (.slice (some ⟨b, off, none⟩) xln xlc) ∧ z.cell? ⟨w.heap.size, 5, none⟩ = some (.slice xta xtn xtc) ∧ Hid (Below w2.heap.size w2 z)) (first | assumption | exact KD.out)
        (first
          | (go_at_call 20; go_loud ((with_reducible refine (K1.out _ ?_).mono ?_); assumption; rintro e w7 ⟨rfl, hS⟩)))
      all_goals
        go_wp2
        go_ret
        exact ⟨by simp, KB.out _ hS⟩
end Rg
end Go.Proofs.Ytgnkaijaoaailaa
