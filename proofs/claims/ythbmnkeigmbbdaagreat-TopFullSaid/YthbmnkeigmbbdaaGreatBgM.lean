/-
  Merged: BoModN, BoModT, BoModB.
-/
import Derived.Test.YthbmnkeigmbbdaaGreatBoOwn
import Derived.Test.YthbmnkeigmbbdaaGreatBoFindN
import Derived.Test.YthbmnkeigmbbdaaGreatBoFindT
import Derived.Test.YthbmnkeigmbbdaaGreatBoFindB
/-
  NODES: ONE PUT IN, ONE TAKEN OUT: book.add, book.drop.
-/
namespace Go.Proofs.YthbmnkeigmbbdaaGreat
open Go.RowKit Go.Lib
namespace Bo
open Rw
set_option linter.unusedVariables false
theorem after_n {w w1 w2 : World} {own : Option Nat} (h : Below w.heap.size w w1) (hg : w1.grownBy w2 own) : w.grownBy w2 own :=
  ⟨hg.os.trans h.os, hg.tape.trans h.tape, hg.output.trans h.output, Nat.le_trans h.size hg.size, fun k hk hne => (hg.block k (Nat.lt_of_lt_of_le hk h.size) hne).trans (h.block k hk)⟩

/-- What add tells: it is there, there is no room, or it is put in. -/
def AddN (w : World) (base : Nat) (v : Value) (m : List NdM) (most : Nat) (y : NdM) (e : Ending) (w' : World) : Prop :=
  (hasK (m.map (·.nd.n)) y.nd.n = true ∧ e = .returned (.tuple #[v, .int .i64 7]) ∧ Below w.heap.size w w') ∨
  (hasK (m.map (·.nd.n)) y.nd.n = false ∧ most ≤ m.length ∧ e = .returned (.tuple #[v, .int .i64 11]) ∧ Below w.heap.size w w') ∨
  (hasK (m.map (·.nd.n)) y.nd.n = false ∧ m.length < most ∧ ∃ v', e = .returned (.tuple #[v', .int .i64 0]) ∧ Own w' base 45 v' (insR m (lbK (m.map (·.nd.n)) y.nd.n) y) ∧ w.grownBy w' v.ownBlock)
set_option maxRecDepth 100000 in
set_option maxHeartbeats 4000000 in
theorem add_n (v : Value) (m : List NdM) (base most : Nat) (y : NdM) (w : World) (hbs : base ≤ w.heap.size) (ho : Own w base 45 v m) (hr : Ris (m.map (·.nd.n))) (h4 : m.length ≤ 4096) (hm : most ≤ 4096) :
    Calls Tryz.prog 163 #[v, .func (.func 62) #[] #[], .int .i64 most, .agg #[.string y.nd.n, .int .i64 y.nd.z0, .int .i64 y.nd.z1, .int .i64 y.nd.z2, .slice y.a2 y.nd.ls.length y.c2, .slice y.a3 y.nd.ts.length y.c3]] w (AddN w base v m most y) := by
  have hE : ∀ args z, (callFunc 62 args).run Tryz.prog z = .ok (.enter 62 args) z := enters_of Tryz.func62 (by kernel_rfl) rfl
  obtain ⟨W0, hW0⟩ : ∃ W0, W0 = w.alloc (.cells #[.string y.nd.n, .int .i64 y.nd.z0, .int .i64 y.nd.z1, .int .i64 y.nd.z2, .slice y.a2 y.nd.ls.length y.c2, .slice y.a3 y.nd.ts.length y.c3] 45) := ⟨_, rfl⟩
  have hb0 : Below w.heap.size w W0 := by rw [hW0]; exact al w _
  have hbx : Hd.Bxn W0 w.heap.size [.string y.nd.n, .int .i64 y.nd.z0, .int .i64 y.nd.z1, .int .i64 y.nd.z2, .slice y.a2 y.nd.ls.length y.c2, .slice y.a3 y.nd.ts.length y.c3] := by rw [hW0]; exact Hd.Bxn.made w [.string y.nd.n, .int .i64 y.nd.z0, .int .i64 y.nd.z1, .int .i64 y.nd.z2, .slice y.a2 y.nd.ls.length y.c2, .slice y.a3 y.nd.ts.length y.c3] 45
  have hsl : Sl w base w.heap.size v m := ho.sl (by omega)
  have HN := Lib.hid (fun z => name_n y z)
  have HF : Hid (∀ z, Below W0.heap.size W0 z → Calls Tryz.prog 72 #[v, .func (.func 62) #[] #[], .string y.nd.n] z fun e w' => e = .returned (.tuple #[.int .i64 (lbK (m.map (·.nd.n)) y.nd.n : Nat), .bool (hasK (m.map (·.nd.n)) y.nd.n)]) ∧ Below z.heap.size z w') := fun z hz => (find_n v m y.nd.n z (hsl.on (hb0.trans (hz.mono hb0.size))) hr)
  have HI : Hid (∀ z, Below W0.heap.size W0 z → Calls Tryz.prog 201 #[v, .int .i64 (lbK (m.map (·.nd.n)) y.nd.n : Nat), .slice (some ⟨z.heap.size, 0, none⟩) 1 1] (z.alloc (.cells #[.string y.nd.n, .int .i64 y.nd.z0, .int .i64 y.nd.z1, .int .i64 y.nd.z2, .slice y.a2 y.nd.ls.length y.c2, .slice y.a3 y.nd.ts.length y.c3] 45)) fun e w' => ∃ v', e = .returned v' ∧ Own w' base 45 v' (insR m (lbK (m.map (·.nd.n)) y.nd.n) y) ∧ w.grownBy w' v.ownBlock) := fun z hz => by
    have hzw : Below w.heap.size w z := hb0.trans (hz.mono hb0.size)
    have h1 : Below w.heap.size w (z.alloc (.cells #[.string y.nd.n, .int .i64 y.nd.z0, .int .i64 y.nd.z1, .int .i64 y.nd.z2, .slice y.a2 y.nd.ls.length y.c2, .slice y.a3 y.nd.ts.length y.c3] 45)) := hzw.alloc hzw.size _
    have hle := lb_le (m.map (·.nd.n)) y.nd.n
    rw [List.length_map] at hle
    refine (insert_n v m y _ z.heap.size base _ (Nat.le_trans hbs h1.size) (ho.keep h1) h4 hle (heap_alloc_new z _) (fun e => by have := (ho.lt _ e).2; have := hzw.size; omega)).mono ?_
    rintro e w' ⟨v', he, h2, h3⟩
    exact ⟨v', he, h2, after_n h1 h3⟩
  have HW := Lib.hid hW0
  have HB0 := Lib.hid hb0
  have HBX := Lib.hid hbx
  have H0w : Hid (W0.heap.size = w.heap.size + 1) := by show _ = _; rw [hW0]; simp
  obtain ⟨a, c, rfl⟩ := ho.slice
  unfold AddN
  have hlt := lb_le (m.map (·.nd.n)) y.nd.n
  rw [List.length_map] at hlt
  by_cases hh : hasK (m.map (·.nd.n)) y.nd.n = true
  · refine Calls.mono (R := fun e w' => e = .returned (.tuple #[.slice a m.length c, .int .i64 7]) ∧ Below w.heap.size w w') ?_ (fun e w' h => .inl ⟨hh, h⟩)
    rw [hh] at HF
    clear hsl ho hr hW0 hb0 hbx hh HI
    generalize lbK (m.map (·.nd.n)) y.nd.n = lb at *
    go_enter Tryz.func163, Tryz.ntmps163
    go_upto_region 1 with fail
    rw [← HW.out]
    have b0 : W0.cell? ⟨w.heap.size, 0, none⟩ = some (.string y.nd.n) := HBX.out.cell 0; have b1 : W0.cell? ⟨w.heap.size, 1, none⟩ = some (.int .i64 y.nd.z0) := HBX.out.cell 1; have b2 : W0.cell? ⟨w.heap.size, 2, none⟩ = some (.int .i64 y.nd.z1) := HBX.out.cell 2; have b3 : W0.cell? ⟨w.heap.size, 3, none⟩ = some (.int .i64 y.nd.z2) := HBX.out.cell 3; have b4 : W0.cell? ⟨w.heap.size, 4, none⟩ = some (.slice y.a2 y.nd.ls.length y.c2) := HBX.out.cell 4; have b5 : W0.cell? ⟨w.heap.size, 5, none⟩ = some (.slice y.a3 y.nd.ts.length y.c3) := HBX.out.cell 5
    go_wp2_with fail
    refine (HN.out _).mono ?_
    rintro e w1 ⟨rfl, hb⟩
    have H1 := Lib.hid hb
    clear hb
    go_wp2_with fail
    refine (HF.out _ H1.out).mono ?_
    rintro e w2 ⟨rfl, hb⟩
    have H2 : Hid (Below w.heap.size w w2) := HB0.out.trans ((H1.out.trans (hb.mono H1.out.size)).mono HB0.out.size)
    clear hb
    go_wp2
    go_ret2
    exact ⟨rfl, H2.out⟩
  · have hf : hasK (m.map (·.nd.n)) y.nd.n = false := by simpa using hh
    rw [hf] at HF
    by_cases hml : most ≤ m.length
    · refine Calls.mono (R := fun e w' => e = .returned (.tuple #[.slice a m.length c, .int .i64 11]) ∧ Below w.heap.size w w') ?_ (fun e w' h => .inr (.inl ⟨hf, hml, h⟩))
      have t0 : decide ((most : Int) ≤ (m.length : Int)) = true := by simpa using hml
      have t1 : (most : Int) ≤ (m.length : Int) := by omega
      have t2 : decide (most ≤ m.length) = true := by simpa using hml
      clear hsl ho hr hW0 hb0 hbx hh hf HI hml
      generalize lbK (m.map (·.nd.n)) y.nd.n = lb at *
      go_enter Tryz.func163, Tryz.ntmps163
      go_upto_region 1 with fail
      rw [← HW.out]
      have b0 : W0.cell? ⟨w.heap.size, 0, none⟩ = some (.string y.nd.n) := HBX.out.cell 0; have b1 : W0.cell? ⟨w.heap.size, 1, none⟩ = some (.int .i64 y.nd.z0) := HBX.out.cell 1; have b2 : W0.cell? ⟨w.heap.size, 2, none⟩ = some (.int .i64 y.nd.z1) := HBX.out.cell 2; have b3 : W0.cell? ⟨w.heap.size, 3, none⟩ = some (.int .i64 y.nd.z2) := HBX.out.cell 3; have b4 : W0.cell? ⟨w.heap.size, 4, none⟩ = some (.slice y.a2 y.nd.ls.length y.c2) := HBX.out.cell 4; have b5 : W0.cell? ⟨w.heap.size, 5, none⟩ = some (.slice y.a3 y.nd.ts.length y.c3) := HBX.out.cell 5
      go_wp2_with fail
      refine (HN.out _).mono ?_
      rintro e w1 ⟨rfl, hb⟩
      have H1 := Lib.hid hb
      clear hb
      go_wp2_with fail
      refine (HF.out _ H1.out).mono ?_
      rintro e w2 ⟨rfl, hb⟩
      have H2 : Hid (Below w.heap.size w w2) := HB0.out.trans ((H1.out.trans (hb.mono H1.out.size)).mono HB0.out.size)
      clear hb
      go_wp2
      go_ret2
      exact ⟨rfl, H2.out⟩
    · refine Calls.mono (R := fun e w' => ∃ v', e = .returned (.tuple #[v', .int .i64 0]) ∧ Own w' base 45 v' (insR m (lbK (m.map (·.nd.n)) y.nd.n) y) ∧ w.grownBy w' (.slice a m.length c : Value).ownBlock) ?_ (fun e w' h => .inr (.inr ⟨hf, by omega, h⟩))
      have t0 : decide ((most : Int) ≤ (m.length : Int)) = false := by simp; omega
      have t1 : ¬ (most : Int) ≤ (m.length : Int) := by omega
      have t2 : decide (most ≤ m.length) = false := by simp; omega
      clear hsl ho hr hW0 hb0 hbx hh hf hml
      generalize insR m (lbK (m.map (·.nd.n)) y.nd.n) y = lm at *
      generalize lbK (m.map (·.nd.n)) y.nd.n = lb at *
      go_enter Tryz.func163, Tryz.ntmps163
      go_upto_region 1 with fail
      rw [← HW.out]
      have b0 : W0.cell? ⟨w.heap.size, 0, none⟩ = some (.string y.nd.n) := HBX.out.cell 0; have b1 : W0.cell? ⟨w.heap.size, 1, none⟩ = some (.int .i64 y.nd.z0) := HBX.out.cell 1; have b2 : W0.cell? ⟨w.heap.size, 2, none⟩ = some (.int .i64 y.nd.z1) := HBX.out.cell 2; have b3 : W0.cell? ⟨w.heap.size, 3, none⟩ = some (.int .i64 y.nd.z2) := HBX.out.cell 3; have b4 : W0.cell? ⟨w.heap.size, 4, none⟩ = some (.slice y.a2 y.nd.ls.length y.c2) := HBX.out.cell 4; have b5 : W0.cell? ⟨w.heap.size, 5, none⟩ = some (.slice y.a3 y.nd.ts.length y.c3) := HBX.out.cell 5
      go_wp2_with fail
      refine (HN.out _).mono ?_
      rintro e w1 ⟨rfl, hb⟩
      have H1 := Lib.hid hb
      clear hb
      go_wp2_with fail
      refine (HF.out _ H1.out).mono ?_
      rintro e w2 ⟨rfl, hb⟩
      have H2 : Hid (Below W0.heap.size W0 w2) := H1.out.trans (hb.mono H1.out.size)
      have HB2 := Lib.hid (HBX.out.below H2.out)
      clear hb
      have q0 : w2.cell? ⟨w.heap.size, 0, none⟩ = some (.string y.nd.n) := HB2.out.cell 0; have q1 : w2.cell? ⟨w.heap.size, 1, none⟩ = some (.int .i64 y.nd.z0) := HB2.out.cell 1; have q2 : w2.cell? ⟨w.heap.size, 2, none⟩ = some (.int .i64 y.nd.z1) := HB2.out.cell 2; have q3 : w2.cell? ⟨w.heap.size, 3, none⟩ = some (.int .i64 y.nd.z2) := HB2.out.cell 3; have q4 : w2.cell? ⟨w.heap.size, 4, none⟩ = some (.slice y.a2 y.nd.ls.length y.c2) := HB2.out.cell 4; have q5 : w2.cell? ⟨w.heap.size, 5, none⟩ = some (.slice y.a3 y.nd.ts.length y.c3) := HB2.out.cell 5
      go_wp2_with fail
      refine (HI.out _ H2.out).mono ?_
      rintro e w3 ⟨v', rfl, ho3, hg3⟩
      have HO3 := Lib.hid (And.intro ho3 hg3)
      clear ho3 hg3
      go_wp2
      go_ret2
      exact ⟨_, rfl, HO3.out.1, HO3.out.2⟩

/-- What drop leaves: the list as it was, or without the one of that name. -/
def DropN (w : World) (base : Nat) (v : Value) (m : List NdM) (want : ByteArray) (e : Ending) (w' : World) : Prop :=
  (hasK (m.map (·.nd.n)) want = false ∧ e = .returned v ∧ Below w.heap.size w w') ∨
  (hasK (m.map (·.nd.n)) want = true ∧ ∃ v', e = .returned v' ∧ Own w' base 45 v' (m.eraseIdx (lbK (m.map (·.nd.n)) want)) ∧ w.grownBy w' v.ownBlock)
set_option maxRecDepth 100000 in
set_option maxHeartbeats 4000000 in
theorem drop_n (v : Value) (m : List NdM) (base : Nat) (want : ByteArray) (w : World) (ho : Own w base 45 v m) (hr : Ris (m.map (·.nd.n))) (h4 : m.length ≤ 4096) :
    Calls Tryz.prog 165 #[v, .func (.func 62) #[] #[], .string want] w (DropN w base v m want) := by
  have hsl : Sl w base w.heap.size v m := ho.sl (by omega)
  have HF : Hid (Calls Tryz.prog 72 #[v, .func (.func 62) #[] #[], .string want] w fun e w' => e = .returned (.tuple #[.int .i64 (lbK (m.map (·.nd.n)) want : Nat), .bool (hasK (m.map (·.nd.n)) want)]) ∧ Below w.heap.size w w') := (find_n v m want w hsl hr)
  have HG := fun h => has_get hr (x := want) h
  have HD : Hid (hasK (m.map (·.nd.n)) want = true → ∀ z, Below w.heap.size w z → Calls Tryz.prog 202 #[v, .int .i64 (lbK (m.map (·.nd.n)) want : Nat), .int .i64 ((lbK (m.map (·.nd.n)) want : Int) + 1)] z fun e w' => ∃ v', e = .returned v' ∧ Own w' base 45 v' (m.eraseIdx (lbK (m.map (·.nd.n)) want)) ∧ w.grownBy w' v.ownBlock) := fun h z hz => by
    obtain ⟨hl, -⟩ := HG h
    rw [List.length_map] at hl
    refine (delete_n v m _ base z (ho.keep hz) h4 hl).mono ?_
    rintro e w' ⟨v', he, h2, h3⟩
    exact ⟨v', he, h2, after_n hz h3⟩
  have hle := lb_le (m.map (·.nd.n)) want
  rw [List.length_map] at hle
  obtain ⟨a, c, rfl⟩ := ho.slice
  unfold DropN
  by_cases hh : hasK (m.map (·.nd.n)) want = true
  · refine Calls.mono (R := fun e w' => ∃ v', e = .returned v' ∧ Own w' base 45 v' (m.eraseIdx (lbK (m.map (·.nd.n)) want)) ∧ w.grownBy w' (.slice a m.length c : Value).ownBlock) ?_ (fun e w' h => .inr ⟨hh, h⟩)
    have HD2 := Lib.hid (HD.out hh)
    rw [hh] at HF
    clear hsl ho hr HG HD hh
    generalize m.eraseIdx (lbK (m.map (·.nd.n)) want) = lm at *
    generalize lbK (m.map (·.nd.n)) want = lb at *
    have t0 : IntKind.i64.wrap ((lb : Int) + 1) = (lb : Int) + 1 := by rw [IntKind.wrap_i64]; omega
    go_enter Tryz.func165, Tryz.ntmps165
    go_wp2_with fail
    refine HF.out.mono ?_
    rintro e w1 ⟨rfl, hb⟩
    have H1 := Lib.hid hb
    clear hb
    go_wp2_with fail
    refine (HD2.out _ H1.out).mono ?_
    rintro e w3 ⟨v', rfl, ho3, hg3⟩
    have HO3 := Lib.hid (And.intro ho3 hg3)
    clear ho3 hg3
    go_wp2
    go_ret
    exact ⟨_, rfl, HO3.out.1, HO3.out.2⟩
  · have hf : hasK (m.map (·.nd.n)) want = false := by simpa using hh
    refine Calls.mono (R := fun e w' => e = .returned (.slice a m.length c) ∧ Below w.heap.size w w') ?_ (fun e w' h => .inl ⟨hf, h⟩)
    rw [hf] at HF
    clear hsl ho hr HG HD hh hf
    generalize lbK (m.map (·.nd.n)) want = lb at *
    go_enter Tryz.func165, Tryz.ntmps165
    go_wp2_with fail
    refine HF.out.mono ?_
    rintro e w1 ⟨rfl, hb⟩
    have H1 := Lib.hid hb
    clear hb
    go_wp2
    go_ret
    exact ⟨rfl, H1.out⟩
end Bo
end Go.Proofs.YthbmnkeigmbbdaaGreat

/-
  TASKS: ONE PUT IN, ONE TAKEN OUT: book.add, book.drop.
-/
namespace Go.Proofs.YthbmnkeigmbbdaaGreat
open Go.RowKit Go.Lib
namespace Bo
open Rw
set_option linter.unusedVariables false
theorem after_t {w w1 w2 : World} {own : Option Nat} (h : Below w.heap.size w w1) (hg : w1.grownBy w2 own) : w.grownBy w2 own :=
  ⟨hg.os.trans h.os, hg.tape.trans h.tape, hg.output.trans h.output, Nat.le_trans h.size hg.size, fun k hk hne => (hg.block k (Nat.lt_of_lt_of_le hk h.size) hne).trans (h.block k hk)⟩

/-- What add tells: it is there, there is no room, or it is put in. -/
def AddT (w : World) (base : Nat) (v : Value) (m : List TdM) (most : Nat) (y : TdM) (e : Ending) (w' : World) : Prop :=
  (hasK (m.map (·.td.n)) y.td.n = true ∧ e = .returned (.tuple #[v, .int .i64 7]) ∧ Below w.heap.size w w') ∨
  (hasK (m.map (·.td.n)) y.td.n = false ∧ most ≤ m.length ∧ e = .returned (.tuple #[v, .int .i64 11]) ∧ Below w.heap.size w w') ∨
  (hasK (m.map (·.td.n)) y.td.n = false ∧ m.length < most ∧ ∃ v', e = .returned (.tuple #[v', .int .i64 0]) ∧ Own w' base 42 v' (insR m (lbK (m.map (·.td.n)) y.td.n) y) ∧ w.grownBy w' v.ownBlock)
set_option maxRecDepth 100000 in
set_option maxHeartbeats 4000000 in
theorem add_t (v : Value) (m : List TdM) (base most : Nat) (y : TdM) (w : World) (hbs : base ≤ w.heap.size) (ho : Own w base 42 v m) (hr : Ris (m.map (·.td.n))) (h4 : m.length ≤ 4096) (hm : most ≤ 4096) :
    Calls Tryz.prog 166 #[v, .func (.func 65) #[] #[], .int .i64 most, .agg #[.string y.td.n, .int .i64 y.td.z0, .int .i64 y.td.z1, .int .i64 y.td.z2, .slice y.a4 y.td.ws.length y.c4, .slice y.a5 y.td.bs.length y.c5, .string y.td.g, .string y.td.a, .int .i64 y.td.r]] w (AddT w base v m most y) := by
  have hE : ∀ args z, (callFunc 65 args).run Tryz.prog z = .ok (.enter 65 args) z := enters_of Tryz.func65 (by kernel_rfl) rfl
  obtain ⟨W0, hW0⟩ : ∃ W0, W0 = w.alloc (.cells #[.string y.td.n, .int .i64 y.td.z0, .int .i64 y.td.z1, .int .i64 y.td.z2, .slice y.a4 y.td.ws.length y.c4, .slice y.a5 y.td.bs.length y.c5, .string y.td.g, .string y.td.a, .int .i64 y.td.r] 42) := ⟨_, rfl⟩
  have hb0 : Below w.heap.size w W0 := by rw [hW0]; exact al w _
  have hbx : Hd.Bxn W0 w.heap.size [.string y.td.n, .int .i64 y.td.z0, .int .i64 y.td.z1, .int .i64 y.td.z2, .slice y.a4 y.td.ws.length y.c4, .slice y.a5 y.td.bs.length y.c5, .string y.td.g, .string y.td.a, .int .i64 y.td.r] := by rw [hW0]; exact Hd.Bxn.made w [.string y.td.n, .int .i64 y.td.z0, .int .i64 y.td.z1, .int .i64 y.td.z2, .slice y.a4 y.td.ws.length y.c4, .slice y.a5 y.td.bs.length y.c5, .string y.td.g, .string y.td.a, .int .i64 y.td.r] 42
  have hsl : Sl w base w.heap.size v m := ho.sl (by omega)
  have HN := Lib.hid (fun z => name_t y z)
  have HF : Hid (∀ z, Below W0.heap.size W0 z → Calls Tryz.prog 97 #[v, .func (.func 65) #[] #[], .string y.td.n] z fun e w' => e = .returned (.tuple #[.int .i64 (lbK (m.map (·.td.n)) y.td.n : Nat), .bool (hasK (m.map (·.td.n)) y.td.n)]) ∧ Below z.heap.size z w') := fun z hz => (find_t v m y.td.n z (hsl.on (hb0.trans (hz.mono hb0.size))) hr)
  have HI : Hid (∀ z, Below W0.heap.size W0 z → Calls Tryz.prog 203 #[v, .int .i64 (lbK (m.map (·.td.n)) y.td.n : Nat), .slice (some ⟨z.heap.size, 0, none⟩) 1 1] (z.alloc (.cells #[.string y.td.n, .int .i64 y.td.z0, .int .i64 y.td.z1, .int .i64 y.td.z2, .slice y.a4 y.td.ws.length y.c4, .slice y.a5 y.td.bs.length y.c5, .string y.td.g, .string y.td.a, .int .i64 y.td.r] 42)) fun e w' => ∃ v', e = .returned v' ∧ Own w' base 42 v' (insR m (lbK (m.map (·.td.n)) y.td.n) y) ∧ w.grownBy w' v.ownBlock) := fun z hz => by
    have hzw : Below w.heap.size w z := hb0.trans (hz.mono hb0.size)
    have h1 : Below w.heap.size w (z.alloc (.cells #[.string y.td.n, .int .i64 y.td.z0, .int .i64 y.td.z1, .int .i64 y.td.z2, .slice y.a4 y.td.ws.length y.c4, .slice y.a5 y.td.bs.length y.c5, .string y.td.g, .string y.td.a, .int .i64 y.td.r] 42)) := hzw.alloc hzw.size _
    have hle := lb_le (m.map (·.td.n)) y.td.n
    rw [List.length_map] at hle
    refine (insert_t v m y _ z.heap.size base _ (Nat.le_trans hbs h1.size) (ho.keep h1) h4 hle (heap_alloc_new z _) (fun e => by have := (ho.lt _ e).2; have := hzw.size; omega)).mono ?_
    rintro e w' ⟨v', he, h2, h3⟩
    exact ⟨v', he, h2, after_t h1 h3⟩
  have HW := Lib.hid hW0
  have HB0 := Lib.hid hb0
  have HBX := Lib.hid hbx
  have H0w : Hid (W0.heap.size = w.heap.size + 1) := by show _ = _; rw [hW0]; simp
  obtain ⟨a, c, rfl⟩ := ho.slice
  unfold AddT
  have hlt := lb_le (m.map (·.td.n)) y.td.n
  rw [List.length_map] at hlt
  by_cases hh : hasK (m.map (·.td.n)) y.td.n = true
  · refine Calls.mono (R := fun e w' => e = .returned (.tuple #[.slice a m.length c, .int .i64 7]) ∧ Below w.heap.size w w') ?_ (fun e w' h => .inl ⟨hh, h⟩)
    rw [hh] at HF
    clear hsl ho hr hW0 hb0 hbx hh HI
    generalize lbK (m.map (·.td.n)) y.td.n = lb at *
    go_enter Tryz.func166, Tryz.ntmps166
    go_upto_region 1 with fail
    rw [← HW.out]
    have b0 : W0.cell? ⟨w.heap.size, 0, none⟩ = some (.string y.td.n) := HBX.out.cell 0; have b1 : W0.cell? ⟨w.heap.size, 1, none⟩ = some (.int .i64 y.td.z0) := HBX.out.cell 1; have b2 : W0.cell? ⟨w.heap.size, 2, none⟩ = some (.int .i64 y.td.z1) := HBX.out.cell 2; have b3 : W0.cell? ⟨w.heap.size, 3, none⟩ = some (.int .i64 y.td.z2) := HBX.out.cell 3; have b4 : W0.cell? ⟨w.heap.size, 4, none⟩ = some (.slice y.a4 y.td.ws.length y.c4) := HBX.out.cell 4; have b5 : W0.cell? ⟨w.heap.size, 5, none⟩ = some (.slice y.a5 y.td.bs.length y.c5) := HBX.out.cell 5; have b6 : W0.cell? ⟨w.heap.size, 6, none⟩ = some (.string y.td.g) := HBX.out.cell 6; have b7 : W0.cell? ⟨w.heap.size, 7, none⟩ = some (.string y.td.a) := HBX.out.cell 7; have b8 : W0.cell? ⟨w.heap.size, 8, none⟩ = some (.int .i64 y.td.r) := HBX.out.cell 8
    go_wp2_with fail
    refine (HN.out _).mono ?_
    rintro e w1 ⟨rfl, hb⟩
    have H1 := Lib.hid hb
    clear hb
    go_wp2_with fail
    refine (HF.out _ H1.out).mono ?_
    rintro e w2 ⟨rfl, hb⟩
    have H2 : Hid (Below w.heap.size w w2) := HB0.out.trans ((H1.out.trans (hb.mono H1.out.size)).mono HB0.out.size)
    clear hb
    go_wp2
    go_ret2
    exact ⟨rfl, H2.out⟩
  · have hf : hasK (m.map (·.td.n)) y.td.n = false := by simpa using hh
    rw [hf] at HF
    by_cases hml : most ≤ m.length
    · refine Calls.mono (R := fun e w' => e = .returned (.tuple #[.slice a m.length c, .int .i64 11]) ∧ Below w.heap.size w w') ?_ (fun e w' h => .inr (.inl ⟨hf, hml, h⟩))
      have t0 : decide ((most : Int) ≤ (m.length : Int)) = true := by simpa using hml
      have t1 : (most : Int) ≤ (m.length : Int) := by omega
      have t2 : decide (most ≤ m.length) = true := by simpa using hml
      clear hsl ho hr hW0 hb0 hbx hh hf HI hml
      generalize lbK (m.map (·.td.n)) y.td.n = lb at *
      go_enter Tryz.func166, Tryz.ntmps166
      go_upto_region 1 with fail
      rw [← HW.out]
      have b0 : W0.cell? ⟨w.heap.size, 0, none⟩ = some (.string y.td.n) := HBX.out.cell 0; have b1 : W0.cell? ⟨w.heap.size, 1, none⟩ = some (.int .i64 y.td.z0) := HBX.out.cell 1; have b2 : W0.cell? ⟨w.heap.size, 2, none⟩ = some (.int .i64 y.td.z1) := HBX.out.cell 2; have b3 : W0.cell? ⟨w.heap.size, 3, none⟩ = some (.int .i64 y.td.z2) := HBX.out.cell 3; have b4 : W0.cell? ⟨w.heap.size, 4, none⟩ = some (.slice y.a4 y.td.ws.length y.c4) := HBX.out.cell 4; have b5 : W0.cell? ⟨w.heap.size, 5, none⟩ = some (.slice y.a5 y.td.bs.length y.c5) := HBX.out.cell 5; have b6 : W0.cell? ⟨w.heap.size, 6, none⟩ = some (.string y.td.g) := HBX.out.cell 6; have b7 : W0.cell? ⟨w.heap.size, 7, none⟩ = some (.string y.td.a) := HBX.out.cell 7; have b8 : W0.cell? ⟨w.heap.size, 8, none⟩ = some (.int .i64 y.td.r) := HBX.out.cell 8
      go_wp2_with fail
      refine (HN.out _).mono ?_
      rintro e w1 ⟨rfl, hb⟩
      have H1 := Lib.hid hb
      clear hb
      go_wp2_with fail
      refine (HF.out _ H1.out).mono ?_
      rintro e w2 ⟨rfl, hb⟩
      have H2 : Hid (Below w.heap.size w w2) := HB0.out.trans ((H1.out.trans (hb.mono H1.out.size)).mono HB0.out.size)
      clear hb
      go_wp2
      go_ret2
      exact ⟨rfl, H2.out⟩
    · refine Calls.mono (R := fun e w' => ∃ v', e = .returned (.tuple #[v', .int .i64 0]) ∧ Own w' base 42 v' (insR m (lbK (m.map (·.td.n)) y.td.n) y) ∧ w.grownBy w' (.slice a m.length c : Value).ownBlock) ?_ (fun e w' h => .inr (.inr ⟨hf, by omega, h⟩))
      have t0 : decide ((most : Int) ≤ (m.length : Int)) = false := by simp; omega
      have t1 : ¬ (most : Int) ≤ (m.length : Int) := by omega
      have t2 : decide (most ≤ m.length) = false := by simp; omega
      clear hsl ho hr hW0 hb0 hbx hh hf hml
      generalize insR m (lbK (m.map (·.td.n)) y.td.n) y = lm at *
      generalize lbK (m.map (·.td.n)) y.td.n = lb at *
      go_enter Tryz.func166, Tryz.ntmps166
      go_upto_region 1 with fail
      rw [← HW.out]
      have b0 : W0.cell? ⟨w.heap.size, 0, none⟩ = some (.string y.td.n) := HBX.out.cell 0; have b1 : W0.cell? ⟨w.heap.size, 1, none⟩ = some (.int .i64 y.td.z0) := HBX.out.cell 1; have b2 : W0.cell? ⟨w.heap.size, 2, none⟩ = some (.int .i64 y.td.z1) := HBX.out.cell 2; have b3 : W0.cell? ⟨w.heap.size, 3, none⟩ = some (.int .i64 y.td.z2) := HBX.out.cell 3; have b4 : W0.cell? ⟨w.heap.size, 4, none⟩ = some (.slice y.a4 y.td.ws.length y.c4) := HBX.out.cell 4; have b5 : W0.cell? ⟨w.heap.size, 5, none⟩ = some (.slice y.a5 y.td.bs.length y.c5) := HBX.out.cell 5; have b6 : W0.cell? ⟨w.heap.size, 6, none⟩ = some (.string y.td.g) := HBX.out.cell 6; have b7 : W0.cell? ⟨w.heap.size, 7, none⟩ = some (.string y.td.a) := HBX.out.cell 7; have b8 : W0.cell? ⟨w.heap.size, 8, none⟩ = some (.int .i64 y.td.r) := HBX.out.cell 8
      go_wp2_with fail
      refine (HN.out _).mono ?_
      rintro e w1 ⟨rfl, hb⟩
      have H1 := Lib.hid hb
      clear hb
      go_wp2_with fail
      refine (HF.out _ H1.out).mono ?_
      rintro e w2 ⟨rfl, hb⟩
      have H2 : Hid (Below W0.heap.size W0 w2) := H1.out.trans (hb.mono H1.out.size)
      have HB2 := Lib.hid (HBX.out.below H2.out)
      clear hb
      have q0 : w2.cell? ⟨w.heap.size, 0, none⟩ = some (.string y.td.n) := HB2.out.cell 0; have q1 : w2.cell? ⟨w.heap.size, 1, none⟩ = some (.int .i64 y.td.z0) := HB2.out.cell 1; have q2 : w2.cell? ⟨w.heap.size, 2, none⟩ = some (.int .i64 y.td.z1) := HB2.out.cell 2; have q3 : w2.cell? ⟨w.heap.size, 3, none⟩ = some (.int .i64 y.td.z2) := HB2.out.cell 3; have q4 : w2.cell? ⟨w.heap.size, 4, none⟩ = some (.slice y.a4 y.td.ws.length y.c4) := HB2.out.cell 4; have q5 : w2.cell? ⟨w.heap.size, 5, none⟩ = some (.slice y.a5 y.td.bs.length y.c5) := HB2.out.cell 5; have q6 : w2.cell? ⟨w.heap.size, 6, none⟩ = some (.string y.td.g) := HB2.out.cell 6; have q7 : w2.cell? ⟨w.heap.size, 7, none⟩ = some (.string y.td.a) := HB2.out.cell 7; have q8 : w2.cell? ⟨w.heap.size, 8, none⟩ = some (.int .i64 y.td.r) := HB2.out.cell 8
      go_wp2_with fail
      refine (HI.out _ H2.out).mono ?_
      rintro e w3 ⟨v', rfl, ho3, hg3⟩
      have HO3 := Lib.hid (And.intro ho3 hg3)
      clear ho3 hg3
      go_wp2
      go_ret2
      exact ⟨_, rfl, HO3.out.1, HO3.out.2⟩

/-- What drop leaves: the list as it was, or without the one of that name. -/
def DropT (w : World) (base : Nat) (v : Value) (m : List TdM) (want : ByteArray) (e : Ending) (w' : World) : Prop :=
  (hasK (m.map (·.td.n)) want = false ∧ e = .returned v ∧ Below w.heap.size w w') ∨
  (hasK (m.map (·.td.n)) want = true ∧ ∃ v', e = .returned v' ∧ Own w' base 42 v' (m.eraseIdx (lbK (m.map (·.td.n)) want)) ∧ w.grownBy w' v.ownBlock)
set_option maxRecDepth 100000 in
set_option maxHeartbeats 4000000 in
theorem drop_t (v : Value) (m : List TdM) (base : Nat) (want : ByteArray) (w : World) (ho : Own w base 42 v m) (hr : Ris (m.map (·.td.n))) (h4 : m.length ≤ 4096) :
    Calls Tryz.prog 167 #[v, .func (.func 65) #[] #[], .string want] w (DropT w base v m want) := by
  have hsl : Sl w base w.heap.size v m := ho.sl (by omega)
  have HF : Hid (Calls Tryz.prog 97 #[v, .func (.func 65) #[] #[], .string want] w fun e w' => e = .returned (.tuple #[.int .i64 (lbK (m.map (·.td.n)) want : Nat), .bool (hasK (m.map (·.td.n)) want)]) ∧ Below w.heap.size w w') := (find_t v m want w hsl hr)
  have HG := fun h => has_get hr (x := want) h
  have HD : Hid (hasK (m.map (·.td.n)) want = true → ∀ z, Below w.heap.size w z → Calls Tryz.prog 204 #[v, .int .i64 (lbK (m.map (·.td.n)) want : Nat), .int .i64 ((lbK (m.map (·.td.n)) want : Int) + 1)] z fun e w' => ∃ v', e = .returned v' ∧ Own w' base 42 v' (m.eraseIdx (lbK (m.map (·.td.n)) want)) ∧ w.grownBy w' v.ownBlock) := fun h z hz => by
    obtain ⟨hl, -⟩ := HG h
    rw [List.length_map] at hl
    refine (delete_t v m _ base z (ho.keep hz) h4 hl).mono ?_
    rintro e w' ⟨v', he, h2, h3⟩
    exact ⟨v', he, h2, after_t hz h3⟩
  have hle := lb_le (m.map (·.td.n)) want
  rw [List.length_map] at hle
  obtain ⟨a, c, rfl⟩ := ho.slice
  unfold DropT
  by_cases hh : hasK (m.map (·.td.n)) want = true
  · refine Calls.mono (R := fun e w' => ∃ v', e = .returned v' ∧ Own w' base 42 v' (m.eraseIdx (lbK (m.map (·.td.n)) want)) ∧ w.grownBy w' (.slice a m.length c : Value).ownBlock) ?_ (fun e w' h => .inr ⟨hh, h⟩)
    have HD2 := Lib.hid (HD.out hh)
    rw [hh] at HF
    clear hsl ho hr HG HD hh
    generalize m.eraseIdx (lbK (m.map (·.td.n)) want) = lm at *
    generalize lbK (m.map (·.td.n)) want = lb at *
    have t0 : IntKind.i64.wrap ((lb : Int) + 1) = (lb : Int) + 1 := by rw [IntKind.wrap_i64]; omega
    go_enter Tryz.func167, Tryz.ntmps167
    go_wp2_with fail
    refine HF.out.mono ?_
    rintro e w1 ⟨rfl, hb⟩
    have H1 := Lib.hid hb
    clear hb
    go_wp2_with fail
    refine (HD2.out _ H1.out).mono ?_
    rintro e w3 ⟨v', rfl, ho3, hg3⟩
    have HO3 := Lib.hid (And.intro ho3 hg3)
    clear ho3 hg3
    go_wp2
    go_ret
    exact ⟨_, rfl, HO3.out.1, HO3.out.2⟩
  · have hf : hasK (m.map (·.td.n)) want = false := by simpa using hh
    refine Calls.mono (R := fun e w' => e = .returned (.slice a m.length c) ∧ Below w.heap.size w w') ?_ (fun e w' h => .inl ⟨hf, h⟩)
    rw [hf] at HF
    clear hsl ho hr HG HD hh hf
    generalize lbK (m.map (·.td.n)) want = lb at *
    go_enter Tryz.func167, Tryz.ntmps167
    go_wp2_with fail
    refine HF.out.mono ?_
    rintro e w1 ⟨rfl, hb⟩
    have H1 := Lib.hid hb
    clear hb
    go_wp2
    go_ret
    exact ⟨rfl, H1.out⟩
end Bo
end Go.Proofs.YthbmnkeigmbbdaaGreat

/-
  BINDS: ONE PUT IN, ONE TAKEN OUT: book.add, book.drop.
-/
namespace Go.Proofs.YthbmnkeigmbbdaaGreat
open Go.RowKit Go.Lib
namespace Bo
open Rw
set_option linter.unusedVariables false
theorem after_b {w w1 w2 : World} {own : Option Nat} (h : Below w.heap.size w w1) (hg : w1.grownBy w2 own) : w.grownBy w2 own :=
  ⟨hg.os.trans h.os, hg.tape.trans h.tape, hg.output.trans h.output, Nat.le_trans h.size hg.size, fun k hk hne => (hg.block k (Nat.lt_of_lt_of_le hk h.size) hne).trans (h.block k hk)⟩

/-- What drop leaves: the list as it was, or without the one of that name. -/
def DropB (w : World) (base : Nat) (v : Value) (m : List Rg.Pr) (want : ByteArray) (e : Ending) (w' : World) : Prop :=
  (hasK (m.map (·.k)) want = false ∧ e = .returned v ∧ Below w.heap.size w w') ∨
  (hasK (m.map (·.k)) want = true ∧ ∃ v', e = .returned v' ∧ Own w' base 106 v' (m.eraseIdx (lbK (m.map (·.k)) want)) ∧ w.grownBy w' v.ownBlock)
set_option maxRecDepth 100000 in
set_option maxHeartbeats 4000000 in
theorem drop_b (v : Value) (m : List Rg.Pr) (base : Nat) (want : ByteArray) (w : World) (ho : Own w base 106 v m) (hr : Ris (m.map (·.k))) (h4 : m.length ≤ 4096) :
    Calls Tryz.prog 168 #[v, .func (.func 67) #[] #[], .string want] w (DropB w base v m want) := by
  have hsl : Sl w base w.heap.size v m := ho.sl (by omega)
  have HF : Hid (Calls Tryz.prog 125 #[v, .func (.func 67) #[] #[], .string want] w fun e w' => e = .returned (.tuple #[.int .i64 (lbK (m.map (·.k)) want : Nat), .bool (hasK (m.map (·.k)) want)]) ∧ Below w.heap.size w w') := (find_b v m want w hsl hr)
  have HG := fun h => has_get hr (x := want) h
  have HD : Hid (hasK (m.map (·.k)) want = true → ∀ z, Below w.heap.size w z → Calls Tryz.prog 205 #[v, .int .i64 (lbK (m.map (·.k)) want : Nat), .int .i64 ((lbK (m.map (·.k)) want : Int) + 1)] z fun e w' => ∃ v', e = .returned v' ∧ Own w' base 106 v' (m.eraseIdx (lbK (m.map (·.k)) want)) ∧ w.grownBy w' v.ownBlock) := fun h z hz => by
    obtain ⟨hl, -⟩ := HG h
    rw [List.length_map] at hl
    refine (delete_b v m _ base z (ho.keep hz) h4 hl).mono ?_
    rintro e w' ⟨v', he, h2, h3⟩
    exact ⟨v', he, h2, after_b hz h3⟩
  have hle := lb_le (m.map (·.k)) want
  rw [List.length_map] at hle
  obtain ⟨a, c, rfl⟩ := ho.slice
  unfold DropB
  by_cases hh : hasK (m.map (·.k)) want = true
  · refine Calls.mono (R := fun e w' => ∃ v', e = .returned v' ∧ Own w' base 106 v' (m.eraseIdx (lbK (m.map (·.k)) want)) ∧ w.grownBy w' (.slice a m.length c : Value).ownBlock) ?_ (fun e w' h => .inr ⟨hh, h⟩)
    have HD2 := Lib.hid (HD.out hh)
    rw [hh] at HF
    clear hsl ho hr HG HD hh
    generalize m.eraseIdx (lbK (m.map (·.k)) want) = lm at *
    generalize lbK (m.map (·.k)) want = lb at *
    have t0 : IntKind.i64.wrap ((lb : Int) + 1) = (lb : Int) + 1 := by rw [IntKind.wrap_i64]; omega
    go_enter Tryz.func168, Tryz.ntmps168
    go_wp2_with fail
    refine HF.out.mono ?_
    rintro e w1 ⟨rfl, hb⟩
    have H1 := Lib.hid hb
    clear hb
    go_wp2_with fail
    refine (HD2.out _ H1.out).mono ?_
    rintro e w3 ⟨v', rfl, ho3, hg3⟩
    have HO3 := Lib.hid (And.intro ho3 hg3)
    clear ho3 hg3
    go_wp2
    go_ret
    exact ⟨_, rfl, HO3.out.1, HO3.out.2⟩
  · have hf : hasK (m.map (·.k)) want = false := by simpa using hh
    refine Calls.mono (R := fun e w' => e = .returned (.slice a m.length c) ∧ Below w.heap.size w w') ?_ (fun e w' h => .inl ⟨hf, h⟩)
    rw [hf] at HF
    clear hsl ho hr HG HD hh hf
    generalize lbK (m.map (·.k)) want = lb at *
    go_enter Tryz.func168, Tryz.ntmps168
    go_wp2_with fail
    refine HF.out.mono ?_
    rintro e w1 ⟨rfl, hb⟩
    have H1 := Lib.hid hb
    clear hb
    go_wp2
    go_ret
    exact ⟨rfl, H1.out⟩
end Bo
end Go.Proofs.YthbmnkeigmbbdaaGreat
