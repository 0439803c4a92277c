/-
  QuorumMore.
-/
import Derived.Test.YtndihliagcgdeaaQuLaw3
import Derived.Test.YtndihliagcgdeaaQuArg
import Derived.Laws.AppendOwnNone
namespace Go.Proofs.Ytndihliagcgdeaa
open Go.RowKit Go.Lib
namespace Qu
open Lo
set_option linter.unusedVariables false
theorem OwnZ.none_made (w : World) (base : Nat) (T : TypeId) (hb : base ≤ w.heap.size) (hT : T = 3) : OwnZ (w.alloc (.cells #[] T)) base (.slice (some ⟨w.heap.size, 0, none⟩) 0 0) [] := by
  subst hT
  exact ⟨rfl, .inr ⟨w.heap.size, 0, #[], rfl, hb, heap_alloc_new w _, Nat.le_refl _, by unfold maxLen; omega, by simp, by simp⟩⟩
section
variable {w : World}
theorem run_append_ints (base : Nat) (ty : TypeId) (v : Value) (xs : List Int) (hown : OwnZ w base v xs) {A B : Nat} (a : Option Addr) (c : Nat) (so : List Int) (hnil : a = none → c = 0) (hs : IntsR w A B (.slice a so.length c) so)
    (hx : xs.length ≤ 17592186044416) (hbytes : (xs.length + so.length) * 8 ≤ 140737488355328) (hbase : base ≤ w.heap.size) :
    ∃ v' w', (Builtin.append_ #[22, 22] ty #[v, .slice a so.length c]).run Try.prog w = .ok v' w' ∧ OwnZ w' base v' (xs ++ so) ∧ w.grownBy w' v.ownBlock := by
  obtain ⟨i0, hi, hq0, hq1, hq2⟩ := info_parts info_int
  have hln : so.length ≤ 17592186044416 := by obtain ⟨-, -, -, h2, -⟩ := hs; exact h2
  cases a with
  | none =>
    have h0 : so = [] := by
      obtain ⟨a', c', he, -, -, hc⟩ := hs
      apply List.eq_nil_of_length_eq_zero
      apply Nat.eq_zero_of_not_pos
      intro hp
      obtain ⟨b, off, rfl, -⟩ := hc hp
      simp at he
    subst h0
    have hc0 := hnil rfl
    subst hc0
    refine ⟨v, w, run_append_owned_none (P := Try.prog) (w := w) base 22 ty 3 i0 1 Try.underlying22 hi v _ _ hown, by rw [List.append_nil]; exact hown, World.grownBy.refl w _⟩
  | some ad =>
    obtain ⟨v', w', hr, h2, h3, -⟩ := run_append_own (P := Try.prog) w base 22 ty 3 i0 _ 1 8 Try.underlying22 hi hq0 hq1 hq2 rfl (by omega) v xs.length _ hown ad so.length c (so.map fun k => .int .i64 k) (by simp) (ints_cells hs ad rfl) (map_one so) (by unfold maxLen; omega) (by omega) hbase
    refine ⟨v', w', hr, ?_, h3⟩
    show w'.ownsRow _ _ _ _ _ _
    rw [List.length_append, List.map_append]
    exact h2
theorem wpList_append_ints {ops : Array Oper} {rest : List Oper} {o : Oper} {a : Act} {Q : Exit → Act → World → Prop} (hgd : o.guard = none) (s x : Operand)
    (ho : o.op = .call { callee := .builtin .append, args := #[s, x], argTypes := #[22, 22] })
    (base : Nat) (v : Value) (xs : List Int) (hs : a.eval s = v) (hown : OwnZ w base v xs) {A B : Nat} (ad : Option Addr) (c : Nat) (so : List Int) (hx : a.eval x = .slice ad so.length c) (hnil : ad = none → c = 0) (hsrc : IntsR w A B (.slice ad so.length c) so)
    (hxl : xs.length ≤ 17592186044416) (hbytes : (xs.length + so.length) * 8 ≤ 140737488355328) (hbase : base ≤ w.heap.size)
    (h : ∀ v' w', OwnZ w' base v' (xs ++ so) → w.grownBy w' v.ownBlock → wpList Try.prog ops Q rest (a.put o.dst v') w') : wpList Try.prog ops Q (o :: rest) a w := by
  obtain ⟨v', w', hrun, h2, h3⟩ := run_append_ints base o.type v xs hown ad c so hnil hsrc hxl hbytes hbase
  refine wpList_plain hgd fun K hK => ?_
  unfold Oper.wp execOp
  simp only [ho, resolve, invoke, builtin, Sem.run_bind, Sem.run_pure, Result.andThen_ok, List.map_toArray, List.map_cons, List.map_nil, hs, hx, hrun]
  exact hK _ _ (h v' w' h2 h3)
end
theorem most_more (ks so more : List Int) (h : mostB ks so = true) : mostB ks (so ++ more) = true := by
  unfold mostB at *
  rw [Bool.and_eq_true] at *
  exact ⟨h.1, most_mono (fun m _ hm => by rw [hasI_mem] at *; exact List.mem_append_left _ hm) h.2⟩
theorem most_half (ks : List Int) : mostB ks (ks.take (ks.length / 2)) = false := by
  unfold mostB
  cases h : rmB ks
  · rfl
  · have e := cnt_firsts (rm_nodup h) (ks.length / 2) (Nat.div_le_self _ _)
    rw [Bool.true_and, ← Bool.not_eq_true, most_iff, e]
    omega
theorem most_half1 (ks : List Int) (h : rmB ks = true) : mostB ks (ks.take (ks.length / 2 + 1)) = true := by
  have hp := rm_pos h
  have e := cnt_firsts (rm_nodup h) (ks.length / 2 + 1) (by omega)
  unfold mostB
  rw [h, Bool.true_and, most_iff, e]
  omega
theorem IntsR.take {w : World} {A B : Nat} {a : Option Addr} {n c : Nat} {ks : List Int} (h : IntsR w A B (.slice a n c) ks) (k : Nat) (hk : k ≤ ks.length) : IntsR w A B (.slice a k c) (ks.take k) := by
  obtain ⟨a', c', e, h1, h2, h3⟩ := h
  simp only [Value.slice.injEq] at e
  obtain ⟨rfl, -, rfl⟩ := e
  have hl : (ks.take k).length = k := by rw [List.length_take]; omega
  refine ⟨a, c, by rw [hl], by rw [hl]; omega, fun x hx => h2 x (List.mem_of_mem_take hx), fun hp => ?_⟩
  rw [hl] at hp
  obtain ⟨b, off, rfl, hA, hlt, hc⟩ := h3 (by omega)
  refine ⟨b, off, rfl, hA, hlt, fun i hi => ?_⟩
  rw [List.getElem_take]
  exact hc i (by omega)
set_option maxHeartbeats 8000000 in
theorem quorumMore (v u m : Value) (ks so mo : List Int) (w : World) (h : IntsC w v ks) (hu : IntsC w u so) (hm : IntsC w m mo) (hbk : so.length + mo.length ≤ 1048576) :
    Calls Try.prog 7 #[v, u, m] w fun e w' => e = .returned (.bool true) ∧ Below w.heap.size w w' := by
  have KM : Hid (∀ z, Below w.heap.size w z → Calls Try.prog 10 #[] z fun e z' => e = .returned (.bool true) ∧ Below z.heap.size z z') := fun z _ => most_true z
  have KS : Hid (∀ z, Below w.heap.size w z → Calls Try.prog 11 #[] z fun e z' => e = .returned (.bool true) ∧ Below z.heap.size z z') := fun z _ => settled_true z
  have HB0 : Hid (Below w.heap.size w w) := Below.refl _ _
  obtain ⟨h, a, c, rfl, hcap, hnil⟩ := h
  obtain ⟨hu, a2, c2, rfl, -, hnil2⟩ := hu
  obtain ⟨hm, a3, c3, rfl, -, hnil3⟩ := hm
  have hl : ks.length ≤ 17592186044416 := by obtain ⟨-, -, -, h2, -⟩ := h; exact h2
  have hl2 : so.length ≤ 17592186044416 := by obtain ⟨-, -, -, h2, -⟩ := hu; exact h2
  have hl3 : mo.length ≤ 17592186044416 := by obtain ⟨-, -, -, h2, -⟩ := hm; exact h2
  have K1 : Hid (∀ z, Below w.heap.size w z → Calls Try.prog 12 #[.slice a ks.length c, .slice a2 so.length c2] z fun e z' => e = .returned (.bool (mostB ks so)) ∧ Below z.heap.size z z') := fun z hz => the_majority _ _ ks so z (h.on hz) (hu.on hz)
  have K2 : Hid (mostB ks so = true → ∀ z y, Below w.heap.size w z → OwnZ z w.heap.size y (so ++ mo) → Calls Try.prog 12 #[.slice a ks.length c, y] z fun e z' => e = .returned (.bool true) ∧ Below z.heap.size z z') := by
    intro hk z y hz hy
    have hy2 := hy.ints (by rw [List.length_append]; omega) (fun x hx => by
      rcases List.mem_append.1 hx with hx | hx
      · obtain ⟨-, -, -, -, h3, -⟩ := hu; exact h3 x hx
      · obtain ⟨-, -, -, -, h3, -⟩ := hm; exact h3 x hx)
    have := the_majority _ y ks _ z (h.on hz) hy2
    rw [most_more ks so mo hk] at this
    exact this
  have K3 : Hid (∀ z, Below w.heap.size w z → Calls Try.prog 12 #[.slice a ks.length c, .slice a ks.length c] z fun e z' => e = .returned (.bool (rmB ks)) ∧ Below z.heap.size z z') := fun z hz => by
    have := the_majority _ _ ks ks z (h.on hz) (h.on hz)
    rw [most_self] at this
    exact this
  have K4 : Hid (∀ z, Below w.heap.size w z → Calls Try.prog 12 #[.slice a ks.length c, .slice a (ks.length / 2) c] z fun e z' => e = .returned (.bool false) ∧ Below z.heap.size z z') := fun z hz => by
    have := the_majority _ _ ks _ z (h.on hz) (IntsR.take (h.on hz) (ks.length / 2) (Nat.div_le_self _ _))
    rw [most_half] at this
    exact this
  have K5 : Hid (rmB ks = true → ∀ z, Below w.heap.size w z → Calls Try.prog 12 #[.slice a ks.length c, .slice a (ks.length / 2 + 1) c] z fun e z' => e = .returned (.bool true) ∧ Below z.heap.size z z') := fun hk z hz => by
    have hp := rm_pos hk
    have := the_majority _ _ ks _ z (h.on hz) (IntsR.take (h.on hz) (ks.length / 2 + 1) (by omega))
    rw [most_half1 ks hk] at this
    exact this
  have HU := Lib.hid (fun z (hz : Below w.heap.size w z) => hu.keep hz)
  have HV := Lib.hid (fun z (hz : Below w.heap.size w z) => hm.keep hz)
  have HN2 := Lib.hid hnil2
  have HN3 := Lib.hid hnil3
  have HX1 := Lib.hid (show ([] : List Int).length ≤ 17592186044416 by simp)
  have HX2 := Lib.hid (show (([] : List Int).length + so.length) * 8 ≤ 140737488355328 by simp; omega)
  have HX3 := Lib.hid (show (([] ++ so : List Int).length + mo.length) * 8 ≤ 140737488355328 by simp; omega)
  have HX4 := Lib.hid (show ([] ++ so : List Int).length ≤ 17592186044416 by simp; omega)
  have HSE : Hid (([] ++ so) ++ mo = so ++ mo) := rfl
  have HRP : Hid (rmB ks = true → 0 < ks.length) := rm_pos
  clear h hu hm hnil hnil2 hnil3
  have hdv : ((ks.length : Int) / 2) = ((ks.length / 2 : Nat) : Int) := by omega
  have hcap1 : ((ks.length / 2 : Nat) : Int) ≤ (c : Int) := by omega
  have HCP := Lib.hid hcap
  clear hcap
  cases hq : mostB ks so
  · rw [hq] at K1
    clear K2
    clear hq
    cases hr : rmB ks
    · rw [hr] at K3
      clear hr K4 K5
      go_enter Try.func7, Try.ntmps7
      go_wp2_with (go_at_call 10; (with_reducible refine (KM.out _ HB0.out).mono ?_); rintro e w1 ⟨rfl, hb⟩; have HB1 := Lib.hid (HB0.out.trans (hb.mono HB0.out.size)); clear hb)
      go_wp2_with (first | (go_at_call 11; (with_reducible refine (KS.out _ HB1.out).mono ?_); rintro e w2 ⟨rfl, hb⟩; have HB2 := Lib.hid (HB1.out.trans (hb.mono HB1.out.size)); clear hb; have HB2a := Lib.hid (HB2.out.alloc HB2.out.size (.cells #[] 3)); have HS2 := Lib.hid (show w.heap.size ≤ (w2.alloc (.cells #[] 3)).heap.size by rw [World.size_alloc]; have := HB2.out.size; omega); have HE0 := Lib.hid (OwnZ.none_made w2 w.heap.size 3 HB2.out.size rfl); have HU2 := Lib.hid (HU.out _ HB2a.out)) | (at_builtin; go_loud (refine wpList_append_ints rfl _ _ rfl w.heap.size _ [] rfl HE0.out a2 c2 so rfl HN2.out HU2.out HX1.out HX2.out HS2.out ?_; intro v1 w3 hown1 hg1; have HO1 := Lib.hid hown1; have HW3 := Lib.hid (HB2a.out.grown hg1 HS2.out (fun k hk => (World.ownsRow.lt HE0.out k hk).1)); have HV3 := Lib.hid (HV.out _ HW3.out); have HS3 := Lib.hid HW3.out.size; clear hown1 hg1)) | (at_builtin; go_loud (refine wpList_append_ints rfl _ _ rfl w.heap.size _ ([] ++ so) rfl HO1.out a3 c3 mo rfl HN3.out HV3.out HX4.out HX3.out HS3.out ?_; intro v2 w4 hown2 hg2; have HO2 : Hid (OwnZ w4 w.heap.size v2 (so ++ mo)) := hown2; have HW4 := Lib.hid (HW3.out.grown hg2 HS3.out (fun k hk => (World.ownsRow.lt HO1.out k hk).1)); clear hown2 hg2)))
      obtain ⟨va, vc, rfl⟩ : ∃ a c, v2 = .slice a (so.length + mo.length) c := by obtain ⟨a, c, e⟩ := HO2.out.slice; exact ⟨a, c, by rw [e, List.length_append]⟩
      go_wp2_with (go_at_call 12; (with_reducible refine (K1.out _ HW4.out).mono ?_); rintro e w5 ⟨rfl, hb⟩; have HB5 := Lib.hid (HW4.out.trans (hb.mono HW4.out.size)); clear hb)
      go_wp2_with (go_at_call 12; (with_reducible refine (K3.out _ HB5.out).mono ?_); rintro e y1 ⟨rfl, hb⟩; have HB7 := Lib.hid (HB5.out.trans (hb.mono HB5.out.size)); clear hb)
      go_wp2
      go_ret
      exact ⟨rfl, HB7.out⟩
    · rw [hr] at K3
      have HP := Lib.hid (HRP.out hr)
      have K5b := Lib.hid (K5.out hr)
      clear hr K5 HRP
      have hcap2 : ((ks.length / 2 : Nat) : Int) + 1 ≤ (c : Int) := by have := HP.out; have := HCP.out; omega
      have hw1 : IntKind.i64.wrap (((ks.length / 2 : Nat) : Int) + 1) = ((ks.length / 2 : Nat) : Int) + 1 := by rw [IntKind.wrap_i64]; omega
      have hw2 : (((ks.length / 2 : Nat) : Int) + 1).toNat = ks.length / 2 + 1 := by omega
      generalize hhf : ks.length / 2 = hf at *
      clear hhf
      go_enter Try.func7, Try.ntmps7
      go_wp2_with (go_at_call 10; (with_reducible refine (KM.out _ HB0.out).mono ?_); rintro e w1 ⟨rfl, hb⟩; have HB1 := Lib.hid (HB0.out.trans (hb.mono HB0.out.size)); clear hb)
      go_wp2_with (first | (go_at_call 11; (with_reducible refine (KS.out _ HB1.out).mono ?_); rintro e w2 ⟨rfl, hb⟩; have HB2 := Lib.hid (HB1.out.trans (hb.mono HB1.out.size)); clear hb; have HB2a := Lib.hid (HB2.out.alloc HB2.out.size (.cells #[] 3)); have HS2 := Lib.hid (show w.heap.size ≤ (w2.alloc (.cells #[] 3)).heap.size by rw [World.size_alloc]; have := HB2.out.size; omega); have HE0 := Lib.hid (OwnZ.none_made w2 w.heap.size 3 HB2.out.size rfl); have HU2 := Lib.hid (HU.out _ HB2a.out)) | (at_builtin; go_loud (refine wpList_append_ints rfl _ _ rfl w.heap.size _ [] rfl HE0.out a2 c2 so rfl HN2.out HU2.out HX1.out HX2.out HS2.out ?_; intro v1 w3 hown1 hg1; have HO1 := Lib.hid hown1; have HW3 := Lib.hid (HB2a.out.grown hg1 HS2.out (fun k hk => (World.ownsRow.lt HE0.out k hk).1)); have HV3 := Lib.hid (HV.out _ HW3.out); have HS3 := Lib.hid HW3.out.size; clear hown1 hg1)) | (at_builtin; go_loud (refine wpList_append_ints rfl _ _ rfl w.heap.size _ ([] ++ so) rfl HO1.out a3 c3 mo rfl HN3.out HV3.out HX4.out HX3.out HS3.out ?_; intro v2 w4 hown2 hg2; have HO2 : Hid (OwnZ w4 w.heap.size v2 (so ++ mo)) := hown2; have HW4 := Lib.hid (HW3.out.grown hg2 HS3.out (fun k hk => (World.ownsRow.lt HO1.out k hk).1)); clear hown2 hg2)))
      obtain ⟨va, vc, rfl⟩ : ∃ a c, v2 = .slice a (so.length + mo.length) c := by obtain ⟨a, c, e⟩ := HO2.out.slice; exact ⟨a, c, by rw [e, List.length_append]⟩
      go_wp2_with (go_at_call 12; (with_reducible refine (K1.out _ HW4.out).mono ?_); rintro e w5 ⟨rfl, hb⟩; have HB5 := Lib.hid (HW4.out.trans (hb.mono HW4.out.size)); clear hb)
      go_wp2_with (go_at_call 12; (with_reducible refine (K3.out _ HB5.out).mono ?_); rintro e y1 ⟨rfl, hb⟩; have HB7 := Lib.hid (HB5.out.trans (hb.mono HB5.out.size)); clear hb)
      go_wp2_with (go_at_call 12; (with_reducible refine (K4.out _ HB7.out).mono ?_); rintro e y2 ⟨rfl, hb⟩; have HB8 := Lib.hid (HB7.out.trans (hb.mono HB7.out.size)); clear hb)
      go_wp2_with (go_at_call 12; (with_reducible refine (K5b.out _ HB8.out).mono ?_); rintro e y3 ⟨rfl, hb⟩; have HB9 := Lib.hid (HB8.out.trans (hb.mono HB8.out.size)); clear hb)
      go_wp2
      go_ret
      exact ⟨rfl, HB9.out⟩
  · rw [hq] at K1
    have K2b := Lib.hid (K2.out hq)
    clear K2
    clear hq
    cases hr : rmB ks
    · rw [hr] at K3
      clear hr K4 K5
      go_enter Try.func7, Try.ntmps7
      go_wp2_with (go_at_call 10; (with_reducible refine (KM.out _ HB0.out).mono ?_); rintro e w1 ⟨rfl, hb⟩; have HB1 := Lib.hid (HB0.out.trans (hb.mono HB0.out.size)); clear hb)
      go_wp2_with (first | (go_at_call 11; (with_reducible refine (KS.out _ HB1.out).mono ?_); rintro e w2 ⟨rfl, hb⟩; have HB2 := Lib.hid (HB1.out.trans (hb.mono HB1.out.size)); clear hb; have HB2a := Lib.hid (HB2.out.alloc HB2.out.size (.cells #[] 3)); have HS2 := Lib.hid (show w.heap.size ≤ (w2.alloc (.cells #[] 3)).heap.size by rw [World.size_alloc]; have := HB2.out.size; omega); have HE0 := Lib.hid (OwnZ.none_made w2 w.heap.size 3 HB2.out.size rfl); have HU2 := Lib.hid (HU.out _ HB2a.out)) | (at_builtin; go_loud (refine wpList_append_ints rfl _ _ rfl w.heap.size _ [] rfl HE0.out a2 c2 so rfl HN2.out HU2.out HX1.out HX2.out HS2.out ?_; intro v1 w3 hown1 hg1; have HO1 := Lib.hid hown1; have HW3 := Lib.hid (HB2a.out.grown hg1 HS2.out (fun k hk => (World.ownsRow.lt HE0.out k hk).1)); have HV3 := Lib.hid (HV.out _ HW3.out); have HS3 := Lib.hid HW3.out.size; clear hown1 hg1)) | (at_builtin; go_loud (refine wpList_append_ints rfl _ _ rfl w.heap.size _ ([] ++ so) rfl HO1.out a3 c3 mo rfl HN3.out HV3.out HX4.out HX3.out HS3.out ?_; intro v2 w4 hown2 hg2; have HO2 : Hid (OwnZ w4 w.heap.size v2 (so ++ mo)) := hown2; have HW4 := Lib.hid (HW3.out.grown hg2 HS3.out (fun k hk => (World.ownsRow.lt HO1.out k hk).1)); clear hown2 hg2)))
      obtain ⟨va, vc, rfl⟩ : ∃ a c, v2 = .slice a (so.length + mo.length) c := by obtain ⟨a, c, e⟩ := HO2.out.slice; exact ⟨a, c, by rw [e, List.length_append]⟩
      go_wp2_with (go_at_call 12; (with_reducible refine (K1.out _ HW4.out).mono ?_); rintro e w5 ⟨rfl, hb⟩; have HB5 := Lib.hid (HW4.out.trans (hb.mono HW4.out.size)); have HO5 := Lib.hid (HO2.out.keep hb); clear hb)
      go_wp2_with (go_at_call 12; (with_reducible refine (K2b.out _ _ HB5.out HO5.out).mono ?_); rintro e w6 ⟨rfl, hb⟩; have HB6 := Lib.hid (HB5.out.trans (hb.mono HB5.out.size)); clear hb)
      go_wp2_with (go_at_call 12; (with_reducible refine (K3.out _ HB6.out).mono ?_); rintro e y1 ⟨rfl, hb⟩; have HB7 := Lib.hid (HB6.out.trans (hb.mono HB6.out.size)); clear hb)
      go_wp2
      go_ret
      exact ⟨rfl, HB7.out⟩
    · rw [hr] at K3
      have HP := Lib.hid (HRP.out hr)
      have K5b := Lib.hid (K5.out hr)
      clear hr K5 HRP
      have hcap2 : ((ks.length / 2 : Nat) : Int) + 1 ≤ (c : Int) := by have := HP.out; have := HCP.out; omega
      have hw1 : IntKind.i64.wrap (((ks.length / 2 : Nat) : Int) + 1) = ((ks.length / 2 : Nat) : Int) + 1 := by rw [IntKind.wrap_i64]; omega
      have hw2 : (((ks.length / 2 : Nat) : Int) + 1).toNat = ks.length / 2 + 1 := by omega
      generalize hhf : ks.length / 2 = hf at *
      clear hhf
      go_enter Try.func7, Try.ntmps7
      go_wp2_with (go_at_call 10; (with_reducible refine (KM.out _ HB0.out).mono ?_); rintro e w1 ⟨rfl, hb⟩; have HB1 := Lib.hid (HB0.out.trans (hb.mono HB0.out.size)); clear hb)
      go_wp2_with (first | (go_at_call 11; (with_reducible refine (KS.out _ HB1.out).mono ?_); rintro e w2 ⟨rfl, hb⟩; have HB2 := Lib.hid (HB1.out.trans (hb.mono HB1.out.size)); clear hb; have HB2a := Lib.hid (HB2.out.alloc HB2.out.size (.cells #[] 3)); have HS2 := Lib.hid (show w.heap.size ≤ (w2.alloc (.cells #[] 3)).heap.size by rw [World.size_alloc]; have := HB2.out.size; omega); have HE0 := Lib.hid (OwnZ.none_made w2 w.heap.size 3 HB2.out.size rfl); have HU2 := Lib.hid (HU.out _ HB2a.out)) | (at_builtin; go_loud (refine wpList_append_ints rfl _ _ rfl w.heap.size _ [] rfl HE0.out a2 c2 so rfl HN2.out HU2.out HX1.out HX2.out HS2.out ?_; intro v1 w3 hown1 hg1; have HO1 := Lib.hid hown1; have HW3 := Lib.hid (HB2a.out.grown hg1 HS2.out (fun k hk => (World.ownsRow.lt HE0.out k hk).1)); have HV3 := Lib.hid (HV.out _ HW3.out); have HS3 := Lib.hid HW3.out.size; clear hown1 hg1)) | (at_builtin; go_loud (refine wpList_append_ints rfl _ _ rfl w.heap.size _ ([] ++ so) rfl HO1.out a3 c3 mo rfl HN3.out HV3.out HX4.out HX3.out HS3.out ?_; intro v2 w4 hown2 hg2; have HO2 : Hid (OwnZ w4 w.heap.size v2 (so ++ mo)) := hown2; have HW4 := Lib.hid (HW3.out.grown hg2 HS3.out (fun k hk => (World.ownsRow.lt HO1.out k hk).1)); clear hown2 hg2)))
      obtain ⟨va, vc, rfl⟩ : ∃ a c, v2 = .slice a (so.length + mo.length) c := by obtain ⟨a, c, e⟩ := HO2.out.slice; exact ⟨a, c, by rw [e, List.length_append]⟩
      go_wp2_with (go_at_call 12; (with_reducible refine (K1.out _ HW4.out).mono ?_); rintro e w5 ⟨rfl, hb⟩; have HB5 := Lib.hid (HW4.out.trans (hb.mono HW4.out.size)); have HO5 := Lib.hid (HO2.out.keep hb); clear hb)
      go_wp2_with (go_at_call 12; (with_reducible refine (K2b.out _ _ HB5.out HO5.out).mono ?_); rintro e w6 ⟨rfl, hb⟩; have HB6 := Lib.hid (HB5.out.trans (hb.mono HB5.out.size)); clear hb)
      go_wp2_with (go_at_call 12; (with_reducible refine (K3.out _ HB6.out).mono ?_); rintro e y1 ⟨rfl, hb⟩; have HB7 := Lib.hid (HB6.out.trans (hb.mono HB6.out.size)); clear hb)
      go_wp2_with (go_at_call 12; (with_reducible refine (K4.out _ HB7.out).mono ?_); rintro e y2 ⟨rfl, hb⟩; have HB8 := Lib.hid (HB7.out.trans (hb.mono HB7.out.size)); clear hb)
      go_wp2_with (go_at_call 12; (with_reducible refine (K5b.out _ HB8.out).mono ?_); rintro e y3 ⟨rfl, hb⟩; have HB9 := Lib.hid (HB8.out.trans (hb.mono HB8.out.size)); clear hb)
      go_wp2
      go_ret
      exact ⟨rfl, HB9.out⟩
end Qu
end Go.Proofs.Ytndihliagcgdeaa
