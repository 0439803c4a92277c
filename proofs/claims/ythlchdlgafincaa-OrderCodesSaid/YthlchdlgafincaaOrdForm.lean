/-
  A RIGHT COMMAND's form, and how small it is.
-/
import Derived.Test.YthlchdlgafincaaOrdCheck
namespace Go.Proofs.Ythlchdlgafincaa
open Go.RowKit
namespace Hd
open PM Hc Rg
/-- Small pairs, a small node, a small task. -/
def SmP (ps : List Rg.Pr) : Prop := ps.length ≤ 4 ∧ ∀ p ∈ ps, p.k.size ≤ 32 ∧ p.v.size ≤ 32
def SmZ (z : Int) : Prop := 0 ≤ z ∧ z ≤ 1099511627776
structure SmN (m : Nd) : Prop where
  nm : m.n.size ≤ 32
  z0 : SmZ m.z0
  z1 : SmZ m.z1
  z2 : SmZ m.z2
  ls : SmP m.ls
  ts : SmP m.ts
structure SmT (m : Td) : Prop where
  nm : m.n.size ≤ 32
  z0 : SmZ m.z0
  z1 : SmZ m.z1
  z2 : SmZ m.z2
  ws : SmP m.ws
  bs : SmP m.bs
  g : m.g.size ≤ 32
  a : m.a.size ≤ 32
  r : -1000 ≤ m.r ∧ m.r ≤ 1000
theorem nm_small {s : ByteArray} (h : nameB s = true) : s.size ≤ 32 := by
  unfold nameB at h
  simp only [Bool.and_eq_true, decide_eq_true_eq] at h
  exact h.1.2
theorem noe_small {s : ByteArray} (h : noeB s = true) : s.size ≤ 32 := by
  unfold noeB at h
  rw [Bool.or_eq_true] at h
  rcases h with h | h
  · rw [List.isEmpty_iff, ByteArray.toList_eq] at h
    have : s.size = 0 := by
      show s.data.size = 0
      rw [← Array.length_toList, h]; rfl
    omega
  · exact nm_small h
theorem in_small {z : Int} (h : inB z 1099511627776 = true) : SmZ z := by
  unfold inB at h
  simp at h
  exact ⟨by omega, by omega⟩
theorem upto_small {z0 z1 z2 : Int} (h : uptoB z0 z1 z2 1099511627776 = true) : SmZ z0 ∧ SmZ z1 ∧ SmZ z2 := by
  unfold uptoB at h
  rw [Bool.and_eq_true, Bool.and_eq_true] at h
  exact ⟨in_small h.1, in_small h.2.1, in_small h.2.2⟩
theorem at_small {l : List Rg.Pr} {i : Nat} (hi : i < l.length) (h : atB l i = true) : l[i].k.size ≤ 32 ∧ l[i].v.size ≤ 32 := by
  unfold atB at h
  rw [List.getElem?_eq_getElem hi] at h
  simp only [Bool.and_eq_true] at h
  exact ⟨nm_small h.1.1, noe_small h.1.2⟩
theorem pr_small {l : List Rg.Pr} (h : Rg.prB l = true) : SmP l := by
  unfold Rg.prB at h
  rw [Bool.and_eq_true] at h
  refine ⟨of_decide_eq_true h.1, fun p hp => ?_⟩
  obtain ⟨i, hi, rfl⟩ := List.getElem_of_mem hp
  have h2 := h.2
  unfold prT at h2
  rw [List.all_eq_true] at h2
  exact at_small hi (h2 i (by simpa using hi))
theorem nE_small {n : Nd} (h : nE n = 0) : SmN n := by
  unfold nE nodeE at h
  split at h
  · rename_i h1
    split at h
    · rename_i h2
      split at h
      · rename_i h3
        split at h
        · rename_i h4
          obtain ⟨a, b, c⟩ := upto_small h2
          exact ⟨nm_small h1, a, b, c, pr_small h3, pr_small h4⟩
        · omega
      · omega
    · omega
  · omega
theorem tE_small {n : Td} (h : tE n = 0) : SmT n := by
  unfold tE taskE at h
  split at h
  · rename_i h1
    split at h
    · rename_i h2
      split at h
      · omega
      · rename_i h3
        split at h
        · omega
        · rename_i h4
          split at h
          · rename_i h5
            split at h
            · rename_i h6
              split at h
              · rename_i h7
                split at h
                · rename_i h8
                  obtain ⟨a, b, c⟩ := upto_small h2
                  exact ⟨nm_small h1, a, b, c, pr_small h5, pr_small h6, noe_small h7, noe_small h8, by omega, by omega⟩
                · omega
              · omega
            · omega
          · omega
    · omega
  · omega
theorem zB_eq {s : ByteArray} (h : zB s = true) : s = ⟨#[]⟩ := ba_size0 (of_decide_eq_true h)
theorem zNd_eq {n : Nd} (h : zNd n = true) : n = nd0 := by
  obtain ⟨nn, z0, z1, z2, ls, ts⟩ := n
  unfold zNd zN at h
  simp only [Bool.and_eq_true] at h
  obtain ⟨h1, h2, h3, h4⟩ := h
  obtain ⟨rfl, rfl, rfl⟩ := eqA_true h2
  obtain rfl := zB_eq h1
  have e3 : ls = [] := List.eq_nil_of_length_eq_zero (of_decide_eq_true h3)
  have e4 : ts = [] := List.eq_nil_of_length_eq_zero (of_decide_eq_true h4)
  subst e3
  subst e4
  rfl
theorem zTd_eq {n : Td} (h : zTd n = true) : n = td0 := by
  obtain ⟨nn, z0, z1, z2, ls, ts, g, a, r⟩ := n
  unfold zTd zT at h
  simp only [Bool.and_eq_true] at h
  obtain ⟨h1, h2, h3, h4, h5, h6, h7⟩ := h
  obtain ⟨rfl, rfl, rfl⟩ := eqA_true h2
  obtain rfl := zB_eq h1
  obtain rfl := zB_eq h5
  obtain rfl := zB_eq h6
  have e3 : ls = [] := List.eq_nil_of_length_eq_zero (of_decide_eq_true h3)
  have e4 : ts = [] := List.eq_nil_of_length_eq_zero (of_decide_eq_true h4)
  have e7 : r = 0 := of_decide_eq_true h7
  subst e3
  subst e4
  subst e7
  rfl
/-- A right command's form, by its kind. -/
inductive CkForm : Cd → Prop
  | node (cl sq : Nat) (nd : Nd) (h : nE nd = 0) : CkForm ⟨cl, sq, 1, nd, td0, ⟨#[]⟩, ⟨#[]⟩, 0⟩
  | task (cl sq : Nat) (td : Td) (h : tE td = 0) : CkForm ⟨cl, sq, 3, nd0, td, ⟨#[]⟩, ⟨#[]⟩, 0⟩
  | bind (cl sq : Nat) (na on : ByteArray) (fe : Nat) (h1 : nameB na = true) (h2 : nameB on = true) : CkForm ⟨cl, sq, 5, nd0, td0, na, on, fe⟩
  | name (cl sq k : Nat) (na : ByteArray) (hk : k = 2 ∨ k = 4 ∨ k = 6 ∨ k = 7) (h1 : nameB na = true) : CkForm ⟨cl, sq, k, nd0, td0, na, ⟨#[]⟩, 0⟩
theorem ck_form {c : Cd} (h : ckB c = true) : CkForm c ∧ (c.cl ≠ 0 ∨ c.sq = 0) := by
  obtain ⟨cl, sq, k, nd, td, na, on, fe⟩ := c
  unfold ckB at h
  simp only [Bool.and_eq_true] at h
  obtain ⟨h1, h2, h3⟩ := h
  refine ⟨?_, ?_⟩
  · unfold coB at h1
    unfold rfB at h2
    simp only at h1 h2
    by_cases k1 : k = 1
    · subst k1
      rw [if_pos rfl] at h1 h2
      simp only [Bool.and_eq_true] at h1
      obtain ⟨a, b, c, d⟩ := h1
      obtain rfl := zTd_eq a
      obtain rfl := zB_eq b
      obtain rfl := zB_eq c
      obtain rfl : fe = 0 := of_decide_eq_true d
      exact .node cl sq nd (of_decide_eq_true h2)
    · rw [if_neg k1] at h1 h2
      by_cases k3 : k = 3
      · subst k3
        rw [if_pos rfl] at h1 h2
        simp only [Bool.and_eq_true] at h1
        obtain ⟨a, b, c, d⟩ := h1
        obtain rfl := zNd_eq a
        obtain rfl := zB_eq b
        obtain rfl := zB_eq c
        obtain rfl : fe = 0 := of_decide_eq_true d
        exact .task cl sq td (of_decide_eq_true h2)
      · rw [if_neg k3] at h1 h2
        by_cases k5 : k = 5
        · subst k5
          rw [if_pos rfl] at h1 h2
          simp only [Bool.and_eq_true] at h1 h2
          obtain rfl := zNd_eq h1.1
          obtain rfl := zTd_eq h1.2
          exact .bind cl sq na on fe h2.1 h2.2
        · rw [if_neg k5] at h1 h2
          split at h1
          · rename_i hk
            simp only [Bool.and_eq_true] at h1
            obtain ⟨a, b, c, d⟩ := h1
            obtain rfl := zNd_eq a
            obtain rfl := zTd_eq b
            obtain rfl := zB_eq c
            obtain rfl : fe = 0 := of_decide_eq_true d
            exact .name cl sq k na hk h2
          · cases h1
  · by_cases hc : cl = 0
    · right
      subst hc
      by_cases hs : sq = 0
      · exact hs
      · exfalso
        simp [zF, hs] at h3
    · exact .inl hc
theorem SmP.fit {ps : List Rg.Pr} (h : SmP ps) : FitP ps := ⟨by have := h.1; omega, fun p hp => by have := h.2 p hp; omega⟩
theorem SmZ.fit {z : Int} (h : SmZ z) : FitZ z := ⟨h.1, by have := h.2; omega⟩
/-- How great numbers may be. -/
structure Bnd (c : Cd) : Prop where
  cl : c.cl < 2 ^ 64
  sq : c.sq < 2 ^ 64
  k : c.k < 256
  fe : c.fe < 2 ^ 64
theorem fit_of {c : Cd} (h : CkForm c) (hb : Bnd c) : FitC c := by
  refine ⟨hb.cl, hb.sq, hb.k, ?_, ?_, ?_, ?_⟩
  · intro hk
    cases h with
    | node cl sq nd h => have := nE_small h; exact ⟨by have := this.nm; show nd.n.size ≤ 1000; omega, this.z0.fit, this.z1.fit, this.z2.fit, this.ls.fit, this.ts.fit⟩
    | task => cases hk
    | bind => cases hk
    | name cl sq k na hk2 => simp only at hk; omega
  · intro hk
    cases h with
    | node => cases hk
    | task cl sq td h => have := tE_small h; exact ⟨by have := this.nm; show td.n.size ≤ 1000; omega, this.z0.fit, this.z1.fit, this.z2.fit, this.ws.fit, this.bs.fit, by have := this.g; show td.g.size ≤ 1000; omega, by have := this.a; show td.a.size ≤ 1000; omega, this.r⟩
    | bind => cases hk
    | name cl sq k na hk2 => simp only at hk; omega
  · intro hk
    cases h with
    | node => cases hk
    | task => cases hk
    | bind cl sq na on fe h1 h2 => exact ⟨by have := nm_small h2; show on.size ≤ 1000; omega, hb.fe⟩
    | name cl sq k na hk2 => simp only at hk; omega
  · intro k1 k3
    cases h with
    | node => exact absurd rfl k1
    | task => exact absurd rfl k3
    | bind cl sq na on fe h1 h2 => have := nm_small h1; show na.size ≤ 1000; omega
    | name cl sq k na hk2 h1 => have := nm_small h1; show na.size ≤ 1000; omega
/-- What a command is written as, and whether it can be. -/
def ceS (c : Cd) : List UInt8 := if ckB c = true then cmY c else []
def CeIs (c : Cd) (e : Ending) : Prop := e = .returned (.tuple #[.string (bs (ceS c)), .int .i64 (coE (ckB c) : Nat)])
theorem CeIs.no {c : Cd} (h : ckB c = false) : CeIs c (.returned (.tuple #[.string ⟨#[]⟩, .int .i64 4])) := by unfold CeIs ceS coE; rw [h]; rfl
theorem CeIs.yes {c : Cd} (h : ckB c = true) : CeIs c (.returned (.tuple #[.string (bs (cmY c)), .int .i64 0])) := by unfold CeIs ceS coE; rw [h]; rfl
theorem cmY_ne (c : Cd) : cmY c ≠ [] := by simp [cmY, num]
set_option maxRecDepth 100000 in
set_option maxHeartbeats 2000000 in
theorem cmd_encode (C : Cd) (v2 v3 v4 v5 : Value) (w : World) (hp : PrsIn w w.heap.size C v2 v3 v4 v5) (hl : Lens C) (hb : Bnd C) :
    Calls Try.prog 10 #[.agg (cdC C v2 v3 v4 v5).toArray] w fun e w' => CeIs C e ∧ Below w.heap.size w w' := by
  have HB0 : Hid (Below w.heap.size w (w.alloc (.cells (cdC C v2 v3 v4 v5).toArray 33))) := (Below.refl _ _).alloc (Nat.le_refl _) _
  have HX0 : Hid (Bxn (w.alloc (.cells (cdC C v2 v3 v4 v5).toArray 33)) w.heap.size (cdC C v2 v3 v4 v5)) := Bxn.made w _ _
  have KA : Hid (∀ z, Below w.heap.size w z → Calls Try.prog 16 #[.agg (cdC C v2 v3 v4 v5).toArray] z fun e w' => e = .returned (.int .i64 (coE (ckB C) : Nat)) ∧ Below z.heap.size z w') := fun z hz => check_cmd C v2 v3 v4 v5 z ⟨(hp.h2.ovr hz), (hp.h3.ovr hz), (hp.h4.ovr hz), (hp.h5.ovr hz)⟩ hl
  cases hk : ckB C with
  | false =>
    have HN := Lib.hid (CeIs.no hk)
    rw [hk] at KA
    clear hl hb hp hk
    obtain ⟨CS, hCS⟩ : ∃ CS, CS = (cdC C v2 v3 v4 v5).toArray := ⟨_, rfl⟩
    rw [← hCS] at HB0 HX0 ⊢
    clear hCS
    go_enter Try.func10, Try.ntmps10
    go_upto_region 1 with fail
    generalize w.alloc (.cells CS 33) = W0 at *
    have R0 := Lib.hid (HX0.out.range 0)
    refine wp_region_list ?_
    refine wpList_load_mid rfl 33 (.tmp 1) rfl w.heap.size 0 rfl (cdC C v2 v3 v4 v5) _ R0.out Try.underlying33 rfl rfl ?_
    go_wp2_with fail
    refine (KA.out _ HB0.out).mono ?_
    rintro e w1 ⟨rfl, hb⟩
    have HB1 := Lib.hid (HB0.out.trans (hb.mono HB0.out.size))
    clear hb
    go_wp2
    go_ret2
    exact ⟨HN.out, HB1.out⟩
  | true =>
    have HY := Lib.hid (CeIs.yes hk)
    rw [hk] at KA
    have hf := fit_of (ck_form hk).1 hb
    have KM : Hid (∀ z : World, Below w.heap.size w z → Calls Try.prog 22 #[.pointer (some ⟨z.heap.size, 0, none⟩), .agg (cdC C v2 v3 v4 v5).toArray] (z.alloc (.cells #[.pointer none, .slice none 0 0] 62)) fun e w' => e = .returned (.tuple #[]) ∧ Mk w' z.heap.size z.heap.size (cmY C) ∧ Fr z.heap.size z.heap.size (z.alloc (.cells #[.pointer none, .slice none 0 0] 62)) w') := fun z hz => by
      have hz2 : Below w.heap.size w (z.alloc (.cells #[.pointer none, .slice none 0 0] 62)) := hz.trans (((Below.refl _ _).alloc (Nat.le_refl _) _).mono hz.size)
      have := command_make z.heap.size z.heap.size [] (z.alloc (.cells #[.pointer none, .slice none 0 0] 62)) C v2 v3 v4 v5 hf ⟨(hp.h2.keep hz2).more hz.size, (hp.h3.keep hz2).more hz.size, (hp.h4.keep hz2).more hz.size, (hp.h5.keep hz2).more hz.size⟩ (Mk.made _ fits_order z) (by simp) (by simp)
      rw [List.nil_append] at this
      exact this
    have HNE := Lib.hid (cmY_ne C)
    clear hl hb hp hk hf
    obtain ⟨CS, hCS⟩ : ∃ CS, CS = (cdC C v2 v3 v4 v5).toArray := ⟨_, rfl⟩
    rw [← hCS] at HB0 HX0 ⊢
    clear hCS
    go_enter Try.func10, Try.ntmps10
    go_upto_region 1 with fail
    generalize w.alloc (.cells CS 33) = W0 at *
    have R0 := Lib.hid (HX0.out.range 0)
    refine wp_region_list ?_
    refine wpList_load_mid rfl 33 (.tmp 1) rfl w.heap.size 0 rfl (cdC C v2 v3 v4 v5) _ R0.out Try.underlying33 rfl rfl ?_
    go_wp2_with fail
    refine (KA.out _ HB0.out).mono ?_
    rintro e w1 ⟨rfl, hb⟩
    have HB1 := Lib.hid (HB0.out.trans (hb.mono HB0.out.size))
    have HX1 := Lib.hid (HX0.out.below hb)
    have HS1 := Lib.hid HB1.out.size
    clear hb
    have hm1 : Below w1.heap.size w1 (w1.alloc (.cells #[.pointer none, .slice none 0 0] 62)) := (Below.refl _ _).alloc (Nat.le_refl _) _
    have R1 := Lib.hid ((HX1.out.below hm1).range 0)
    have HB2 := Lib.hid (HB1.out.trans (hm1.mono HB1.out.size))
    clear hm1
    generalize Value.agg CS = A0
    go_upto_region 5 with fail
    refine wp_region_list ?_
    refine wpList_load_mid rfl 33 (.tmp 1) rfl w.heap.size 0 rfl (cdC C v2 v3 v4 v5) _ R1.out Try.underlying33 rfl rfl ?_
    go_wp2_with fail
    refine (KM.out w1 HB1.out).mono ?_
    rintro e w2 ⟨rfl, h2, hf2⟩
    have HM2 := Lib.hid h2
    have HB3 := Lib.hid (HB2.out.trans (hf2.1.mono HS1.out))
    clear h2 hf2
    go_wp2_with fail
    refine (mk_bytes w1.heap.size w1.heap.size (cmY C) _ HM2.out HNE.out).mono ?_
    rintro e w3 ⟨rfl, hb⟩
    have HB4 := Lib.hid (HB3.out.trans (hb.mono HS1.out))
    clear hb
    go_wp2
    go_ret2
    exact ⟨HY.out, HB4.out⟩
end Hd
end Go.Proofs.Ythlchdlgafincaa
