/-
  NetMade: the walk.
-/
import Derived.Test.YtejolapbdkkdaaaNetLaw2
namespace Go.Proofs.Ytejolapbdkkdaaa
open Go.RowKit Go.Lib
namespace Nt
open Rw
set_option linter.unusedVariables false
theorem put_len {n l : List Pk} (h : netB n = true) : (putR n l).length = n.length + putN n l ∧ putN n l ≤ l.length ∧ (putR n l).length ≤ 4096 ∧ netB (putR n l) = true := by
  obtain ⟨h1, h2⟩ := right_put (l := l) h
  unfold putR putN
  rw [if_pos h, if_pos h]
  exact ⟨by rw [List.length_append], h2, net_len h1, h1⟩
set_option maxHeartbeats 8000000 in
set_option maxRecDepth 100000 in
theorem netMade (v vl vi : Value) (n l : List Pk) (is : List Int) (w : World) (h : Sl w 0 w.heap.size v n) (hl : Sl w 0 w.heap.size vl l) (hi : IntS w w.heap.size vi is) :
    Calls Try.prog 4 #[.agg #[v], vl, vi] w fun e w' => e = .returned (.bool true) ∧ Below w.heap.size w w' := by
  have KL : Hid (∀ z, Calls Try.prog 12 #[] z fun e w' => e = .returned (.bool true) ∧ Below z.heap.size z w') := fun z => lives_true z
  have KS : Hid (∀ z, Below w.heap.size w z → Calls Try.prog 8 #[.agg #[v], vl] z (SendIs z n l)) := fun z hz => send_any _ _ n l z (h.on hz) (hl.on hz)
  have KN : Hid (∀ (p : Pk) z, Below w.heap.size w z → Calls Try.prog 20 #[v, .agg #[.int .i64 p.f, .int .i64 p.t, .string p.d]] z fun e w' => e = .returned (.int .i64 (cntP p n : Nat)) ∧ Below z.heap.size z w') := fun p z hz => the_count v n p z (h.on hz)
  have KM : Hid (∀ (p : Pk) z, Below w.heap.size w z → Calls Try.prog 20 #[vl, .agg #[.int .i64 p.f, .int .i64 p.t, .string p.d]] z fun e w' => e = .returned (.int .i64 (cntP p l : Nat)) ∧ Below z.heap.size z w') := fun p z hz => the_count vl l p z (hl.on hz)
  have hnl := h.len
  have hll := hl.len
  obtain ⟨a, c, rfl⟩ := h.slice
  obtain ⟨a2, c2, rfl⟩ := hl.slice
  obtain ⟨ai, ci, rfl, hil, hic⟩ := hi
  have HIC := Lib.hid hic
  clear h hl hic
  have HB := Lib.hid (al w (.cells #[.slice a n.length c] 24))
  have HC0 := Lib.hid (cell_new w (.slice a n.length c) 24)
  have HZ : Hid (w.heap.size < (w.alloc (.cells #[.slice a n.length c] 24)).heap.size) := by show _ < _; simp
  cases hq : netB n
  · have HSD : Hid (∀ z e w', SendIs z n l e w' → ∃ c', ∃ a', e = .returned (.tuple #[.agg #[.slice a' 0 c'], .int .i64 0, .int .i64 10]) ∧ Below z.heap.size z w') := by
      rintro z e w' ⟨v', h1, h2, h3⟩
      rw [show putN n l = 0 by unfold putN; rw [hq]; rfl, show errN n = 10 by unfold errN; rw [hq]; rfl] at h1
      rw [show putR n l = [] by unfold putR; rw [hq]; rfl] at h2
      obtain ⟨a', c', rfl⟩ := Own.slice h2
      exact ⟨c', a', h1, h3⟩
    clear hq KN KM
    go_enter Try.func4, Try.ntmps4
    go_wp2_with (go_at_call 12; go_loud ((with_reducible refine (KL.out _).mono ?_); rintro e w1 ⟨rfl, hb⟩; have HB1 := Lib.hid (HB.out.trans (hb.mono HB.out.size)); have y0 := (hb.cell (p := ⟨w.heap.size, 0, none⟩) HZ.out).trans HC0.out; clear hb))
    go_wp2_with (go_at_call 8; go_loud ((with_reducible refine (KS.out _ HB1.out).mono ?_); intro e w2 ht; obtain ⟨c', a', rfl, hb⟩ := HSD.out _ _ _ ht; have HB2 := Lib.hid (HB1.out.trans (hb.mono HB1.out.size)); clear hb ht))
    go_wp2
    go_ret
    exact ⟨rfl, HB2.out.alloc HB2.out.size _⟩
  · obtain ⟨hp1, hp2, hp3, hp4⟩ := put_len (l := l) hq
    have HSD : Hid (∀ z e w', SendIs z n l e w' → ∃ c', ∃ a', e = .returned (.tuple #[.agg #[.slice a' (putR n l).length c'], .int .i64 (putN n l : Nat), .int .i64 0]) ∧ OwnP w' z.heap.size (.slice a' (putR n l).length c') (putR n l) ∧ Below z.heap.size z w') := by
      rintro z e w' ⟨v', h1, h2, h3⟩
      rw [show errN n = 0 by unfold errN; rw [hq]; rfl] at h1
      obtain ⟨a', c', rfl⟩ := Own.slice h2
      exact ⟨c', a', h1, h2, h3⟩
    have HMEM : Hid (∀ p ∈ putR n l, 0 < cntP p n + cntP p l) := by
      intro p hp
      unfold putR at hp
      rw [if_pos hq] at hp
      exact sent_mem hp
    have HNB := Lib.hid hp4
    generalize putR n l = M0 at *
    generalize putN n l = pn at *
    have t1 : IntKind.i64.wrap ((n.length : Int) + (pn : Int)) = (M0.length : Int) := by rw [IntKind.wrap_i64]; omega
    have t2 : ((M0.length : Int) != (n.length : Int) + (pn : Int)) = false := by simp; omega
    have t4 : decide ((l.length : Int) < (pn : Int)) = false := by simp; omega
    have t4n : decide (l.length < pn) = false := by simp; omega
    have t5 : ((M0.length : Int) != (M0.length : Int)) = false := by simp
    have HP1 := Lib.hid hp1
    clear hq hp4 hp1
    go_enter Try.func4, Try.ntmps4
    go_wp2_with (go_at_call 12; go_loud ((with_reducible refine (KL.out _).mono ?_); rintro e w1 ⟨rfl, hb⟩; have HB1 := Lib.hid (HB.out.trans (hb.mono HB.out.size)); have y0 := (hb.cell (p := ⟨w.heap.size, 0, none⟩) HZ.out).trans HC0.out; have HZ1 := Lib.hid (Nat.lt_of_lt_of_le HZ.out hb.size); clear hb))
    go_wp2_with (go_at_call 8; go_loud ((with_reducible refine (KS.out _ HB1.out).mono ?_); intro e w2 ht; obtain ⟨c', a', rfl, ho, hb⟩ := HSD.out _ _ _ ht; have HB2 := Lib.hid (HB1.out.trans (hb.mono HB1.out.size)); have y1 := (hb.cell (p := ⟨w.heap.size, 0, none⟩) HZ1.out).trans y0; have hlo := Nat.lt_of_lt_of_le HZ1.out hb.size; have hne : (Value.slice a' M0.length c').ownBlock ≠ some w2.heap.size := (fun e => by have := (Own.lt ho _ e).2; omega); have y2 := cell_old (.cells #[.slice a' M0.length c'] 24) y1; have HS2 : Hid (MdS w (.slice a n.length c) w2.heap.size n l (.slice a' M0.length c') M0 (w2.alloc (.cells #[.slice a' M0.length c'] 24))) := ⟨HB2.out.alloc HB2.out.size _, hlo, by simp, y2, cell_new _ _ _, frozen_of_row _ _ 0 _ _ (heap_alloc_new _ _), keepP (Own.le ho HB1.out.size) (al w2 _), hne, HNB.out, HMEM.out⟩; clear hb ht ho hne hlo))
    go_wp2
    clear y0 y1 y2 t1 t2 t4 t4n t5 hp2 hp3 HZ HZ1 HC0 HB HB1 HB2 KS HSD HNB HMEM HP1
    generalize hN : w2.heap.size = N at *
    generalize w2.alloc (.cells #[.slice a' M0.length c'] 24) = w3 at *
    go_loopg [53] is.length (fun gg iv wx => ∃ (k : Nat) (u : Value) (M : List Pk), k + gg = is.length ∧ iv = .int .i64 k ∧ Aside (MdS w (.slice a n.length c) N n l u M wx))
    case atStart => exact ⟨0, _, _, by omega, rfl, HS2.out⟩
    case round =>
      obtain ⟨k, u, M, hkg, rfl, HS⟩ := hrel
      clear HS2
      obtain ⟨au, cu, rfl⟩ := Own.slice HS.out.own
      have y7 := HS.out.c7
      have hm4 := net_len HS.out.nb
      have HM4 := Lib.hid hm4
      have KCH : Hid (Calls Try.prog 18 #[.agg #[.slice au M.length cu]] wr fun e w' => e = .returned (.int .i64 0) ∧ Below wr.heap.size wr w') := by
        have := check_own _ M wr (Own.sl HS.out.own (by omega))
        rwa [show errN M = 0 from if_pos HS.out.nb] at this
      clear hm4
      cases gk with
      | zero =>
        obtain rfl : k = is.length := by omega
        clear hkg
        go_wp2_with (go_at_call 18; go_loud ((with_reducible refine KCH.out.mono ?_); rintro e wc ⟨rfl, hb⟩; have HBC := Lib.hid (HS.out.be.trans (hb.mono HS.out.be.size)); clear hb))
        go_wp2
        go_ret
        exact ⟨rfl, HBC.out⟩
      | succ gg =>
        have hlt : k < is.length := by omega
        have hlt2 : (k : Int) < (is.length : Int) := by omega
        obtain ⟨bi, oi, rfl, hbi, hci⟩ := HIC.out (by omega)
        have x0 := (HS.out.be.cell (by exact hbi)).trans (hci k hlt)
        have tk : IntKind.i64.wrap ((k : Int) + 1) = (k : Int) + 1 := by rw [IntKind.wrap_i64]; omega
        clear hci hbi
        generalize is[k] = i at *
        by_cases h20 : k = 20
        · subst h20
          go_wp2_with (go_at_call 18; go_loud ((with_reducible refine KCH.out.mono ?_); rintro e wc ⟨rfl, hb⟩; have HBC := Lib.hid (HS.out.be.trans (hb.mono HS.out.be.size)); clear hb))
          go_wp2
          go_ret
          exact ⟨rfl, HBC.out⟩
        · have t20 : ((k : Int) == 20) = false := by simp; omega
          have KG := Lib.hid (give_own _ M i wr (Own.sl HS.out.own (by have := HM4.out; omega)))
          have HK := Lib.hid hkg
          clear hkg KCH
          rcases ref_cases M i with ⟨h0, -, kk, hkk, rfl⟩ | h0 | h0
          · obtain ⟨p, hp⟩ : ∃ p, p = M[kk] := ⟨_, rfl⟩
            have HGV : Hid (∀ e w', GiveIs wr M (kk : Int) e w' → ∃ a c, e = .returned (.tuple #[.agg #[.slice a (M.eraseIdx kk).length c], .agg #[.int .i64 p.f, .int .i64 p.t, .string p.d], .int .i64 0]) ∧ OwnP w' wr.heap.size (.slice a (M.eraseIdx kk).length c) (M.eraseIdx kk) ∧ Below wr.heap.size wr w') := by
              intro e w' hg
              obtain ⟨k', hk', a9, c9, he, h1, h2, h3⟩ := hg.yes h0
              have e9 : k' = kk := by omega
              subst e9
              rw [hp]
              exact ⟨a9, c9, h1, h2, h3⟩
            have HTW : Hid (∀ z e w', TwiceIs z M (kk : Int) e w' → twN M (kk : Int) = 0 → ∃ a c, e = .returned (.tuple #[.agg #[.slice a (M.length + 1) c], .int .i64 0]) ∧ OwnP w' z.heap.size (.slice a (M.length + 1) c) (M ++ [p]) ∧ Below z.heap.size z w') := by
              intro z e w' ht h9
              rw [hp]
              exact ht.yes hkk h9
            have HCE : Hid (cntP p M = cntP p (M.eraseIdx kk) + 1) := by rw [hp]; exact cnt_erase M kk hkk
            have HPOS := Lib.hid (HS.out.mem p (by rw [hp]; exact List.getElem_mem hkk))
            have HCT := Lib.hid (cnt_snoc M p)
            have HEL : Hid ((M.eraseIdx kk).length = M.length - 1) := List.length_eraseIdx_of_lt hkk
            have HKT : Hid (∀ z, OwnP z w.heap.size (.slice au M.length cu) M → Calls Try.prog 14 #[.agg #[.slice au M.length cu], .int .i64 (kk : Nat)] z (TwiceIs z M (kk : Int))) := fun z ho => twice_own _ M (kk : Int) z (Own.sl ho (by have := HM4.out; omega))
            have HTN := Lib.hid (fun z e w' (ht : TwiceIs z M (kk : Int) e w') h => TwiceIs.no ht h)
            have hMp : 0 < M.length := by omega
            have HC1 : Hid (cntP p M ≤ 4096) := Nat.le_trans (cnt_le p M) HM4.out
            have HC3 := Lib.hid (cnt_le p n)
            have HC4 := Lib.hid (cnt_le p l)
            have HKN := Lib.hid (fun z hz => KN.out p z hz)
            have HKM := Lib.hid (fun z hz => KM.out p z hz)
            have HKU : Hid (∀ z base v (L : List Pk), OwnP z base v L → L.length ≤ 4398046511104 → Calls Try.prog 20 #[v, .agg #[.int .i64 p.f, .int .i64 p.t, .string p.d]] z fun e w' => e = .returned (.int .i64 (cntP p L : Nat)) ∧ Below z.heap.size z w') := fun z base v L ho hL => the_count v L p z (Own.sl ho hL)
            clear hp h0 hkk
            rcases p with ⟨f, t, d⟩
            dsimp only at HGV HKN HKM HKU
            have HQ5 : Hid ((M.eraseIdx kk).length ≤ 4096) := by show _ ≤ _; have := HEL.out; have := HM4.out; omega
            have HER := Lib.hid (fun (u' : Value) z (h : MdS w (.slice a n.length c) N n l (.slice au M.length cu) M z) ho hn => MdS.put (u' := u') h kk ho hn)
            generalize hO : M.eraseIdx kk = O at *
            generalize hcM : cntP ⟨f, t, d⟩ M = cM at *
            have HCM := Lib.hid hcM
            clear hcM
            generalize hcO : cntP ⟨f, t, d⟩ O = cO at *
            generalize cntP ⟨f, t, d⟩ n = cN at *
            generalize cntP ⟨f, t, d⟩ l = cL at *
            have HCO := Lib.hid hcO
            clear hO hcO
            generalize hq5 : O.length = q5 at *
            have HO5 := Lib.hid hq5
            clear hq5
            have s1 : IntKind.i64.wrap ((cO : Int) + 1) = (cM : Int) := by have := HCE.out; have := HC1.out; rw [IntKind.wrap_i64]; omega
            have s2 : ((cM : Int) != (cM : Int)) = false := by simp
            have s3 : IntKind.i64.wrap ((M.length : Int) - 1) = (q5 : Int) := by have := HEL.out; have := HM4.out; rw [IntKind.wrap_i64]; omega
            have s4 : ((q5 : Int) != (q5 : Int)) = false := by simp
            have s5 : IntKind.i64.wrap ((cN : Int) + (cL : Int)) = (cN : Int) + (cL : Int) := by have := HC3.out; have := HC4.out; rw [IntKind.wrap_i64]; omega
            have s6 : (((cN : Int) + (cL : Int)) == 0) = false := by have := HPOS.out; simp; omega
            have s7 : IntKind.i64.wrap ((M.length : Int) + 1) = (M.length : Int) + 1 := by have := HM4.out; rw [IntKind.wrap_i64]; omega
            go_wp2_with (go_at_call 10; go_loud ((with_reducible refine KG.out.mono ?_); intro e w5 ht; obtain ⟨a5, c5, rfl, ho5, hb⟩ := HGV.out _ _ ht; have HS5 := Lib.hid (HS.out.go hb); have HOA := Lib.hid ho5; clear hb ht ho5))
            go_wp2
            obtain ⟨wb, hwb⟩ : ∃ wb, wb = (w5.alloc (.cells #[.slice a5 q5 c5] 24)).alloc (.cells #[.int .i64 f, .int .i64 t, .string d] 30) := ⟨_, rfl⟩
            have hb5 : Below w5.heap.size w5 wb := by rw [hwb]; exact (al w5 _).alloc (by simp) _
            have HSB := Lib.hid (HS5.out.go hb5)
            have HOB : Hid (OwnP wb w.heap.size (.slice a5 q5 c5) O) := keepP (Own.le HOA.out HS.out.be.size) hb5
            have HNE : Hid ((Value.slice a5 q5 c5).ownBlock ≠ some N) := fun e => by have := (Own.lt HOA.out _ e).1; have := HS.out.lt; omega
            have HP0 : Hid (At wb (w5.heap.size + 1) 0 (⟨f, t, d⟩ : Pk)) := by
              have := at_new (w5.alloc (.cells #[.slice a5 q5 c5] 24)) (⟨f, t, d⟩ : Pk) 30
              rw [World.size_alloc] at this
              rw [hwb]
              exact this
            have HC12 : Hid (wb.cell? ⟨w5.heap.size, 0, none⟩ = some (.slice a5 q5 c5)) := by rw [hwb]; exact cell_old _ (cell_new _ _ _)
            have HSZ : Hid (w5.heap.size + 1 < wb.heap.size) := by show _ < _; rw [hwb]; simp
            rw [← hwb]
            clear hwb hb5
            have PB : Hid (∀ y, Below wb.heap.size wb y → (y.cell? ⟨N, 0, none⟩ = some (.slice au M.length cu) ∧ y.cell? ⟨w5.heap.size + 1, 0, none⟩ = some (.int .i64 f) ∧ y.cell? ⟨w5.heap.size + 1, 1, none⟩ = some (.int .i64 t) ∧ y.cell? ⟨w5.heap.size + 1, 2, none⟩ = some (.string d) ∧ y.cell? ⟨w5.heap.size, 0, none⟩ = some (.slice a5 q5 c5) ∧ y.cell? ⟨w.heap.size, 0, none⟩ = some (.slice a n.length c) ∧ Hid (Below wb.heap.size wb y))) := fun y hy =>
              ⟨(HSB.out.go hy).c7, (at_pk (HP0.out.keep hy HSZ.out)).1, (at_pk (HP0.out.keep hy HSZ.out)).2.1, (at_pk (HP0.out.keep hy HSZ.out)).2.2, (hy.cell (by show w5.heap.size < _; have := HSZ.out; omega)).trans HC12.out, (HSB.out.go hy).c3, hy⟩
            have KC1 : Hid (∀ y, ( y.cell? ⟨N, 0, none⟩ = some (.slice au M.length cu) ∧ y.cell? ⟨w5.heap.size + 1, 0, none⟩ = some (.int .i64 f) ∧ y.cell? ⟨w5.heap.size + 1, 1, none⟩ = some (.int .i64 t) ∧ y.cell? ⟨w5.heap.size + 1, 2, none⟩ = some (.string d) ∧ y.cell? ⟨w5.heap.size, 0, none⟩ = some (.slice a5 q5 c5) ∧ y.cell? ⟨w.heap.size, 0, none⟩ = some (.slice a n.length c) ∧ Hid (Below wb.heap.size wb y)) → Calls Try.prog 20 #[.slice au M.length cu, .agg #[.int .i64 f, .int .i64 t, .string d]] y fun e y' => e = .returned (.int .i64 (cM : Nat)) ∧ ( y'.cell? ⟨N, 0, none⟩ = some (.slice au M.length cu) ∧ y'.cell? ⟨w5.heap.size + 1, 0, none⟩ = some (.int .i64 f) ∧ y'.cell? ⟨w5.heap.size + 1, 1, none⟩ = some (.int .i64 t) ∧ y'.cell? ⟨w5.heap.size + 1, 2, none⟩ = some (.string d) ∧ y'.cell? ⟨w5.heap.size, 0, none⟩ = some (.slice a5 q5 c5) ∧ y'.cell? ⟨w.heap.size, 0, none⟩ = some (.slice a n.length c) ∧ Hid (Below wb.heap.size wb y'))) := by
              rintro y ⟨-, -, -, -, -, -, hb⟩
              refine (HKU.out y _ _ M (HSB.out.go hb.out).own (by have := HM4.out; omega)).mono ?_
              rintro e y' ⟨rfl, hb2⟩
              exact ⟨by rw [HCM.out], PB.out _ (hb.out.trans (hb2.mono hb.out.size))⟩
            have KC2 : Hid (∀ y, ( y.cell? ⟨N, 0, none⟩ = some (.slice au M.length cu) ∧ y.cell? ⟨w5.heap.size + 1, 0, none⟩ = some (.int .i64 f) ∧ y.cell? ⟨w5.heap.size + 1, 1, none⟩ = some (.int .i64 t) ∧ y.cell? ⟨w5.heap.size + 1, 2, none⟩ = some (.string d) ∧ y.cell? ⟨w5.heap.size, 0, none⟩ = some (.slice a5 q5 c5) ∧ y.cell? ⟨w.heap.size, 0, none⟩ = some (.slice a n.length c) ∧ Hid (Below wb.heap.size wb y)) → Calls Try.prog 20 #[.slice a5 q5 c5, .agg #[.int .i64 f, .int .i64 t, .string d]] y fun e y' => e = .returned (.int .i64 (cO : Nat)) ∧ ( y'.cell? ⟨N, 0, none⟩ = some (.slice au M.length cu) ∧ y'.cell? ⟨w5.heap.size + 1, 0, none⟩ = some (.int .i64 f) ∧ y'.cell? ⟨w5.heap.size + 1, 1, none⟩ = some (.int .i64 t) ∧ y'.cell? ⟨w5.heap.size + 1, 2, none⟩ = some (.string d) ∧ y'.cell? ⟨w5.heap.size, 0, none⟩ = some (.slice a5 q5 c5) ∧ y'.cell? ⟨w.heap.size, 0, none⟩ = some (.slice a n.length c) ∧ Hid (Below wb.heap.size wb y'))) := by
              rintro y ⟨-, -, -, -, -, -, hb⟩
              refine (HKU.out y _ _ O (keepP HOB.out hb.out) (by have := HQ5.out; have := HO5.out; omega)).mono ?_
              rintro e y' ⟨rfl, hb2⟩
              exact ⟨by rw [HCO.out], PB.out _ (hb.out.trans (hb2.mono hb.out.size))⟩
            have KC3 : Hid (∀ y, ( y.cell? ⟨N, 0, none⟩ = some (.slice au M.length cu) ∧ y.cell? ⟨w5.heap.size + 1, 0, none⟩ = some (.int .i64 f) ∧ y.cell? ⟨w5.heap.size + 1, 1, none⟩ = some (.int .i64 t) ∧ y.cell? ⟨w5.heap.size + 1, 2, none⟩ = some (.string d) ∧ y.cell? ⟨w5.heap.size, 0, none⟩ = some (.slice a5 q5 c5) ∧ y.cell? ⟨w.heap.size, 0, none⟩ = some (.slice a n.length c) ∧ Hid (Below wb.heap.size wb y)) → Calls Try.prog 20 #[.slice a n.length c, .agg #[.int .i64 f, .int .i64 t, .string d]] y fun e y' => e = .returned (.int .i64 (cN : Nat)) ∧ ( y'.cell? ⟨N, 0, none⟩ = some (.slice au M.length cu) ∧ y'.cell? ⟨w5.heap.size + 1, 0, none⟩ = some (.int .i64 f) ∧ y'.cell? ⟨w5.heap.size + 1, 1, none⟩ = some (.int .i64 t) ∧ y'.cell? ⟨w5.heap.size + 1, 2, none⟩ = some (.string d) ∧ y'.cell? ⟨w5.heap.size, 0, none⟩ = some (.slice a5 q5 c5) ∧ y'.cell? ⟨w.heap.size, 0, none⟩ = some (.slice a n.length c) ∧ Hid (Below wb.heap.size wb y'))) := by
              rintro y ⟨-, -, -, -, -, -, hb⟩
              refine (HKN.out y (HSB.out.go hb.out).be).mono ?_
              rintro e y' ⟨rfl, hb2⟩
              exact ⟨rfl, PB.out _ (hb.out.trans (hb2.mono hb.out.size))⟩
            have KC4 : Hid (∀ y, ( y.cell? ⟨N, 0, none⟩ = some (.slice au M.length cu) ∧ y.cell? ⟨w5.heap.size + 1, 0, none⟩ = some (.int .i64 f) ∧ y.cell? ⟨w5.heap.size + 1, 1, none⟩ = some (.int .i64 t) ∧ y.cell? ⟨w5.heap.size + 1, 2, none⟩ = some (.string d) ∧ y.cell? ⟨w5.heap.size, 0, none⟩ = some (.slice a5 q5 c5) ∧ y.cell? ⟨w.heap.size, 0, none⟩ = some (.slice a n.length c) ∧ Hid (Below wb.heap.size wb y)) → Calls Try.prog 20 #[.slice a2 l.length c2, .agg #[.int .i64 f, .int .i64 t, .string d]] y fun e y' => e = .returned (.int .i64 (cL : Nat)) ∧ ( y'.cell? ⟨N, 0, none⟩ = some (.slice au M.length cu) ∧ y'.cell? ⟨w5.heap.size + 1, 0, none⟩ = some (.int .i64 f) ∧ y'.cell? ⟨w5.heap.size + 1, 1, none⟩ = some (.int .i64 t) ∧ y'.cell? ⟨w5.heap.size + 1, 2, none⟩ = some (.string d) ∧ y'.cell? ⟨w5.heap.size, 0, none⟩ = some (.slice a5 q5 c5) ∧ y'.cell? ⟨w.heap.size, 0, none⟩ = some (.slice a n.length c) ∧ Hid (Below wb.heap.size wb y'))) := by
              rintro y ⟨-, -, -, -, -, -, hb⟩
              refine (HKM.out y (HSB.out.go hb.out).be).mono ?_
              rintro e y' ⟨rfl, hb2⟩
              exact ⟨rfl, PB.out _ (hb.out.trans (hb2.mono hb.out.size))⟩
            have KD := Lib.hid (PB.out _ ((Below.refl _ wb).drew))
            go_region_held3 (fun y => y.cell? ⟨N, 0, none⟩ = some (.slice au M.length cu) ∧ y.cell? ⟨w5.heap.size + 1, 0, none⟩ = some (.int .i64 f) ∧ y.cell? ⟨w5.heap.size + 1, 1, none⟩ = some (.int .i64 t) ∧ y.cell? ⟨w5.heap.size + 1, 2, none⟩ = some (.string d) ∧ y.cell? ⟨w5.heap.size, 0, none⟩ = some (.slice a5 q5 c5) ∧ y.cell? ⟨w.heap.size, 0, none⟩ = some (.slice a n.length c) ∧ Hid (Below wb.heap.size wb y)) (first | assumption | exact KD.out) (first
              | ((with_reducible refine (KC1.out _ ?_).mono ?_); assumption; rintro e w6 ⟨rfl, hS⟩)
              | ((with_reducible refine (KC2.out _ ?_).mono ?_); assumption; rintro e w6 ⟨rfl, hS⟩)
              | ((with_reducible refine (KC3.out _ ?_).mono ?_); assumption; rintro e w6 ⟨rfl, hS⟩)
              | ((with_reducible refine (KC4.out _ ?_).mono ?_); assumption; rintro e w6 ⟨rfl, hS⟩))
            obtain ⟨z7, z0, z1, z2, z12, z3, hbw⟩ := hS
            have HS6 := Lib.hid (HSB.out.go hbw.out)
            have HBW := Lib.hid hbw.out
            have KT := Lib.hid (HKT.out w6 HS6.out.own)
            clear KC1 KC2 KC3 KC4 KD PB HKN HKM hbw s1 s2 s3 s4 s5 s6
            by_cases htw : twN M (kk : Int) = 0
            · have HTY := Lib.hid (fun e w' ht => HTW.out w6 e w' ht htw)
              have HMT : Hid ((M ++ [(⟨f, t, d⟩ : Pk)]).length = M.length + 1) := by show _ = _; simp
              have HKM2 : Hid (cntP ⟨f, t, d⟩ (M ++ [⟨f, t, d⟩]) = cM + 1) := HCT.out
              have r1 : IntKind.i64.wrap ((cM : Int) + 1) = (cM : Int) + 1 := by have := HC1.out; rw [IntKind.wrap_i64]; omega
              have r2 : (((cM : Int) + 1) != ((cM : Int) + 1)) = false := by simp
              have r3 : (((M.length : Int) + 1) != ((M.length : Int) + 1)) = false := by simp
              clear htw
              go_wp2_with (go_at_call 14; go_loud ((with_reducible refine KT.out.mono ?_); intro e w7 ht; obtain ⟨a7, c7, rfl, ho7, hb⟩ := HTY.out _ _ ht; have HS7 := Lib.hid (HS6.out.go hb); have HOT := Lib.hid ho7; have HB67 := Lib.hid hb; clear hb ht ho7))
              go_wp2
              obtain ⟨wd, hwd⟩ : ∃ wd, wd = w7.alloc (.cells #[.slice a7 (M.length + 1) c7] 24) := ⟨_, rfl⟩
              have hb7 : Below w7.heap.size w7 wd := by rw [hwd]; exact al w7 _
              have HBD : Hid (Below wb.heap.size wb wd) := HBW.out.trans ((HB67.out.trans (hb7.mono HB67.out.size)).mono HBW.out.size)
              have HSD := Lib.hid (HS7.out.go hb7)
              have HOD : Hid (OwnP wd w.heap.size (.slice a7 (M.length + 1) c7) (M ++ [⟨f, t, d⟩])) := keepP (Own.le HOT.out HS6.out.be.size) hb7
              have HC15 : Hid (wd.cell? ⟨w7.heap.size, 0, none⟩ = some (.slice a7 (M.length + 1) c7)) := by rw [hwd]; exact cell_new _ _ _
              have HSW : Hid (w7.heap.size < wd.heap.size) := by show _ < _; rw [hwd]; simp
              rw [← hwd]
              clear hwd hb7
              have PB : Hid (∀ y, Below wd.heap.size wd y → (y.cell? ⟨N, 0, none⟩ = some (.slice au M.length cu) ∧ y.cell? ⟨w5.heap.size + 1, 0, none⟩ = some (.int .i64 f) ∧ y.cell? ⟨w5.heap.size + 1, 1, none⟩ = some (.int .i64 t) ∧ y.cell? ⟨w5.heap.size + 1, 2, none⟩ = some (.string d) ∧ y.cell? ⟨w7.heap.size, 0, none⟩ = some (.slice a7 (M.length + 1) c7) ∧ Hid (Below wd.heap.size wd y))) := fun y hy => by
                have hy2 := HBD.out.trans (hy.mono HBD.out.size)
                exact ⟨(HSD.out.go hy).c7, (at_pk (HP0.out.keep hy2 HSZ.out)).1, (at_pk (HP0.out.keep hy2 HSZ.out)).2.1, (at_pk (HP0.out.keep hy2 HSZ.out)).2.2, (hy.cell (by exact HSW.out)).trans HC15.out, hy⟩
              have KC1 : Hid (∀ y, (y.cell? ⟨N, 0, none⟩ = some (.slice au M.length cu) ∧ y.cell? ⟨w5.heap.size + 1, 0, none⟩ = some (.int .i64 f) ∧ y.cell? ⟨w5.heap.size + 1, 1, none⟩ = some (.int .i64 t) ∧ y.cell? ⟨w5.heap.size + 1, 2, none⟩ = some (.string d) ∧ y.cell? ⟨w7.heap.size, 0, none⟩ = some (.slice a7 (M.length + 1) c7) ∧ Hid (Below wd.heap.size wd y)) → Calls Try.prog 20 #[.slice au M.length cu, .agg #[.int .i64 f, .int .i64 t, .string d]] y fun e y' => e = .returned (.int .i64 (cM : Nat)) ∧ (y'.cell? ⟨N, 0, none⟩ = some (.slice au M.length cu) ∧ y'.cell? ⟨w5.heap.size + 1, 0, none⟩ = some (.int .i64 f) ∧ y'.cell? ⟨w5.heap.size + 1, 1, none⟩ = some (.int .i64 t) ∧ y'.cell? ⟨w5.heap.size + 1, 2, none⟩ = some (.string d) ∧ y'.cell? ⟨w7.heap.size, 0, none⟩ = some (.slice a7 (M.length + 1) c7) ∧ Hid (Below wd.heap.size wd y'))) := by
                rintro y ⟨-, -, -, -, -, hb⟩
                refine (HKU.out y _ _ M (HSD.out.go hb.out).own (by have := HM4.out; omega)).mono ?_
                rintro e y' ⟨rfl, hb2⟩
                exact ⟨by rw [HCM.out], PB.out _ (hb.out.trans (hb2.mono hb.out.size))⟩
              have KC2 : Hid (∀ y, (y.cell? ⟨N, 0, none⟩ = some (.slice au M.length cu) ∧ y.cell? ⟨w5.heap.size + 1, 0, none⟩ = some (.int .i64 f) ∧ y.cell? ⟨w5.heap.size + 1, 1, none⟩ = some (.int .i64 t) ∧ y.cell? ⟨w5.heap.size + 1, 2, none⟩ = some (.string d) ∧ y.cell? ⟨w7.heap.size, 0, none⟩ = some (.slice a7 (M.length + 1) c7) ∧ Hid (Below wd.heap.size wd y)) → Calls Try.prog 20 #[.slice a7 (M.length + 1) c7, .agg #[.int .i64 f, .int .i64 t, .string d]] y fun e y' => e = .returned (.int .i64 ((cM : Int) + 1)) ∧ (y'.cell? ⟨N, 0, none⟩ = some (.slice au M.length cu) ∧ y'.cell? ⟨w5.heap.size + 1, 0, none⟩ = some (.int .i64 f) ∧ y'.cell? ⟨w5.heap.size + 1, 1, none⟩ = some (.int .i64 t) ∧ y'.cell? ⟨w5.heap.size + 1, 2, none⟩ = some (.string d) ∧ y'.cell? ⟨w7.heap.size, 0, none⟩ = some (.slice a7 (M.length + 1) c7) ∧ Hid (Below wd.heap.size wd y'))) := by
                rintro y ⟨-, -, -, -, -, hb⟩
                refine (HKU.out y _ _ _ (keepP HOD.out hb.out) (by have := HM4.out; have := HMT.out; omega)).mono ?_
                rintro e y' ⟨rfl, hb2⟩
                exact ⟨by rw [HKM2.out]; simp, PB.out _ (hb.out.trans (hb2.mono hb.out.size))⟩
              have KD := Lib.hid (PB.out _ ((Below.refl _ wd).drew))
              go_region_held3 (fun y => y.cell? ⟨N, 0, none⟩ = some (.slice au M.length cu) ∧ y.cell? ⟨w5.heap.size + 1, 0, none⟩ = some (.int .i64 f) ∧ y.cell? ⟨w5.heap.size + 1, 1, none⟩ = some (.int .i64 t) ∧ y.cell? ⟨w5.heap.size + 1, 2, none⟩ = some (.string d) ∧ y.cell? ⟨w7.heap.size, 0, none⟩ = some (.slice a7 (M.length + 1) c7) ∧ Hid (Below wd.heap.size wd y)) (first | assumption | exact KD.out) (first
                | ((with_reducible refine (KC1.out _ ?_).mono ?_); assumption; rintro e w8 ⟨rfl, hS⟩)
                | ((with_reducible refine (KC2.out _ ?_).mono ?_); assumption; rintro e w8 ⟨rfl, hS⟩))
              obtain ⟨v7, v0, v1, v2, v15, hbw⟩ := hS
              have HB8 := Lib.hid (HBD.out.trans (hbw.out.mono HBD.out.size))
              have HS8 := Lib.hid (HSB.out.go HB8.out)
              have v12 := (HB8.out.cell (p := ⟨w5.heap.size, 0, none⟩) (by show w5.heap.size < _; have := HSZ.out; omega)).trans HC12.out
              have f7 := HS8.out.f7
              have HJ := Lib.hid (HER.out (.slice a5 q5 c5) _ HS8.out (keepP HOB.out HB8.out) HNE.out)
              clear hbw v0 v1 v2 v15 z7 z0 z1 z2 z12 z3
              go_wp2
              go_roundg gg
              case measure => omega
              case rel => exact ⟨k + 1, _, _, by have := HK.out; omega, by simp, HJ.out⟩
            · have HTX := Lib.hid (fun e w' ht => HTN.out w6 e w' ht htw)
              have htw2 : ((twN M (kk : Int)) == 0) = false := by simpa using htw
              clear htw
              generalize twN M (kk : Int) = tw at *
              go_wp2_with (go_at_call 14; go_loud ((with_reducible refine KT.out.mono ?_); intro e w7 ht; obtain ⟨a7, c7, rfl, hb⟩ := HTX.out _ _ ht; have HB7 := Lib.hid (HBW.out.trans ((hb.trans ((al w7 (.cells #[.slice a7 0 c7] 24)).mono hb.size)).mono HBW.out.size)); clear hb ht))
              go_wp2
              have HS8 := Lib.hid (HSB.out.go HB7.out)
              have v12 := (HB7.out.cell (p := ⟨w5.heap.size, 0, none⟩) (by show w5.heap.size < _; have := HSZ.out; omega)).trans HC12.out
              have v7 := HS8.out.c7
              have f7 := HS8.out.f7
              clear z7 z0 z1 z2 z12 z3
              go_quiet (fail)
              go_wp2
              go_roundg gg
              case measure => omega
              case rel => exact ⟨k + 1, _, _, by have := HK.out; omega, by simp, HER.out _ _ (HS8.out.go (bdN (Below.refl _ _) _)) (keepP HOB.out (bdN HB7.out _)) HNE.out⟩
          all_goals
            have h0' : ¬ refN M i = 0 := by rw [h0]; decide
            have HN0 := Lib.hid (fun e w' h => GiveIs.no (w := wr) (n := M) (i := i) (e := e) (w' := w') h h0')
            have t0 : ((refN M i) != 0) = true := by simpa using h0'
            clear h0 h0'
            generalize refN M i = rr at *
            go_wp2_with (go_at_call 10; go_loud ((with_reducible refine KG.out.mono ?_); intro e w5 ht; obtain ⟨a5, c5, rfl, hb⟩ := HN0.out _ _ ht; have HS5 := Lib.hid (HS.out.go hb); clear hb ht))
            go_wp2
            go_roundg gg
            case measure => omega
            case rel => exact ⟨k + 1, _, _, by have := HK.out; omega, by simp, (HS5.out.go (al _ _)).go (al _ _)⟩

/-- As NetA gives it. -/
theorem netMadeA (v vl vi : Value) (n l : List Pk) (is : List Int) (w : World) (h : ∃ u, v = .agg #[u] ∧ Sl w 0 w.heap.size u n) (hl : Sl w 0 w.heap.size vl l) (hi : IntS w w.heap.size vi is) :
    Calls Try.prog 4 #[v, vl, vi] w fun e w' => e = .returned (.bool true) ∧ Below w.heap.size w w' := by
  obtain ⟨u, rfl, hu⟩ := h
  exact netMade u vl vi n l is w hu hl hi
end Nt
end Go.Proofs.Ytejolapbdkkdaaa
