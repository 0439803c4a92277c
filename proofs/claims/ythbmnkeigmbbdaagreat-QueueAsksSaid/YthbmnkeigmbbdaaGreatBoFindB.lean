/-
  WHERE ONE OF A NAME IS: BINDS: slices.BinarySearchFunc, book.find, book.get, book.rise.
-/
import Derived.Test.YthbmnkeigmbbdaaGreatBoKey
import Derived.Deep.RegionHeld3
namespace Go.Proofs.YthbmnkeigmbbdaaGreat
open Go.RowKit Go.Lib
namespace Bo
open Rw
set_option linter.unusedVariables false
set_option maxHeartbeats 400000 in
theorem name_b (x : Rg.Pr) (w : World) : Calls Tryz.prog 67 #[.agg #[.string x.k, .string x.v]] w fun e w' => e = .returned (.string x.k) ∧ Below w.heap.size w w' := by
  go_enter Tryz.func67, Tryz.ntmps67
  go_wp2
  go_ret
  exact ⟨rfl, (Below.refl _ _).alloc (Nat.le_refl _) _⟩
set_option maxHeartbeats 1000000 in
theorem ask_b (x : Rg.Pr) (want : ByteArray) (r : Int) (g : Nat) (w : World) (hr : Rg.cmpS x.k want = r) (hg : w.cell? ⟨g, 0, none⟩ = some (.func (.func 67) #[] #[])) :
    Calls Tryz.prog 183 #[.agg #[.string x.k, .string x.v], .string want, .pointer (some ⟨g, 0, none⟩)] w fun e w' => e = .returned (.int .i64 r) ∧ Below w.heap.size w w' := by
  have HN := Lib.hid (fun z => name_b x z)
  have HC : Hid (∀ z, Calls Tryz.prog 81 #[.string x.k, .string want] z fun e w' => e = .returned (.int .i64 r) ∧ z = w') := fun z => by rw [← hr]; exact Rg.cmp_any _ _ z
  clear hr
  have hE : ∀ args z, (callFunc 67 args).run Tryz.prog z = .ok (.enter 67 args) z := enters_of Tryz.func67 (by kernel_rfl) rfl
  have hl := World.block_lt_of_cell? w _ hg
  have h1 := cell_old (.cells #[.string x.k, .string x.v] 106) hg
  clear hg
  go_enter Tryz.func183, Tryz.ntmps183
  go_wp2_with fail
  refine (HN.out _).mono ?_
  rintro e w1 ⟨rfl, hb⟩
  have HB := Lib.hid ((al w _).trans (hb.mono (al w _).size))
  clear hb
  go_wp2_with fail
  refine (HC.out _).mono ?_
  rintro e w2 ⟨rfl, rfl⟩
  go_wp2
  go_ret
  exact ⟨rfl, HB.out⟩
/-- What the search tells. -/
def FoundB (l : List Rg.Pr) (want : ByteArray) (e : Ending) : Prop := e = .returned (.tuple #[.int .i64 (lbK (l.map (·.k)) want : Nat), .bool (hasK (l.map (·.k)) want)])
set_option maxRecDepth 100000 in
set_option maxHeartbeats 2000000 in
theorem bin_b (v : Value) (l : List Rg.Pr) (want : ByteArray) (g : Nat) (w : World) {A : Nat} (hv : Sl w A w.heap.size v l) (hr : Ris (l.map (·.k))) (hg : w.cell? ⟨g, 0, none⟩ = some (.func (.func 67) #[] #[])) :
    Calls Tryz.prog 182 #[v, .string want, .func (.func 183) #[] #[.pointer (some ⟨g, 0, none⟩)]] w fun e w' => FoundB l want e ∧ Below w.heap.size w w' := by
  have hgl : g < w.heap.size := World.block_lt_of_cell? w _ hg
  have hE : ∀ args z, (callFunc 183 args).run Tryz.prog z = .ok (.enter 183 args) z := enters_of Tryz.func183 (by kernel_rfl) rfl
  obtain ⟨a, c, rfl, hcap, -, hlen, hc⟩ := hv
  have H1 : Hid (∀ i (h : i < l.length), i < lbK (l.map (·.k)) want → lsS l[i].k want = true) := fun i h hl => by have := lb_below (l.map (·.k)) want i (by simpa using h) hl; simpa using this
  have H2 : Hid (∀ i (h : i < l.length), lbK (l.map (·.k)) want ≤ i → lsS l[i].k want = false) := fun i h hl => by have := lb_above hr want i (by simpa using h) hl; simpa using this
  have H3 : Hid (∀ (h : lbK (l.map (·.k)) want < l.length), hasK (l.map (·.k)) want = (l[lbK (l.map (·.k)) want].k.toList == want.toList)) := fun h => by have := has_at hr want (by simpa using h); simpa using this
  have H4 : Hid (¬ lbK (l.map (·.k)) want < l.length → hasK (l.map (·.k)) want = false) := fun h => has_no hr want (by simpa using h)
  have hle : lbK (l.map (·.k)) want ≤ l.length := by have := lb_le (l.map (·.k)) want; simpa using this
  have HC := Lib.hid hc
  have HG := Lib.hid hg
  have HA : Hid (∀ (x : Rg.Pr) (r : Int) (z : World), Rg.cmpS x.k want = r → Below w.heap.size w z → Calls Tryz.prog 183 #[.agg #[.string x.k, .string x.v], .string want, .pointer (some ⟨g, 0, none⟩)] z fun e w' => e = .returned (.int .i64 r) ∧ Below z.heap.size z w') :=
    fun x r z hr hb => ask_b x want r g z hr ((hb.cell (by exact hgl)).trans HG.out)
  unfold FoundB
  generalize lbK (l.map (·.k)) want = lb at *
  generalize hasK (l.map (·.k)) want = has at *
  clear hr hc hg
  go_enter Tryz.func182, Tryz.ntmps182
  go_wp2
  go_loopg [9, 10] l.length (fun gg i j wx => ∃ p q : Nat, i = .int .i64 p ∧ j = .int .i64 q ∧ p ≤ lb ∧ lb ≤ q ∧ q ≤ l.length ∧ q ≤ p + gg ∧ Below w.heap.size w wx)
  case atStart => exact ⟨0, l.length, rfl, rfl, by omega, by omega, by omega, by omega, Below.refl _ _⟩
  case round =>
    obtain ⟨p, q, rfl, rfl, hp, hq, hqn, hgk, hbx⟩ := hrel
    have HX := Lib.hid hbx
    clear hbx
    by_cases hpq : p < q
    · cases gk with
      | zero => omega
      | succ gg =>
        have hHid := Lib.hid hgk
        have hm1 : p ≤ (p + q) / 2 := by omega
        have hm2 : (p + q) / 2 < q := by omega
        have hml : (p + q) / 2 < l.length := by omega
        obtain ⟨b, off, rfl, -, hblt, hcc⟩ := HC.out (by omega)
        have hat : At w b (off + (p + q) / 2 * 2) l[(p + q) / 2] := hcc ((p + q) / 2) hml
        obtain ⟨d0, d1⟩ := at_bd hat
        have e0 := (HX.out.cell (by exact hblt)).trans d0; have e1 := (HX.out.cell (by exact hblt)).trans d1; clear d0 d1
        have K1 := Lib.hid (H1.out ((p + q) / 2) hml)
        have K2 := Lib.hid (H2.out ((p + q) / 2) hml)
        have K3 := Lib.hid (fun r => HA.out l[(p + q) / 2] r wr)
        clear hat hcc
        generalize l[(p + q) / 2] = x at *
        have t0' : (p : Int) < (q : Int) := by omega
        have t1 : IntKind.i64.wrap ((p : Int) + (q : Int)) = (p : Int) + (q : Int) := by rw [IntKind.wrap_i64]; omega
        have t5 : ((p : Int) + (q : Int)) / 2 < (l.length : Int) := by omega
        have t6 : IntKind.i64.wrap (((p : Int) + (q : Int)) / 2 + 1) = ((p : Int) + (q : Int)) / 2 + 1 := by rw [IntKind.wrap_i64]; omega
        cases hls : lsS x.k want
        · have hlo : lb ≤ (p + q) / 2 := by
            by_cases hlo : lb ≤ (p + q) / 2
            · exact hlo
            · have := K1.out (by omega)
              rw [hls] at this; cases this
          obtain ⟨r, hr, hr0⟩ : ∃ r, Rg.cmpS x.k want = r ∧ 0 ≤ r := by
            cases hgt : lsS want x.k
            · have := ls_con hls hgt
              exact ⟨0, by rw [this]; exact cmp_eq _, by omega⟩
            · exact ⟨1, cmp_gt hls hgt, by omega⟩
          have K4 := Lib.hid (K3.out r hr HX.out)
          clear hls hr
          have t8 : decide (r < 0) = false := by simp; omega
          have HPQ := Lib.hid hpq
          clear hpq
          go_wp2_with fail
          refine K4.out.mono ?_
          rintro e w2 ⟨rfl, hb⟩
          have HB2 := Lib.hid (HX.out.trans (hb.mono HX.out.size))
          clear hb
          go_wp2
          go_roundg gg
          case measure => omega
          case rel => exact ⟨p, (p + q) / 2, rfl, by simp, hp, hlo, by omega, by have := hHid.out; omega, HB2.out⟩
        · have hlo : (p + q) / 2 < lb := by
            by_cases hlo : (p + q) / 2 < lb
            · exact hlo
            · have := K2.out (by omega)
              rw [hls] at this; cases this
          have K4 := Lib.hid (K3.out (-1) (cmp_lt hls) HX.out)
          clear hls
          have HPQ := Lib.hid hpq
          clear hpq
          go_wp2_with fail
          refine K4.out.mono ?_
          rintro e w2 ⟨rfl, hb⟩
          have HB2 := Lib.hid (HX.out.trans (hb.mono HX.out.size))
          clear hb
          go_wp2
          go_roundg gg
          case measure => omega
          case rel => exact ⟨(p + q) / 2 + 1, q, by simp, rfl, hlo, hq, hqn, by have := hHid.out; omega, HB2.out⟩
    · obtain rfl : p = q := by omega
      obtain rfl : p = lb := by omega
      have t0 : decide ((p : Int) < (p : Int)) = false := by simp
      by_cases hpn : p < l.length
      · obtain ⟨b, off, rfl, -, hblt, hcc⟩ := HC.out (by omega)
        have hat : At w b (off + p * 2) l[p] := hcc p hpn
        obtain ⟨d0, d1⟩ := at_bd hat
        have e0 := (HX.out.cell (by exact hblt)).trans d0; have e1 := (HX.out.cell (by exact hblt)).trans d1; clear d0 d1
        have K0 := Lib.hid (H3.out hpn)
        have K2 := Lib.hid (H2.out p hpn (Nat.le_refl _))
        have K3 := Lib.hid (fun r => HA.out l[p] r wr)
        clear hat hcc
        generalize l[p] = x at *
        have t5 : (p : Int) < (l.length : Int) := by omega
        have t6 : decide ((p : Int) < (l.length : Int)) = true := by simpa using hpn
        clear hp hq hgk hpq
        cases hgt : lsS want x.k
        · have he := ls_con K2.out hgt
          have K4 := Lib.hid (K3.out 0 (by rw [he]; exact cmp_eq _) HX.out)
          have HT : Hid (has = true) := by show _ = _; rw [K0.out, he]; simp
          clear hgt he
          go_wp2_with fail
          refine K4.out.mono ?_
          rintro e w2 ⟨rfl, hb⟩
          have HB2 := Lib.hid (HX.out.trans (hb.mono HX.out.size))
          clear hb
          go_wp2
          go_ret2
          exact ⟨by rw [HT.out]; rfl, HB2.out⟩
        · have K4 := Lib.hid (K3.out 1 (cmp_gt K2.out hgt) HX.out)
          have HT : Hid (has = false) := by
            show _ = _
            rw [K0.out]
            cases hq : (x.k.toList == want.toList) with
            | false => rfl
            | true =>
              have : x.k = want := Hd.ba_ext (eq_of_beq hq)
              rw [this, ls_irr] at hgt; cases hgt
          clear hgt
          go_wp2_with fail
          refine K4.out.mono ?_
          rintro e w2 ⟨rfl, hb⟩
          have HB2 := Lib.hid (HX.out.trans (hb.mono HX.out.size))
          clear hb
          go_wp2
          go_ret2
          exact ⟨by rw [HT.out]; rfl, HB2.out⟩
      · have HT := Lib.hid (H4.out hpn)
        have t6 : decide ((p : Int) < (l.length : Int)) = false := by simpa using hpn
        clear hpq hgk
        go_wp2
        go_ret2
        exact ⟨by rw [HT.out]; rfl, HX.out⟩
set_option maxHeartbeats 1000000 in
theorem find_b (v : Value) (l : List Rg.Pr) (want : ByteArray) (w : World) {A : Nat} (hv : Sl w A w.heap.size v l) (hr : Ris (l.map (·.k))) :
    Calls Tryz.prog 125 #[v, .func (.func 67) #[] #[], .string want] w fun e w' => FoundB l want e ∧ Below w.heap.size w w' := by
  have hmf : ∀ (fn : Fn) (first cap : Array Value) (w : World), (Instr.makeFunc fn first cap).run Tryz.prog w = .ok (.func fn first cap) w := fun _ _ _ _ => rfl
  have H0 := al w (.cells #[.func (.func 67) #[] #[]] 107)
  have HX : Hid (Calls Tryz.prog 182 #[v, .string want, .func (.func 183) #[] #[.pointer (some ⟨w.heap.size, 0, none⟩)]] (w.alloc (.cells #[.func (.func 67) #[] #[]] 107)) fun e w' => FoundB l want e ∧ Below w.heap.size w w') :=
    (bin_b v l want w.heap.size _ (hv.on H0) hr (cell_new w _ _)).mono fun e w' ⟨he, hb⟩ => ⟨he, H0.trans (hb.mono H0.size)⟩
  obtain ⟨a, c, rfl⟩ := hv.slice
  clear hv hr H0
  unfold FoundB at *
  generalize lbK (l.map (·.k)) want = lb at *
  generalize hasK (l.map (·.k)) want = has at *
  go_enter Tryz.func125, Tryz.ntmps125
  go_wp2_with fail
  refine HX.out.mono ?_
  rintro e w1 ⟨rfl, hb⟩
  have HB := Lib.hid hb
  clear hb
  go_wp2
  go_ret2
  exact ⟨rfl, HB.out⟩
set_option maxRecDepth 100000 in
set_option maxHeartbeats 2000000 in
theorem rise_b (v : Value) (l : List Rg.Pr) (w : World) {A : Nat} (hv : Sl w A w.heap.size v l) :
    Calls Tryz.prog 66 #[v, .func (.func 67) #[] #[]] w fun e w' => e = .returned (.bool (risB (l.map (·.k)))) ∧ Below w.heap.size w w' := by
  have hE : ∀ args z, (callFunc 67 args).run Tryz.prog z = .ok (.enter 67 args) z := enters_of Tryz.func67 (by kernel_rfl) rfl
  obtain ⟨a, c, rfl, hcap, -, hlen, hc⟩ := hv
  have HC := Lib.hid hc
  have HN := Lib.hid (fun (x : Rg.Pr) z => name_b x z)
  have HBAD := Lib.hid (fun k h hk => ris_bad (l.map (·.k)) k h hk)
  have HS := Lib.hid (fun k => risT_succ (l.map (·.k)) k)
  have HAD : Hid (∀ k (h : k + 1 < l.length), adjB (l.map (·.k)) (k + 1) = lsS (l[k]'(by omega)).k l[k + 1].k) := fun k h => by
    unfold adjB
    rw [dif_pos ⟨by simpa using h, by omega⟩]
    simp
  have HA0 : Hid (adjB (l.map (·.k)) 0 = true) := by
    show _ = _
    unfold adjB
    rw [dif_neg (by omega)]
  clear hc
  go_enter Tryz.func66, Tryz.ntmps66
  go_wp2
  go_loopg [8] l.length (fun gg i wx => ∃ k : Nat, k + gg = l.length ∧ i = .int .i64 k ∧ Aside (risT (l.map (·.k)) k = true) ∧ Below w.heap.size w wx)
  case atStart => exact ⟨0, by omega, rfl, by show _ = _; simp [risT], Below.refl _ _⟩
  case round =>
    obtain ⟨k, hkg, rfl, HA, hbx⟩ := hrel
    have HX := Lib.hid hbx
    clear hbx
    cases gk with
    | zero =>
      obtain rfl : k = l.length := by omega
      have HT : Hid (risB (l.map (·.k)) = true) := by
        have := HA.out
        show _ = _
        unfold risB
        rw [List.length_map]
        exact this
      clear hkg
      go_wp2
      go_ret
      exact ⟨by rw [HT.out]; rfl, HX.out⟩
    | succ gg =>
      have hlk : k < l.length := by omega
      have t2 : (k : Int) < (l.length : Int) := by omega
      have t3 : IntKind.i64.wrap ((k : Int) + 1) = (k : Int) + 1 := by rw [IntKind.wrap_i64]; omega
      by_cases hk0 : k = 0
      · have HH : Hid (risT (l.map (·.k)) (k + 1) = true) := by show _ = _; rw [HS.out, HA.out, hk0, HA0.out]; rfl
        have t0 : decide (0 < k) = false := by simp; omega
        clear hk0
        go_upto_region 4 with fail
        go_quiet (fail)
        go_wp2
        go_roundg gg
        case measure => omega
        case rel => exact ⟨k + 1, by omega, by simp, HH.out, Rg.bdN HX.out _⟩
      · obtain ⟨j, rfl⟩ : ∃ j, k = j + 1 := ⟨k - 1, by omega⟩
        have t4 : (j : Int) < (l.length : Int) := by omega
        have t5 : (j : Int) + 1 < (l.length : Int) := by omega
        have t6 : IntKind.i64.wrap ((j : Int) + 1 + 1) = (j : Int) + 1 + 1 := by rw [IntKind.wrap_i64]; omega
        have t7 : IntKind.i64.wrap ((j : Int) + 1 - 1) = (j : Int) := by rw [IntKind.wrap_i64]; omega
        have t8 : (0 : Int) ≤ (j : Int) + 1 := by omega
        have t10 : IntKind.i64.wrap (j : Int) = (j : Int) := by rw [IntKind.wrap_i64]; omega
        have t11 : (0 : Int) ≤ (j : Int) := by omega
        have t9 : ((j : Int) + 1).toNat = j + 1 := by omega
        obtain ⟨b, off, rfl, -, hblt, hcc⟩ := HC.out (by omega)
        have hat : At w b (off + j * 2) (l[j]'(by omega)) := hcc j (by omega)
        obtain ⟨d0, d1⟩ := at_bd hat
        have e0 := (HX.out.cell (by exact hblt)).trans d0; have e1 := (HX.out.cell (by exact hblt)).trans d1; clear d0 d1
        have hat : At w b (off + (j + 1) * 2) l[j + 1] := hcc (j + 1) hlk
        obtain ⟨d0, d1⟩ := at_bd hat
        have f0 := (HX.out.cell (by exact hblt)).trans d0; have f1 := (HX.out.cell (by exact hblt)).trans d1; clear d0 d1
        have HD := Lib.hid (HAD.out j hlk)
        clear hat hcc hk0
        generalize l[j] = y at *
        generalize l[j + 1] = x at *
        have HSZ := Lib.hid (show b < wr.heap.size from Nat.lt_of_lt_of_le hblt HX.out.size)
        have HP : Hid (∀ z, Hid (Below wr.heap.size wr z) → (Hid (Below wr.heap.size wr z) ∧ z.cell? ⟨b, off + j * 2, none⟩ = some (.string y.k) ∧ z.cell? ⟨b, off + j * 2 + 1, none⟩ = some (.string y.v) ∧ z.cell? ⟨b, off + (j + 1) * 2, none⟩ = some (.string x.k) ∧ z.cell? ⟨b, off + (j + 1) * 2 + 1, none⟩ = some (.string x.v))) := fun z hz => ⟨hz, (hz.out.cell (by exact HSZ.out)).trans e0, (hz.out.cell (by exact HSZ.out)).trans e1, (hz.out.cell (by exact HSZ.out)).trans f0, (hz.out.cell (by exact HSZ.out)).trans f1⟩
        clear e0 e1 f0 f1
        have H0 : Hid (Below wr.heap.size wr wr) := Below.refl _ _
        have HNY : Hid (∀ z, Hid (Below wr.heap.size wr z) → Calls Tryz.prog 67 #[.agg #[.string y.k, .string y.v]] z fun e w' => e = .returned (.string y.k) ∧ Hid (Below wr.heap.size wr w')) := fun z hz => (HN.out y z).mono fun e w' ⟨he, hb⟩ => ⟨he, hz.out.trans (hb.mono hz.out.size)⟩
        have HNX : Hid (∀ z, Hid (Below wr.heap.size wr z) → Calls Tryz.prog 67 #[.agg #[.string x.k, .string x.v]] z fun e w' => e = .returned (.string x.k) ∧ Hid (Below wr.heap.size wr w')) := fun z hz => (HN.out x z).mono fun e w' ⟨he, hb⟩ => ⟨he, hz.out.trans (hb.mono hz.out.size)⟩
        have H0d : Hid (Below wr.heap.size wr wr.drew) := ⟨rfl, rfl, rfl, Nat.le_refl _, fun _ _ => rfl⟩
        have KD := Lib.hid (HP.out wr.drew H0d)
        go_upto_region 4 with fail
        cases hls : lsS y.k x.k
        · have HF : Hid (risB (l.map (·.k)) = false) := HBAD.out (j + 1) (by simpa using hlk) (by rw [HD.out, hls])
          have g1 : Op.bytesLess y.k.toList x.k.toList = false := hls
          clear hls HBAD HS HAD HA0 HN
          go_region_held3 (fun z => Hid (Below wr.heap.size wr z) ∧ z.cell? ⟨b, off + j * 2, none⟩ = some (.string y.k) ∧ z.cell? ⟨b, off + j * 2 + 1, none⟩ = some (.string y.v) ∧ z.cell? ⟨b, off + (j + 1) * 2, none⟩ = some (.string x.k) ∧ z.cell? ⟨b, off + (j + 1) * 2 + 1, none⟩ = some (.string x.v)) (first | assumption | exact KD.out | exact HP.out _ ‹_›)
            (first
              | ((with_reducible refine (HNY.out _ ?_).mono ?_); (first | assumption | exact H0d); rintro e w7 ⟨rfl, hb7⟩; have hs7 := HP.out _ hb7)
              | ((with_reducible refine (HNX.out _ ?_).mono ?_); (first | assumption | exact H0d); rintro e w8 ⟨rfl, hb8⟩; have hs8 := HP.out _ hb8))
          all_goals go_wp2
          all_goals go_ret
          all_goals exact ⟨by rw [HF.out]; rfl, HX.out.trans (hb8.out.mono HX.out.size)⟩
        · have HT : Hid (risT (l.map (·.k)) (j + 1 + 1) = true) := by show _ = _; rw [HS.out, HA.out, HD.out, hls]; rfl
          have g1 : Op.bytesLess y.k.toList x.k.toList = true := hls
          clear hls HBAD HS HAD HA0 HN
          go_region_held3 (fun z => Hid (Below wr.heap.size wr z) ∧ z.cell? ⟨b, off + j * 2, none⟩ = some (.string y.k) ∧ z.cell? ⟨b, off + j * 2 + 1, none⟩ = some (.string y.v) ∧ z.cell? ⟨b, off + (j + 1) * 2, none⟩ = some (.string x.k) ∧ z.cell? ⟨b, off + (j + 1) * 2 + 1, none⟩ = some (.string x.v)) (first | assumption | exact KD.out | exact HP.out _ ‹_›)
            (first
              | ((with_reducible refine (HNY.out _ ?_).mono ?_); (first | assumption | exact H0d); rintro e w7 ⟨rfl, hb7⟩; have hs7 := HP.out _ hb7)
              | ((with_reducible refine (HNX.out _ ?_).mono ?_); (first | assumption | exact H0d); rintro e w8 ⟨rfl, hb8⟩; have hs8 := HP.out _ hb8))
          all_goals go_wp2
          all_goals go_roundg gg
          case measure => omega
          case rel => exact ⟨j + 1 + 1, by omega, by simp, HT.out, HX.out.trans (hb8.out.mono HX.out.size)⟩
end Bo
end Go.Proofs.YthbmnkeigmbbdaaGreat
