/-
  WHERE ONE OF A NAME IS: TASKS: slices.BinarySearchFunc, book.find, book.get, book.rise.
-/
import Derived.Test.YthbmnkeigmbbdaaGreatBoKey
import Derived.Deep.RegionHeld3
namespace Go.Proofs.YthbmnkeigmbbdaaGreat
open Go.RowKit Go.Lib
namespace Bo
open Rw
set_option linter.unusedVariables false
set_option maxHeartbeats 400000 in
theorem name_t (x : TdM) (w : World) : Calls Tryz.prog 65 #[.agg #[.string x.td.n, .int .i64 x.td.z0, .int .i64 x.td.z1, .int .i64 x.td.z2, .slice x.a4 x.td.ws.length x.c4, .slice x.a5 x.td.bs.length x.c5, .string x.td.g, .string x.td.a, .int .i64 x.td.r]] w fun e w' => e = .returned (.string x.td.n) ∧ Below w.heap.size w w' := by
  go_enter Tryz.func65, Tryz.ntmps65
  go_wp2
  go_ret
  exact ⟨rfl, (Below.refl _ _).alloc (Nat.le_refl _) _⟩
set_option maxHeartbeats 1000000 in
theorem ask_t (x : TdM) (want : ByteArray) (r : Int) (g : Nat) (w : World) (hr : Rg.cmpS x.td.n want = r) (hg : w.cell? ⟨g, 0, none⟩ = some (.func (.func 65) #[] #[])) :
    Calls Tryz.prog 162 #[.agg #[.string x.td.n, .int .i64 x.td.z0, .int .i64 x.td.z1, .int .i64 x.td.z2, .slice x.a4 x.td.ws.length x.c4, .slice x.a5 x.td.bs.length x.c5, .string x.td.g, .string x.td.a, .int .i64 x.td.r], .string want, .pointer (some ⟨g, 0, none⟩)] w fun e w' => e = .returned (.int .i64 r) ∧ Below w.heap.size w w' := by
  have HN := Lib.hid (fun z => name_t x z)
  have HC : Hid (∀ z, Calls Tryz.prog 81 #[.string x.td.n, .string want] z fun e w' => e = .returned (.int .i64 r) ∧ z = w') := fun z => by rw [← hr]; exact Rg.cmp_any _ _ z
  clear hr
  have hE : ∀ args z, (callFunc 65 args).run Tryz.prog z = .ok (.enter 65 args) z := enters_of Tryz.func65 (by kernel_rfl) rfl
  have hl := World.block_lt_of_cell? w _ hg
  have h1 := cell_old (.cells #[.string x.td.n, .int .i64 x.td.z0, .int .i64 x.td.z1, .int .i64 x.td.z2, .slice x.a4 x.td.ws.length x.c4, .slice x.a5 x.td.bs.length x.c5, .string x.td.g, .string x.td.a, .int .i64 x.td.r] 42) hg
  clear hg
  go_enter Tryz.func162, Tryz.ntmps162
  go_wp2_with fail
  refine (HN.out _).mono ?_
  rintro e w1 ⟨rfl, hb⟩
  have HB := Lib.hid ((al w _).trans (hb.mono (al w _).size))
  clear hb
  go_wp2_with fail
  refine (HC.out _).mono ?_
  rintro e w2 ⟨rfl, rfl⟩
  go_wp2
  go_ret
  exact ⟨rfl, HB.out⟩
/-- What the search tells. -/
def FoundT (l : List TdM) (want : ByteArray) (e : Ending) : Prop := e = .returned (.tuple #[.int .i64 (lbK (l.map (·.td.n)) want : Nat), .bool (hasK (l.map (·.td.n)) want)])
set_option maxRecDepth 100000 in
set_option maxHeartbeats 2000000 in
theorem bin_t (v : Value) (l : List TdM) (want : ByteArray) (g : Nat) (w : World) {A : Nat} (hv : Sl w A w.heap.size v l) (hr : Ris (l.map (·.td.n))) (hg : w.cell? ⟨g, 0, none⟩ = some (.func (.func 65) #[] #[])) :
    Calls Tryz.prog 161 #[v, .string want, .func (.func 162) #[] #[.pointer (some ⟨g, 0, none⟩)]] w fun e w' => FoundT l want e ∧ Below w.heap.size w w' := by
  have hgl : g < w.heap.size := World.block_lt_of_cell? w _ hg
  have hE : ∀ args z, (callFunc 162 args).run Tryz.prog z = .ok (.enter 162 args) z := enters_of Tryz.func162 (by kernel_rfl) rfl
  obtain ⟨a, c, rfl, hcap, -, hlen, hc⟩ := hv
  have H1 : Hid (∀ i (h : i < l.length), i < lbK (l.map (·.td.n)) want → lsS l[i].td.n want = true) := fun i h hl => by have := lb_below (l.map (·.td.n)) want i (by simpa using h) hl; simpa using this
  have H2 : Hid (∀ i (h : i < l.length), lbK (l.map (·.td.n)) want ≤ i → lsS l[i].td.n want = false) := fun i h hl => by have := lb_above hr want i (by simpa using h) hl; simpa using this
  have H3 : Hid (∀ (h : lbK (l.map (·.td.n)) want < l.length), hasK (l.map (·.td.n)) want = (l[lbK (l.map (·.td.n)) want].td.n.toList == want.toList)) := fun h => by have := has_at hr want (by simpa using h); simpa using this
  have H4 : Hid (¬ lbK (l.map (·.td.n)) want < l.length → hasK (l.map (·.td.n)) want = false) := fun h => has_no hr want (by simpa using h)
  have hle : lbK (l.map (·.td.n)) want ≤ l.length := by have := lb_le (l.map (·.td.n)) want; simpa using this
  have HC := Lib.hid hc
  have HG := Lib.hid hg
  have HA : Hid (∀ (x : TdM) (r : Int) (z : World), Rg.cmpS x.td.n want = r → Below w.heap.size w z → Calls Tryz.prog 162 #[.agg #[.string x.td.n, .int .i64 x.td.z0, .int .i64 x.td.z1, .int .i64 x.td.z2, .slice x.a4 x.td.ws.length x.c4, .slice x.a5 x.td.bs.length x.c5, .string x.td.g, .string x.td.a, .int .i64 x.td.r], .string want, .pointer (some ⟨g, 0, none⟩)] z fun e w' => e = .returned (.int .i64 r) ∧ Below z.heap.size z w') :=
    fun x r z hr hb => ask_t x want r g z hr ((hb.cell (by exact hgl)).trans HG.out)
  unfold FoundT
  generalize lbK (l.map (·.td.n)) want = lb at *
  generalize hasK (l.map (·.td.n)) want = has at *
  clear hr hc hg
  go_enter Tryz.func161, Tryz.ntmps161
  go_wp2
  go_loopg [9, 10] l.length (fun gg i j wx => ∃ p q : Nat, i = .int .i64 p ∧ j = .int .i64 q ∧ p ≤ lb ∧ lb ≤ q ∧ q ≤ l.length ∧ q ≤ p + gg ∧ Below w.heap.size w wx)
  case atStart => exact ⟨0, l.length, rfl, rfl, by omega, by omega, by omega, by omega, Below.refl _ _⟩
  case round =>
    obtain ⟨p, q, rfl, rfl, hp, hq, hqn, hgk, hbx⟩ := hrel
    have HX := Lib.hid hbx
    clear hbx
    by_cases hpq : p < q
    · cases gk with
      | zero => omega
      | succ gg =>
        have hHid := Lib.hid hgk
        have hm1 : p ≤ (p + q) / 2 := by omega
        have hm2 : (p + q) / 2 < q := by omega
        have hml : (p + q) / 2 < l.length := by omega
        obtain ⟨b, off, rfl, -, hblt, hcc⟩ := HC.out (by omega)
        have hat : At w b (off + (p + q) / 2 * 9) l[(p + q) / 2] := hcc ((p + q) / 2) hml
        obtain ⟨d0, d1, d2, d3, d4, d5, d6, d7, d8⟩ := at_td hat
        have e0 := (HX.out.cell (by exact hblt)).trans d0; have e1 := (HX.out.cell (by exact hblt)).trans d1; have e2 := (HX.out.cell (by exact hblt)).trans d2; have e3 := (HX.out.cell (by exact hblt)).trans d3; have e4 := (HX.out.cell (by exact hblt)).trans d4; have e5 := (HX.out.cell (by exact hblt)).trans d5; have e6 := (HX.out.cell (by exact hblt)).trans d6; have e7 := (HX.out.cell (by exact hblt)).trans d7; have e8 := (HX.out.cell (by exact hblt)).trans d8; clear d0 d1 d2 d3 d4 d5 d6 d7 d8
        have K1 := Lib.hid (H1.out ((p + q) / 2) hml)
        have K2 := Lib.hid (H2.out ((p + q) / 2) hml)
        have K3 := Lib.hid (fun r => HA.out l[(p + q) / 2] r wr)
        clear hat hcc
        generalize l[(p + q) / 2] = x at *
        have t0' : (p : Int) < (q : Int) := by omega
        have t1 : IntKind.i64.wrap ((p : Int) + (q : Int)) = (p : Int) + (q : Int) := by rw [IntKind.wrap_i64]; omega
        have t5 : ((p : Int) + (q : Int)) / 2 < (l.length : Int) := by omega
        have t6 : IntKind.i64.wrap (((p : Int) + (q : Int)) / 2 + 1) = ((p : Int) + (q : Int)) / 2 + 1 := by rw [IntKind.wrap_i64]; omega
        cases hls : lsS x.td.n want
        · have hlo : lb ≤ (p + q) / 2 := by
            by_cases hlo : lb ≤ (p + q) / 2
            · exact hlo
            · have := K1.out (by omega)
              rw [hls] at this; cases this
          obtain ⟨r, hr, hr0⟩ : ∃ r, Rg.cmpS x.td.n want = r ∧ 0 ≤ r := by
            cases hgt : lsS want x.td.n
            · have := ls_con hls hgt
              exact ⟨0, by rw [this]; exact cmp_eq _, by omega⟩
            · exact ⟨1, cmp_gt hls hgt, by omega⟩
          have K4 := Lib.hid (K3.out r hr HX.out)
          clear hls hr
          have t8 : decide (r < 0) = false := by simp; omega
          have HPQ := Lib.hid hpq
          clear hpq
          go_wp2_with fail
          refine K4.out.mono ?_
          rintro e w2 ⟨rfl, hb⟩
          have HB2 := Lib.hid (HX.out.trans (hb.mono HX.out.size))
          clear hb
          go_wp2
          go_roundg gg
          case measure => omega
          case rel => exact ⟨p, (p + q) / 2, rfl, by simp, hp, hlo, by omega, by have := hHid.out; omega, HB2.out⟩
        · have hlo : (p + q) / 2 < lb := by
            by_cases hlo : (p + q) / 2 < lb
            · exact hlo
            · have := K2.out (by omega)
              rw [hls] at this; cases this
          have K4 := Lib.hid (K3.out (-1) (cmp_lt hls) HX.out)
          clear hls
          have HPQ := Lib.hid hpq
          clear hpq
          go_wp2_with fail
          refine K4.out.mono ?_
          rintro e w2 ⟨rfl, hb⟩
          have HB2 := Lib.hid (HX.out.trans (hb.mono HX.out.size))
          clear hb
          go_wp2
          go_roundg gg
          case measure => omega
          case rel => exact ⟨(p + q) / 2 + 1, q, by simp, rfl, hlo, hq, hqn, by have := hHid.out; omega, HB2.out⟩
    · obtain rfl : p = q := by omega
      obtain rfl : p = lb := by omega
      have t0 : decide ((p : Int) < (p : Int)) = false := by simp
      by_cases hpn : p < l.length
      · obtain ⟨b, off, rfl, -, hblt, hcc⟩ := HC.out (by omega)
        have hat : At w b (off + p * 9) l[p] := hcc p hpn
        obtain ⟨d0, d1, d2, d3, d4, d5, d6, d7, d8⟩ := at_td hat
        have e0 := (HX.out.cell (by exact hblt)).trans d0; have e1 := (HX.out.cell (by exact hblt)).trans d1; have e2 := (HX.out.cell (by exact hblt)).trans d2; have e3 := (HX.out.cell (by exact hblt)).trans d3; have e4 := (HX.out.cell (by exact hblt)).trans d4; have e5 := (HX.out.cell (by exact hblt)).trans d5; have e6 := (HX.out.cell (by exact hblt)).trans d6; have e7 := (HX.out.cell (by exact hblt)).trans d7; have e8 := (HX.out.cell (by exact hblt)).trans d8; clear d0 d1 d2 d3 d4 d5 d6 d7 d8
        have K0 := Lib.hid (H3.out hpn)
        have K2 := Lib.hid (H2.out p hpn (Nat.le_refl _))
        have K3 := Lib.hid (fun r => HA.out l[p] r wr)
        clear hat hcc
        generalize l[p] = x at *
        have t5 : (p : Int) < (l.length : Int) := by omega
        have t6 : decide ((p : Int) < (l.length : Int)) = true := by simpa using hpn
        clear hp hq hgk hpq
        cases hgt : lsS want x.td.n
        · have he := ls_con K2.out hgt
          have K4 := Lib.hid (K3.out 0 (by rw [he]; exact cmp_eq _) HX.out)
          have HT : Hid (has = true) := by show _ = _; rw [K0.out, he]; simp
          clear hgt he
          go_wp2_with fail
          refine K4.out.mono ?_
          rintro e w2 ⟨rfl, hb⟩
          have HB2 := Lib.hid (HX.out.trans (hb.mono HX.out.size))
          clear hb
          go_wp2
          go_ret2
          exact ⟨by rw [HT.out]; rfl, HB2.out⟩
        · have K4 := Lib.hid (K3.out 1 (cmp_gt K2.out hgt) HX.out)
          have HT : Hid (has = false) := by
            show _ = _
            rw [K0.out]
            cases hq : (x.td.n.toList == want.toList) with
            | false => rfl
            | true =>
              have : x.td.n = want := Hd.ba_ext (eq_of_beq hq)
              rw [this, ls_irr] at hgt; cases hgt
          clear hgt
          go_wp2_with fail
          refine K4.out.mono ?_
          rintro e w2 ⟨rfl, hb⟩
          have HB2 := Lib.hid (HX.out.trans (hb.mono HX.out.size))
          clear hb
          go_wp2
          go_ret2
          exact ⟨by rw [HT.out]; rfl, HB2.out⟩
      · have HT := Lib.hid (H4.out hpn)
        have t6 : decide ((p : Int) < (l.length : Int)) = false := by simpa using hpn
        clear hpq hgk
        go_wp2
        go_ret2
        exact ⟨by rw [HT.out]; rfl, HX.out⟩
set_option maxHeartbeats 1000000 in
theorem find_t (v : Value) (l : List TdM) (want : ByteArray) (w : World) {A : Nat} (hv : Sl w A w.heap.size v l) (hr : Ris (l.map (·.td.n))) :
    Calls Tryz.prog 97 #[v, .func (.func 65) #[] #[], .string want] w fun e w' => FoundT l want e ∧ Below w.heap.size w w' := by
  have hmf : ∀ (fn : Fn) (first cap : Array Value) (w : World), (Instr.makeFunc fn first cap).run Tryz.prog w = .ok (.func fn first cap) w := fun _ _ _ _ => rfl
  have H0 := al w (.cells #[.func (.func 65) #[] #[]] 103)
  have HX : Hid (Calls Tryz.prog 161 #[v, .string want, .func (.func 162) #[] #[.pointer (some ⟨w.heap.size, 0, none⟩)]] (w.alloc (.cells #[.func (.func 65) #[] #[]] 103)) fun e w' => FoundT l want e ∧ Below w.heap.size w w') :=
    (bin_t v l want w.heap.size _ (hv.on H0) hr (cell_new w _ _)).mono fun e w' ⟨he, hb⟩ => ⟨he, H0.trans (hb.mono H0.size)⟩
  obtain ⟨a, c, rfl⟩ := hv.slice
  clear hv hr H0
  unfold FoundT at *
  generalize lbK (l.map (·.td.n)) want = lb at *
  generalize hasK (l.map (·.td.n)) want = has at *
  go_enter Tryz.func97, Tryz.ntmps97
  go_wp2_with fail
  refine HX.out.mono ?_
  rintro e w1 ⟨rfl, hb⟩
  have HB := Lib.hid hb
  clear hb
  go_wp2
  go_ret2
  exact ⟨rfl, HB.out⟩
/-- The one of that name, or nothing. -/
def GotT (l : List TdM) (want : ByteArray) (e : Ending) : Prop :=
  (hasK (l.map (·.td.n)) want = true ∧ ∃ h : lbK (l.map (·.td.n)) want < l.length, l[lbK (l.map (·.td.n)) want].td.n = want ∧ e = .returned (.tuple #[.agg (tdE l[lbK (l.map (·.td.n)) want]).toArray, .bool true])) ∨
  (hasK (l.map (·.td.n)) want = false ∧ e = .returned (.tuple #[.agg #[.string ByteArray.empty, .int .i64 0, .int .i64 0, .int .i64 0, .slice none 0 0, .slice none 0 0, .string ByteArray.empty, .string ByteArray.empty, .int .i64 0], .bool false]))
set_option maxRecDepth 100000 in
set_option maxHeartbeats 2000000 in
theorem get_t (v : Value) (l : List TdM) (want : ByteArray) (w : World) {A : Nat} (hv : Sl w A w.heap.size v l) (hr : Ris (l.map (·.td.n))) :
    Calls Tryz.prog 123 #[v, .func (.func 65) #[] #[], .string want] w fun e w' => GotT l want e ∧ Below w.heap.size w w' := by
  have H0 := al w (.cells #[.string ByteArray.empty, .int .i64 0, .int .i64 0, .int .i64 0, .slice none 0 0, .slice none 0 0, .string ByteArray.empty, .string ByteArray.empty, .int .i64 0] 42)
  have hx0 := Hd.Bxn.made w [.string ByteArray.empty, .int .i64 0, .int .i64 0, .int .i64 0, .slice none 0 0, .slice none 0 0, .string ByteArray.empty, .string ByteArray.empty, .int .i64 0] 42
  have HX : Hid (Calls Tryz.prog 97 #[v, .func (.func 65) #[] #[], .string want] (w.alloc (.cells #[.string ByteArray.empty, .int .i64 0, .int .i64 0, .int .i64 0, .slice none 0 0, .slice none 0 0, .string ByteArray.empty, .string ByteArray.empty, .int .i64 0] 42)) fun e w' => FoundT l want e ∧ Below w.heap.size w w' ∧ Hd.Bxn w' w.heap.size [.string ByteArray.empty, .int .i64 0, .int .i64 0, .int .i64 0, .slice none 0 0, .slice none 0 0, .string ByteArray.empty, .string ByteArray.empty, .int .i64 0]) :=
    (find_t v l want _ (hv.on H0) hr).mono fun e w' ⟨he, hb⟩ => ⟨he, H0.trans (hb.mono H0.size), hx0.below hb⟩
  have HG := fun (h : hasK (l.map (·.td.n)) want = true) => has_get hr h
  have HV := Lib.hid hv
  obtain ⟨a, c, rfl⟩ := hv.slice
  clear hv hr H0 hx0
  unfold FoundT at HX
  by_cases hh : hasK (l.map (·.td.n)) want = true
  · obtain ⟨hlt, hk⟩ := HG hh
    clear HG
    rw [hh] at HX
    have hlt2 : lbK (l.map (·.td.n)) want < l.length := by simpa using hlt
    have hk2 : l[lbK (l.map (·.td.n)) want].td.n = want := by simpa using hk
    have HR : Hid (∀ e : Ending, e = .returned (.tuple #[.agg (tdE (l[lbK (l.map (·.td.n)) want]'hlt2)).toArray, .bool true]) → GotT l want e) := fun e he => .inl ⟨hh, hlt2, hk2, he⟩
    obtain ⟨a', c', he, -, -, -, hc⟩ := HV.out
    simp only [Value.slice.injEq] at he
    obtain ⟨rfl, -, rfl⟩ := he
    obtain ⟨b, off, rfl, -, hblt, hcc⟩ := hc (by omega)
    have HAT : Hid (At w b (off + lbK (l.map (·.td.n)) want * 9) (l[lbK (l.map (·.td.n)) want]'hlt2)) := hcc _ hlt2
    clear hcc hc hk hk2 hlt hh HV
    obtain ⟨gt, hgt⟩ : ∃ gt, gt = GotT l want := ⟨_, rfl⟩
    rw [← hgt] at HR ⊢
    clear hgt
    generalize l[lbK (l.map (·.td.n)) want]'hlt2 = x at *
    generalize lbK (l.map (·.td.n)) want = lb at *
    have t5 : (lb : Int) < (l.length : Int) := by omega
    go_enter Tryz.func123, Tryz.ntmps123
    go_wp2_with fail
    refine HX.out.mono ?_
    rintro e w1 ⟨rfl, hb, hx⟩
    have HB := Lib.hid hb
    have HBX := Lib.hid hx
    have HAT1 : Hid (At w1 b (off + lb * 9) x) := HAT.out.keep hb hblt
    have hth := hx.there 9 rfl
    clear hb hx
    go_upto_region 5 with fail
    refine wp_region_list ?_
    refine wpList_plain rfl fun K hK => ?_
    go_simp
    refine hK _ _ ?_
    clear hK K
    refine wpList_plain rfl fun K hK => ?_
    go_simp
    refine hK _ _ ?_
    clear hK K
    refine wpList_plain rfl fun K hK => ?_
    go_simp
    refine hK _ _ ?_
    clear hK K
    refine wpList_load_mid rfl 42 (.tmp 23) rfl b (off + lb * 9) rfl (tdE x) _ HAT1.out Tryz.underlying42 rfl rfl ?_
    refine wpList_store_mid rfl 42 (.tmp 6) (.tmp 24) rfl w.heap.size 0 (tdE x).toArray rfl rfl hth rfl (all_oneCell_toArray (tdE_one x)) ?_
    rw [show (tdE x).toArray.toList = tdE x from rfl]
    have HE := Lib.hid (HBX.out.all (tdE x) rfl)
    have HB2 : Hid (Below w.heap.size w (w1.setCells w.heap.size 0 (tdE x))) := below_setCells HB.out (Nat.le_refl _) _ _
    generalize w1.setCells w.heap.size 0 (tdE x) = w2 at *
    refine wpList_plain rfl fun K hK => ?_
    go_simp
    refine hK _ _ ?_
    clear hK K
    refine wpList_nil ?_
    go_wp2
    exact Hd.bodyPost_bx2 rfl w.heap.size (tdE x) _ rfl rfl HE.out Tryz.underlying42 rfl rfl ⟨HR.out _ rfl, HB2.out⟩
  · have hf : hasK (l.map (·.td.n)) want = false := by simpa using hh
    rw [hf] at HX
    have HR : Hid (∀ e : Ending, e = .returned (.tuple #[.agg #[.string ByteArray.empty, .int .i64 0, .int .i64 0, .int .i64 0, .slice none 0 0, .slice none 0 0, .string ByteArray.empty, .string ByteArray.empty, .int .i64 0], .bool false]) → GotT l want e) := fun e he => .inr ⟨hf, he⟩
    obtain ⟨gt, hgt⟩ : ∃ gt, gt = GotT l want := ⟨_, rfl⟩
    rw [← hgt] at HR ⊢
    clear hgt HG hh hf HV
    generalize lbK (l.map (·.td.n)) want = lb at *
    go_enter Tryz.func123, Tryz.ntmps123
    go_wp2_with fail
    refine HX.out.mono ?_
    rintro e w1 ⟨rfl, hb, hx⟩
    have HB := Lib.hid hb
    have HBX := Lib.hid hx
    have h9 := hb.size
    clear hb hx
    go_upto_region 4 with fail
    have HB1 : Hid (Below w.heap.size w (w1.alloc (.cells #[.string ⟨#[]⟩, .int .i64 0, .int .i64 0, .int .i64 0, .slice none 0 0, .slice none 0 0, .string ⟨#[]⟩, .string ⟨#[]⟩, .int .i64 0] 42))) := HB.out.alloc h9 _
    have HX1 : Hid (Hd.Bxn (w1.alloc (.cells #[.string ⟨#[]⟩, .int .i64 0, .int .i64 0, .int .i64 0, .slice none 0 0, .slice none 0 0, .string ⟨#[]⟩, .string ⟨#[]⟩, .int .i64 0] 42)) w.heap.size [.string ByteArray.empty, .int .i64 0, .int .i64 0, .int .i64 0, .slice none 0 0, .slice none 0 0, .string ByteArray.empty, .string ByteArray.empty, .int .i64 0]) := HBX.out.below (al w1 _)
    have hth := HX1.out.there 9 rfl
    have hrg : (w1.alloc (.cells #[.string ⟨#[]⟩, .int .i64 0, .int .i64 0, .int .i64 0, .slice none 0 0, .slice none 0 0, .string ⟨#[]⟩, .string ⟨#[]⟩, .int .i64 0] 42)).rangeAt w1.heap.size 0 [.string ByteArray.empty, .int .i64 0, .int .i64 0, .int .i64 0, .slice none 0 0, .slice none 0 0, .string ByteArray.empty, .string ByteArray.empty, .int .i64 0] := (Hd.Bxn.made w1 [.string ByteArray.empty, .int .i64 0, .int .i64 0, .int .i64 0, .slice none 0 0, .slice none 0 0, .string ByteArray.empty, .string ByteArray.empty, .int .i64 0] 42).range 0
    refine wp_region_list ?_
    refine wpList_load_mid rfl 42 (.tmp 10) rfl w1.heap.size 0 rfl [.string ByteArray.empty, .int .i64 0, .int .i64 0, .int .i64 0, .slice none 0 0, .slice none 0 0, .string ByteArray.empty, .string ByteArray.empty, .int .i64 0] _ hrg Tryz.underlying42 rfl rfl ?_
    refine wpList_store_mid rfl 42 (.tmp 6) (.tmp 20) rfl w.heap.size 0 #[.string ByteArray.empty, .int .i64 0, .int .i64 0, .int .i64 0, .slice none 0 0, .slice none 0 0, .string ByteArray.empty, .string ByteArray.empty, .int .i64 0] rfl rfl hth rfl (all_oneCell_toArray (cs := [.string ByteArray.empty, .int .i64 0, .int .i64 0, .int .i64 0, .slice none 0 0, .slice none 0 0, .string ByteArray.empty, .string ByteArray.empty, .int .i64 0]) (by intro v hv; simp only [List.mem_cons, List.not_mem_nil, or_false] at hv; rcases hv with rfl | rfl | rfl | rfl | rfl | rfl | rfl | rfl | rfl <;> rfl)) ?_
    rw [show (#[.string ByteArray.empty, .int .i64 0, .int .i64 0, .int .i64 0, .slice none 0 0, .slice none 0 0, .string ByteArray.empty, .string ByteArray.empty, .int .i64 0] : Array Value).toList = [.string ByteArray.empty, .int .i64 0, .int .i64 0, .int .i64 0, .slice none 0 0, .slice none 0 0, .string ByteArray.empty, .string ByteArray.empty, .int .i64 0] from rfl]
    have HE := Lib.hid (HX1.out.all [.string ByteArray.empty, .int .i64 0, .int .i64 0, .int .i64 0, .slice none 0 0, .slice none 0 0, .string ByteArray.empty, .string ByteArray.empty, .int .i64 0] rfl)
    have HB2 : Hid (Below w.heap.size w ((w1.alloc (.cells #[.string ⟨#[]⟩, .int .i64 0, .int .i64 0, .int .i64 0, .slice none 0 0, .slice none 0 0, .string ⟨#[]⟩, .string ⟨#[]⟩, .int .i64 0] 42)).setCells w.heap.size 0 [.string ByteArray.empty, .int .i64 0, .int .i64 0, .int .i64 0, .slice none 0 0, .slice none 0 0, .string ByteArray.empty, .string ByteArray.empty, .int .i64 0])) := below_setCells HB1.out (Nat.le_refl _) _ _
    clear hrg hth HX1 HB1
    generalize (w1.alloc (.cells #[.string ⟨#[]⟩, .int .i64 0, .int .i64 0, .int .i64 0, .slice none 0 0, .slice none 0 0, .string ⟨#[]⟩, .string ⟨#[]⟩, .int .i64 0] 42)).setCells w.heap.size 0 [.string ByteArray.empty, .int .i64 0, .int .i64 0, .int .i64 0, .slice none 0 0, .slice none 0 0, .string ByteArray.empty, .string ByteArray.empty, .int .i64 0] = w2 at *
    refine wpList_plain rfl fun K hK => ?_
    go_simp
    refine hK _ _ ?_
    clear hK K
    refine wpList_nil ?_
    go_wp2
    exact Hd.bodyPost_bx2 rfl w.heap.size [.string ByteArray.empty, .int .i64 0, .int .i64 0, .int .i64 0, .slice none 0 0, .slice none 0 0, .string ByteArray.empty, .string ByteArray.empty, .int .i64 0] _ rfl rfl HE.out Tryz.underlying42 rfl rfl ⟨HR.out _ rfl, HB2.out⟩
set_option maxRecDepth 100000 in
set_option maxHeartbeats 2000000 in
theorem rise_t (v : Value) (l : List TdM) (w : World) {A : Nat} (hv : Sl w A w.heap.size v l) :
    Calls Tryz.prog 121 #[v, .func (.func 65) #[] #[]] w fun e w' => e = .returned (.bool (risB (l.map (·.td.n)))) ∧ Below w.heap.size w w' := by
  have hE : ∀ args z, (callFunc 65 args).run Tryz.prog z = .ok (.enter 65 args) z := enters_of Tryz.func65 (by kernel_rfl) rfl
  obtain ⟨a, c, rfl, hcap, -, hlen, hc⟩ := hv
  have HC := Lib.hid hc
  have HN := Lib.hid (fun (x : TdM) z => name_t x z)
  have HBAD := Lib.hid (fun k h hk => ris_bad (l.map (·.td.n)) k h hk)
  have HS := Lib.hid (fun k => risT_succ (l.map (·.td.n)) k)
  have HAD : Hid (∀ k (h : k + 1 < l.length), adjB (l.map (·.td.n)) (k + 1) = lsS (l[k]'(by omega)).td.n l[k + 1].td.n) := fun k h => by
    unfold adjB
    rw [dif_pos ⟨by simpa using h, by omega⟩]
    simp
  have HA0 : Hid (adjB (l.map (·.td.n)) 0 = true) := by
    show _ = _
    unfold adjB
    rw [dif_neg (by omega)]
  clear hc
  go_enter Tryz.func121, Tryz.ntmps121
  go_wp2
  go_loopg [8] l.length (fun gg i wx => ∃ k : Nat, k + gg = l.length ∧ i = .int .i64 k ∧ Aside (risT (l.map (·.td.n)) k = true) ∧ Below w.heap.size w wx)
  case atStart => exact ⟨0, by omega, rfl, by show _ = _; simp [risT], Below.refl _ _⟩
  case round =>
    obtain ⟨k, hkg, rfl, HA, hbx⟩ := hrel
    have HX := Lib.hid hbx
    clear hbx
    cases gk with
    | zero =>
      obtain rfl : k = l.length := by omega
      have HT : Hid (risB (l.map (·.td.n)) = true) := by
        have := HA.out
        show _ = _
        unfold risB
        rw [List.length_map]
        exact this
      clear hkg
      go_wp2
      go_ret
      exact ⟨by rw [HT.out]; rfl, HX.out⟩
    | succ gg =>
      have hlk : k < l.length := by omega
      have t2 : (k : Int) < (l.length : Int) := by omega
      have t3 : IntKind.i64.wrap ((k : Int) + 1) = (k : Int) + 1 := by rw [IntKind.wrap_i64]; omega
      by_cases hk0 : k = 0
      · have HH : Hid (risT (l.map (·.td.n)) (k + 1) = true) := by show _ = _; rw [HS.out, HA.out, hk0, HA0.out]; rfl
        have t0 : decide (0 < k) = false := by simp; omega
        clear hk0
        go_upto_region 4 with fail
        go_quiet (fail)
        go_wp2
        go_roundg gg
        case measure => omega
        case rel => exact ⟨k + 1, by omega, by simp, HH.out, Rg.bdN HX.out _⟩
      · obtain ⟨j, rfl⟩ : ∃ j, k = j + 1 := ⟨k - 1, by omega⟩
        have t4 : (j : Int) < (l.length : Int) := by omega
        have t5 : (j : Int) + 1 < (l.length : Int) := by omega
        have t6 : IntKind.i64.wrap ((j : Int) + 1 + 1) = (j : Int) + 1 + 1 := by rw [IntKind.wrap_i64]; omega
        have t7 : IntKind.i64.wrap ((j : Int) + 1 - 1) = (j : Int) := by rw [IntKind.wrap_i64]; omega
        have t8 : (0 : Int) ≤ (j : Int) + 1 := by omega
        have t10 : IntKind.i64.wrap (j : Int) = (j : Int) := by rw [IntKind.wrap_i64]; omega
        have t11 : (0 : Int) ≤ (j : Int) := by omega
        have t9 : ((j : Int) + 1).toNat = j + 1 := by omega
        obtain ⟨b, off, rfl, -, hblt, hcc⟩ := HC.out (by omega)
        have hat : At w b (off + j * 9) (l[j]'(by omega)) := hcc j (by omega)
        obtain ⟨d0, d1, d2, d3, d4, d5, d6, d7, d8⟩ := at_td hat
        have e0 := (HX.out.cell (by exact hblt)).trans d0; have e1 := (HX.out.cell (by exact hblt)).trans d1; have e2 := (HX.out.cell (by exact hblt)).trans d2; have e3 := (HX.out.cell (by exact hblt)).trans d3; have e4 := (HX.out.cell (by exact hblt)).trans d4; have e5 := (HX.out.cell (by exact hblt)).trans d5; have e6 := (HX.out.cell (by exact hblt)).trans d6; have e7 := (HX.out.cell (by exact hblt)).trans d7; have e8 := (HX.out.cell (by exact hblt)).trans d8; clear d0 d1 d2 d3 d4 d5 d6 d7 d8
        have hat : At w b (off + (j + 1) * 9) l[j + 1] := hcc (j + 1) hlk
        obtain ⟨d0, d1, d2, d3, d4, d5, d6, d7, d8⟩ := at_td hat
        have f0 := (HX.out.cell (by exact hblt)).trans d0; have f1 := (HX.out.cell (by exact hblt)).trans d1; have f2 := (HX.out.cell (by exact hblt)).trans d2; have f3 := (HX.out.cell (by exact hblt)).trans d3; have f4 := (HX.out.cell (by exact hblt)).trans d4; have f5 := (HX.out.cell (by exact hblt)).trans d5; have f6 := (HX.out.cell (by exact hblt)).trans d6; have f7 := (HX.out.cell (by exact hblt)).trans d7; have f8 := (HX.out.cell (by exact hblt)).trans d8; clear d0 d1 d2 d3 d4 d5 d6 d7 d8
        have HD := Lib.hid (HAD.out j hlk)
        clear hat hcc hk0
        generalize l[j] = y at *
        generalize l[j + 1] = x at *
        have HSZ := Lib.hid (show b < wr.heap.size from Nat.lt_of_lt_of_le hblt HX.out.size)
        have HP : Hid (∀ z, Hid (Below wr.heap.size wr z) → (Hid (Below wr.heap.size wr z) ∧ z.cell? ⟨b, off + j * 9, none⟩ = some (.string y.td.n) ∧ z.cell? ⟨b, off + j * 9 + 1, none⟩ = some (.int .i64 y.td.z0) ∧ z.cell? ⟨b, off + j * 9 + 2, none⟩ = some (.int .i64 y.td.z1) ∧ z.cell? ⟨b, off + j * 9 + 3, none⟩ = some (.int .i64 y.td.z2) ∧ z.cell? ⟨b, off + j * 9 + 4, none⟩ = some (.slice y.a4 y.td.ws.length y.c4) ∧ z.cell? ⟨b, off + j * 9 + 5, none⟩ = some (.slice y.a5 y.td.bs.length y.c5) ∧ z.cell? ⟨b, off + j * 9 + 6, none⟩ = some (.string y.td.g) ∧ z.cell? ⟨b, off + j * 9 + 7, none⟩ = some (.string y.td.a) ∧ z.cell? ⟨b, off + j * 9 + 8, none⟩ = some (.int .i64 y.td.r) ∧ z.cell? ⟨b, off + (j + 1) * 9, none⟩ = some (.string x.td.n) ∧ z.cell? ⟨b, off + (j + 1) * 9 + 1, none⟩ = some (.int .i64 x.td.z0) ∧ z.cell? ⟨b, off + (j + 1) * 9 + 2, none⟩ = some (.int .i64 x.td.z1) ∧ z.cell? ⟨b, off + (j + 1) * 9 + 3, none⟩ = some (.int .i64 x.td.z2) ∧ z.cell? ⟨b, off + (j + 1) * 9 + 4, none⟩ = some (.slice x.a4 x.td.ws.length x.c4) ∧ z.cell? ⟨b, off + (j + 1) * 9 + 5, none⟩ = some (.slice x.a5 x.td.bs.length x.c5) ∧ z.cell? ⟨b, off + (j + 1) * 9 + 6, none⟩ = some (.string x.td.g) ∧ z.cell? ⟨b, off + (j + 1) * 9 + 7, none⟩ = some (.string x.td.a) ∧ z.cell? ⟨b, off + (j + 1) * 9 + 8, none⟩ = some (.int .i64 x.td.r))) := fun z hz => ⟨hz, (hz.out.cell (by exact HSZ.out)).trans e0, (hz.out.cell (by exact HSZ.out)).trans e1, (hz.out.cell (by exact HSZ.out)).trans e2, (hz.out.cell (by exact HSZ.out)).trans e3, (hz.out.cell (by exact HSZ.out)).trans e4, (hz.out.cell (by exact HSZ.out)).trans e5, (hz.out.cell (by exact HSZ.out)).trans e6, (hz.out.cell (by exact HSZ.out)).trans e7, (hz.out.cell (by exact HSZ.out)).trans e8, (hz.out.cell (by exact HSZ.out)).trans f0, (hz.out.cell (by exact HSZ.out)).trans f1, (hz.out.cell (by exact HSZ.out)).trans f2, (hz.out.cell (by exact HSZ.out)).trans f3, (hz.out.cell (by exact HSZ.out)).trans f4, (hz.out.cell (by exact HSZ.out)).trans f5, (hz.out.cell (by exact HSZ.out)).trans f6, (hz.out.cell (by exact HSZ.out)).trans f7, (hz.out.cell (by exact HSZ.out)).trans f8⟩
        clear e0 e1 e2 e3 e4 e5 e6 e7 e8 f0 f1 f2 f3 f4 f5 f6 f7 f8
        have H0 : Hid (Below wr.heap.size wr wr) := Below.refl _ _
        have HNY : Hid (∀ z, Hid (Below wr.heap.size wr z) → Calls Tryz.prog 65 #[.agg #[.string y.td.n, .int .i64 y.td.z0, .int .i64 y.td.z1, .int .i64 y.td.z2, .slice y.a4 y.td.ws.length y.c4, .slice y.a5 y.td.bs.length y.c5, .string y.td.g, .string y.td.a, .int .i64 y.td.r]] z fun e w' => e = .returned (.string y.td.n) ∧ Hid (Below wr.heap.size wr w')) := fun z hz => (HN.out y z).mono fun e w' ⟨he, hb⟩ => ⟨he, hz.out.trans (hb.mono hz.out.size)⟩
        have HNX : Hid (∀ z, Hid (Below wr.heap.size wr z) → Calls Tryz.prog 65 #[.agg #[.string x.td.n, .int .i64 x.td.z0, .int .i64 x.td.z1, .int .i64 x.td.z2, .slice x.a4 x.td.ws.length x.c4, .slice x.a5 x.td.bs.length x.c5, .string x.td.g, .string x.td.a, .int .i64 x.td.r]] z fun e w' => e = .returned (.string x.td.n) ∧ Hid (Below wr.heap.size wr w')) := fun z hz => (HN.out x z).mono fun e w' ⟨he, hb⟩ => ⟨he, hz.out.trans (hb.mono hz.out.size)⟩
        have H0d : Hid (Below wr.heap.size wr wr.drew) := ⟨rfl, rfl, rfl, Nat.le_refl _, fun _ _ => rfl⟩
        have KD := Lib.hid (HP.out wr.drew H0d)
        go_upto_region 4 with fail
        cases hls : lsS y.td.n x.td.n
        · have HF : Hid (risB (l.map (·.td.n)) = false) := HBAD.out (j + 1) (by simpa using hlk) (by rw [HD.out, hls])
          have g1 : Op.bytesLess y.td.n.toList x.td.n.toList = false := hls
          clear hls HBAD HS HAD HA0 HN
          go_region_held3 (fun z => Hid (Below wr.heap.size wr z) ∧ z.cell? ⟨b, off + j * 9, none⟩ = some (.string y.td.n) ∧ z.cell? ⟨b, off + j * 9 + 1, none⟩ = some (.int .i64 y.td.z0) ∧ z.cell? ⟨b, off + j * 9 + 2, none⟩ = some (.int .i64 y.td.z1) ∧ z.cell? ⟨b, off + j * 9 + 3, none⟩ = some (.int .i64 y.td.z2) ∧ z.cell? ⟨b, off + j * 9 + 4, none⟩ = some (.slice y.a4 y.td.ws.length y.c4) ∧ z.cell? ⟨b, off + j * 9 + 5, none⟩ = some (.slice y.a5 y.td.bs.length y.c5) ∧ z.cell? ⟨b, off + j * 9 + 6, none⟩ = some (.string y.td.g) ∧ z.cell? ⟨b, off + j * 9 + 7, none⟩ = some (.string y.td.a) ∧ z.cell? ⟨b, off + j * 9 + 8, none⟩ = some (.int .i64 y.td.r) ∧ z.cell? ⟨b, off + (j + 1) * 9, none⟩ = some (.string x.td.n) ∧ z.cell? ⟨b, off + (j + 1) * 9 + 1, none⟩ = some (.int .i64 x.td.z0) ∧ z.cell? ⟨b, off + (j + 1) * 9 + 2, none⟩ = some (.int .i64 x.td.z1) ∧ z.cell? ⟨b, off + (j + 1) * 9 + 3, none⟩ = some (.int .i64 x.td.z2) ∧ z.cell? ⟨b, off + (j + 1) * 9 + 4, none⟩ = some (.slice x.a4 x.td.ws.length x.c4) ∧ z.cell? ⟨b, off + (j + 1) * 9 + 5, none⟩ = some (.slice x.a5 x.td.bs.length x.c5) ∧ z.cell? ⟨b, off + (j + 1) * 9 + 6, none⟩ = some (.string x.td.g) ∧ z.cell? ⟨b, off + (j + 1) * 9 + 7, none⟩ = some (.string x.td.a) ∧ z.cell? ⟨b, off + (j + 1) * 9 + 8, none⟩ = some (.int .i64 x.td.r)) (first | assumption | exact KD.out | exact HP.out _ ‹_›)
            (first
              | ((with_reducible refine (HNY.out _ ?_).mono ?_); (first | assumption | exact H0d); rintro e w7 ⟨rfl, hb7⟩; have hs7 := HP.out _ hb7)
              | ((with_reducible refine (HNX.out _ ?_).mono ?_); (first | assumption | exact H0d); rintro e w8 ⟨rfl, hb8⟩; have hs8 := HP.out _ hb8))
          all_goals go_wp2
          all_goals go_ret
          all_goals exact ⟨by rw [HF.out]; rfl, HX.out.trans (hb8.out.mono HX.out.size)⟩
        · have HT : Hid (risT (l.map (·.td.n)) (j + 1 + 1) = true) := by show _ = _; rw [HS.out, HA.out, HD.out, hls]; rfl
          have g1 : Op.bytesLess y.td.n.toList x.td.n.toList = true := hls
          clear hls HBAD HS HAD HA0 HN
          go_region_held3 (fun z => Hid (Below wr.heap.size wr z) ∧ z.cell? ⟨b, off + j * 9, none⟩ = some (.string y.td.n) ∧ z.cell? ⟨b, off + j * 9 + 1, none⟩ = some (.int .i64 y.td.z0) ∧ z.cell? ⟨b, off + j * 9 + 2, none⟩ = some (.int .i64 y.td.z1) ∧ z.cell? ⟨b, off + j * 9 + 3, none⟩ = some (.int .i64 y.td.z2) ∧ z.cell? ⟨b, off + j * 9 + 4, none⟩ = some (.slice y.a4 y.td.ws.length y.c4) ∧ z.cell? ⟨b, off + j * 9 + 5, none⟩ = some (.slice y.a5 y.td.bs.length y.c5) ∧ z.cell? ⟨b, off + j * 9 + 6, none⟩ = some (.string y.td.g) ∧ z.cell? ⟨b, off + j * 9 + 7, none⟩ = some (.string y.td.a) ∧ z.cell? ⟨b, off + j * 9 + 8, none⟩ = some (.int .i64 y.td.r) ∧ z.cell? ⟨b, off + (j + 1) * 9, none⟩ = some (.string x.td.n) ∧ z.cell? ⟨b, off + (j + 1) * 9 + 1, none⟩ = some (.int .i64 x.td.z0) ∧ z.cell? ⟨b, off + (j + 1) * 9 + 2, none⟩ = some (.int .i64 x.td.z1) ∧ z.cell? ⟨b, off + (j + 1) * 9 + 3, none⟩ = some (.int .i64 x.td.z2) ∧ z.cell? ⟨b, off + (j + 1) * 9 + 4, none⟩ = some (.slice x.a4 x.td.ws.length x.c4) ∧ z.cell? ⟨b, off + (j + 1) * 9 + 5, none⟩ = some (.slice x.a5 x.td.bs.length x.c5) ∧ z.cell? ⟨b, off + (j + 1) * 9 + 6, none⟩ = some (.string x.td.g) ∧ z.cell? ⟨b, off + (j + 1) * 9 + 7, none⟩ = some (.string x.td.a) ∧ z.cell? ⟨b, off + (j + 1) * 9 + 8, none⟩ = some (.int .i64 x.td.r)) (first | assumption | exact KD.out | exact HP.out _ ‹_›)
            (first
              | ((with_reducible refine (HNY.out _ ?_).mono ?_); (first | assumption | exact H0d); rintro e w7 ⟨rfl, hb7⟩; have hs7 := HP.out _ hb7)
              | ((with_reducible refine (HNX.out _ ?_).mono ?_); (first | assumption | exact H0d); rintro e w8 ⟨rfl, hb8⟩; have hs8 := HP.out _ hb8))
          all_goals go_wp2
          all_goals go_roundg gg
          case measure => omega
          case rel => exact ⟨j + 1 + 1, by omega, by simp, HT.out, HX.out.trans (hb8.out.mono HX.out.size)⟩
end Bo
end Go.Proofs.YthbmnkeigmbbdaaGreat
