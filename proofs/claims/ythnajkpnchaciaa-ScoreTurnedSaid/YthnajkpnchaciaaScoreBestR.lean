/-
  THE BEST LOAD, second part: the document's Best.
-/
import Derived.Test.YthnajkpnchaciaaScoreScoR
import Derived.Test.YthnajkpnchaciaaScoreBest
namespace Go.Proofs.Ythnajkpnchaciaa
open Go.RowKit
namespace Rg
/-- The document's best so far: none is -1, of score 0. -/
def bestI : Option Nat → Int
  | .none => -1
  | .some b => b
def mostR (V : Ld → Int) (l : List Ld) : Option Nat → Int
  | .none => 0
  | .some b => vK V l b
set_option maxRecDepth 100000 in
set_option maxHeartbeats 8000000 in
theorem best_ref (yn yg ya : ByteArray) (y0 y1 y2 yr : Int) (ywa yba : Option Addr) (ywn ywc ybn ybc : Nat) (te : Nat) (D E : Ld → Nat) (V : Ld → Int) (l : List Ld) (v : Value) (w : World) (hl : Loads w w.heap.size v l)
    (k1 : ∀ z, Below w.heap.size w z → Calls Try.prog 20 #[.agg #[.string yn, .int .i64 y0, .int .i64 y1, .int .i64 y2, .slice ywa ywn ywc, .slice yba ybn ybc, .string yg, .string ya, .int .i64 yr]] z fun e w' => e = .returned (.int .i64 te) ∧ Below z.heap.size z w')
    (kd : te = 0 → ∀ x ∈ l, ∀ z, Below w.heap.size w z → Calls Try.prog 13 #[.agg #[.string x.n, .int .i64 x.h0, .int .i64 x.h1, .int .i64 x.h2, .slice x.la x.ls.length x.lc, .slice x.ta x.ts.length x.tc, .int .i64 x.u0, .int .i64 x.u1, .int .i64 x.u2]] z fun e w' => e = .returned (.int .i64 (D x : Nat)) ∧ Below z.heap.size z w')
    (ks : te = 0 → ∀ x ∈ l, ∀ z, Below w.heap.size w z → Calls Try.prog 10 #[.agg #[.string yn, .int .i64 y0, .int .i64 y1, .int .i64 y2, .slice ywa ywn ywc, .slice yba ybn ybc, .string yg, .string ya, .int .i64 yr], .agg #[.string x.n, .int .i64 x.h0, .int .i64 x.h1, .int .i64 x.h2, .slice x.la x.ls.length x.lc, .slice x.ta x.ts.length x.tc, .int .i64 x.u0, .int .i64 x.u1, .int .i64 x.u2]] z fun e w' => ScoreIs (E x) (V x) e ∧ Below z.heap.size z w')
    (hV : te = 0 → ∀ x ∈ l, E x = 0 → 0 ≤ V x) :
    Calls Try.prog 15 #[.agg #[.string yn, .int .i64 y0, .int .i64 y1, .int .i64 y2, .slice ywa ywn ywc, .slice yba ybn ybc, .string yg, .string ya, .int .i64 yr], v] w fun e w' => BestIs te D E V l e ∧ Below w.heap.size w w' := by
  obtain ⟨a, c, rfl, hlen, -, hc⟩ := hl
  have K1 := Lib.hid k1
  have KD := Lib.hid kd
  have KS := Lib.hid ks
  have HV := Lib.hid hV
  have HB0 := Lib.hid (Below.refl (w.alloc (.cells #[.string yn, .int .i64 y0, .int .i64 y1, .int .i64 y2, .slice ywa ywn ywc, .slice yba ybn ybc, .string yg, .string ya, .int .i64 yr] 25)).heap.size (w.alloc (.cells #[.string yn, .int .i64 y0, .int .i64 y1, .int .i64 y2, .slice ywa ywn ywc, .slice yba ybn ybc, .string yg, .string ya, .int .i64 yr] 25)))
  have HC : Hid (∀ z, Below w.heap.size w z → ∀ i (h : i < l.length), ∃ b off, a = some ⟨b, off, none⟩ ∧ b < w.heap.size ∧ ∀ i (h : i < l.length), z.cell? ⟨b, off + i * 9, none⟩ = some (.string l[i].n) ∧ z.cell? ⟨b, off + i * 9 + 1, none⟩ = some (.int .i64 l[i].h0) ∧ z.cell? ⟨b, off + i * 9 + 2, none⟩ = some (.int .i64 l[i].h1) ∧
      z.cell? ⟨b, off + i * 9 + 3, none⟩ = some (.int .i64 l[i].h2) ∧ z.cell? ⟨b, off + i * 9 + 4, none⟩ = some (.slice l[i].la l[i].ls.length l[i].lc) ∧ z.cell? ⟨b, off + i * 9 + 5, none⟩ = some (.slice l[i].ta l[i].ts.length l[i].tc) ∧
      z.cell? ⟨b, off + i * 9 + 6, none⟩ = some (.int .i64 l[i].u0) ∧ z.cell? ⟨b, off + i * 9 + 7, none⟩ = some (.int .i64 l[i].u1) ∧ z.cell? ⟨b, off + i * 9 + 8, none⟩ = some (.int .i64 l[i].u2)) := by
    intro z hb i hi
    obtain ⟨b, off, e, hlt, hcc⟩ := hc (by omega)
    refine ⟨b, off, e, hlt, fun i hi => ?_⟩
    have k : ∀ o, z.cell? ⟨b, o, none⟩ = w.cell? ⟨b, o, none⟩ := fun o => hb.cell (by exact hlt)
    simp only [k]
    exact hcc i hi
  clear k1 kd ks hV hc
  go_enter Try.func15, Try.ntmps15
  go_wp2_with fail
  refine (K1.out _ (boxed1 HB0.out).2).mono ?_
  rintro e w1 ⟨rfl, hb⟩
  have HB1 := Lib.hid hb
  have hz1 := hb.size
  simp at hz1
  clear hb
  have C1 := Lib.hid (boxed1 HB1.out).1
  have HW1 := Lib.hid (boxed1 HB1.out).2
  by_cases ht : te = 0
  · subst ht
    have KD2 := Lib.hid (KD.out rfl)
    have KS2 := Lib.hid (KS.out rfl)
    have HV2 := Lib.hid (HV.out rfl)
    clear K1 KD KS HV HB0 HB1
    go_wp2
    go_loopg [6, 19] l.length (fun g why i wx => ∃ (k q : Nat), k + g = l.length ∧ i = .int .i64 k ∧ why = .int .i64 q ∧ Aside (badK D l k = q) ∧ w1.heap.size ≤ wx.heap.size ∧ Below w1.heap.size w1 wx)
    case atStart => exact ⟨0, 0, by omega, rfl, rfl, rfl, Nat.le_refl _, Below.refl _ _⟩
    case round =>
      obtain ⟨k, q, hkg, rfl, rfl, HA, hzr, hbx⟩ := hrel
      have HX := Lib.hid hbx
      have HWX := Lib.hid (HW1.out.trans (hbx.mono (by omega)))
      cases gk with
      | zero =>
        obtain rfl : k = l.length := by omega
        have hbx' := hbx
        clear hkg hbx
        have HA' : Hid (badK D l l.length = q) := HA
        by_cases hq : q = 0
        · subst hq
          have hzq : w.heap.size + 1 ≤ wr.heap.size := by omega
          clear HX hzr
          have CR : Hid (∀ i, wr.cell? ⟨w.heap.size, i, none⟩ = #[.string yn, .int .i64 y0, .int .i64 y1, .int .i64 y2, .slice ywa ywn ywc, .slice yba ybn ybc, .string yg, .string ya, .int .i64 yr][i]?) := fun i => (hbx'.cell (by show w.heap.size < _; omega)).trans (C1.out i)
          clear hbx' HW1 C1 HA
          obtain ⟨wo, rfl⟩ : ∃ wo : World, wo = wr := ⟨_, rfl⟩
          clear hz1
          go_wp2
          go_loopg [9, 10, 33] l.length (fun g bi mi i wx => ∃ (k : Nat) (o : Option Nat), k + g = l.length ∧ i = .int .i64 k ∧ bi = .int .i64 (bestI o) ∧ mi = .int .i64 (mostR V l o) ∧ Aside (bestN E V l k = o) ∧ wo.heap.size ≤ wx.heap.size ∧ Below wo.heap.size wo wx)
          case atStart => exact ⟨0, .none, by omega, rfl, rfl, rfl, rfl, Nat.le_refl _, Below.refl _ _⟩
          case round =>
            obtain ⟨k, o, hkg, rfl, rfl, rfl, HO, hzo, hbx⟩ := hrel
            have HX := Lib.hid hbx
            have HWY := Lib.hid (HWX.out.trans (hbx.mono (by omega)))
            cases gk with
            | zero =>
              obtain rfl : k = l.length := by omega
              clear hkg hbx
              have HO' : Hid (bestN E V l l.length = o) := HO
              cases o with
              | none =>
                show Code.wp _ _ _ _ _
                have hb : bestI .none = -1 := rfl
                go_wp2
                go_ret2
                exact ⟨BestIs.none HA'.out HO'.out, HWY.out⟩
              | some b =>
                have hb : bestI (.some b) = (b : Int) := rfl
                have hb2 : decide ((b : Int) < 0) = false := by simp
                go_wp2
                go_ret2
                exact ⟨BestIs.some HA'.out HO'.out, HWY.out⟩
            | succ g =>
              have hlk : k < l.length := by omega
              have HG := Lib.hid hkg
              obtain ⟨b, off, rfl, hblt, hcc⟩ := HC.out _ HWY.out k hlk
              obtain ⟨d0, d1, d2, d3, d4, d5, d6, d7, d8⟩ := hcc k hlk
              have HSC := Lib.hid (KS2.out l[k] (List.getElem_mem hlk))
              have HVk := Lib.hid (HV2.out l[k] (List.getElem_mem hlk))
              have HSK := Lib.hid (best_skip E V l k hlk)
              have HST := Lib.hid (best_step E V l k hlk)
              have HVK : Hid (vK V l k = V l[k]) := by show _ = _; unfold vK; rw [List.getElem?_eq_getElem hlk]
              rw [show bestN E V l k = o from HO.out] at HSK HST
              have HNB : Hid (∀ j, o = some j → ∃ h : j < l.length, nmK l j = l[j].n) := by
                intro j hj
                have hjl : j < l.length := by have := best_in E V l k j (HO.out.trans hj); omega
                exact ⟨hjl, by unfold nmK; rw [List.getElem?_eq_getElem hjl]⟩
              have HCC := Lib.hid hcc
              have t0 : ∀ i, wr.cell? ⟨w.heap.size, i, none⟩ = #[.string yn, .int .i64 y0, .int .i64 y1, .int .i64 y2, .slice ywa ywn ywc, .slice yba ybn ybc, .string yg, .string ya, .int .i64 yr][i]? := fun i => (hbx.cell (by show w.heap.size < _; omega)).trans (CR.out i)
              have p0 : ∀ o i, (wr.alloc o).cell? ⟨w.heap.size, i, none⟩ = #[.string yn, .int .i64 y0, .int .i64 y1, .int .i64 y2, .slice ywa ywn ywc, .slice yba ybn ybc, .string yg, .string ya, .int .i64 yr][i]? := fun o i => by rw [World.cell?_alloc_lt _ _ _ (by show w.heap.size < _; omega)]; exact t0 i
              clear hkg hbx hcc t0
              generalize l[k] = x at *
              generalize E x = er at *
              generalize V x = vv at *
              rcases x with ⟨xn, x0, x1, x2, xla, xlc, xta, xtc, xu0, xu1, xu2, ls, ts⟩
              generalize ls.length = xln at *
              generalize ts.length = xtn at *
              simp only at d0 d1 d2 d3 d4 d5 d6 d7 d8 HSC HST
              have HWA : Hid (∀ o, Below w.heap.size w (wr.alloc o)) := fun o => HWY.out.alloc (by omega) o
              go_wp2_with fail
              refine (HSC.out _ (HWA.out _)).mono ?_
              rintro e w3 ⟨hsi, hb⟩
              have hz3 := hb.size
              simp at hz3
              have hxb : w3.cell? ⟨wr.heap.size, 0, none⟩ = some (.string xn) := by rw [hb.cell (by simp)]; simp [go_sem]
              have HB3 : Hid (Below wo.heap.size wo w3) := (HX.out.alloc (by omega) _).trans (hb.mono (by simp; omega))
              have kw : ∀ b o, b < wr.heap.size → w3.cell? ⟨b, o, none⟩ = wr.cell? ⟨b, o, none⟩ := fun b o h => ((one_ wr _).trans (hb.mono (by simp))).cell (by exact h)
              clear hb d0 d1 d2 d3 d4 d5 d6 d7 d8 p0
              unfold ScoreIs at hsi
              subst hsi
              by_cases he0 : er = 0
              · subst he0
                have hfit : fitV 0 vv = vv := if_pos rfl
                have HV0 := Lib.hid (HVk.out rfl)
                have HST2 := Lib.hid (HST.out rfl HV0.out)
                clear HSK HST HVk
                cases o with
                | none =>
                  have hb : bestI .none = -1 := rfl
                  have HR2 : Hid (bestN E V l (k + 1) = some k) := by
                    have h9 := HST2.out
                    have h8 : betterB vv (mostO V l .none) xn (nmK l ((Option.none : Option Nat).getD 0)) = true := by unfold betterB; rw [decide_eq_true (by show -1 < vv; have := HV0.out; omega)]; rfl
                    rw [if_pos h8] at h9
                    exact h9
                  clear HST2 kw hxb
                  go_wp2
                  go_quiet (fail)
                  go_wp2
                  go_roundg g
                  case measure => omega
                  case rel => exact ⟨k + 1, some k, by have := HG.out; omega, by go_num, rfl, by show _ = Value.int _ (vK V l k); rw [HVK.out], HR2.out, by show _ ≤ w3.heap.size; omega, bdN HB3.out _⟩
                | some j =>
                  obtain ⟨hjl, hnm⟩ := HNB.out j rfl
                  have hb : bestI (.some j) = (j : Int) := rfl
                  have hb2 : decide ((j : Int) < 0) = false := by simp
                  have hmo : mostR V l (.some j) = vK V l j := rfl
                  have f0 : w3.cell? ⟨b, off + j * 9, none⟩ = some (.string (nmK l j)) := by rw [kw _ _ (by omega), (HCC.out j hjl).1, hnm]
                  have HST3 : Hid (bestN E V l (k + 1) = if betterB vv (vK V l j) xn (nmK l j) = true then some k else some j) := HST2.out
                  have HE : Hid (betterB vv (vK V l j) xn (nmK l j) = (decide (vK V l j < vv) || (decide (vv = vK V l j) && Op.bytesLess xn.toList (nmK l j).toList))) := rfl
                  have HVJ : Hid (∀ z, mostR V l (.some j) = z ↔ vK V l j = z) := fun z => Iff.rfl
                  clear HST2 kw hnm
                  generalize nmK l j = nb at *
                  generalize vK V l j = mo at *
                  by_cases h1 : mo < vv
                  · have HR2 : Hid (bestN E V l (k + 1) = some k) := by
                      have h9 := HST3.out
                      rw [HE.out, decide_eq_true h1] at h9
                      exact h9
                    clear HST3 HE
                    go_wp2
                    go_quiet (fail)
                    go_wp2
                    go_roundg g
                    case measure => omega
                    case rel => exact ⟨k + 1, some k, by have := HG.out; omega, by go_num, rfl, by show _ = Value.int _ (vK V l k); rw [HVK.out], HR2.out, by show _ ≤ w3.heap.size; omega, bdN HB3.out _⟩
                  · have h1' : decide (mo < vv) = false := by simpa using h1
                    by_cases h2 : vv = mo
                    · have h2' : (vv == mo) = true := by simpa using h2
                      have HR2 : Hid (bestN E V l (k + 1) = if Op.bytesLess xn.toList nb.toList = true then some k else some j) := by
                        have h9 := HST3.out
                        rw [HE.out, decide_eq_false h1, decide_eq_true h2] at h9
                        show _ = _
                        simpa using h9
                      have HM := Lib.hid h2
                      clear HST3 HE h1 h2
                      cases hlt : Op.bytesLess xn.toList nb.toList
                      · have HR3 : Hid (bestN E V l (k + 1) = some j) := by
                          have h9 := HR2.out
                          rw [hlt] at h9
                          exact h9
                        go_wp2
                        go_quiet (fail)
                        go_wp2
                        go_roundg g
                        case measure => omega
                        case rel => exact ⟨k + 1, some j, by have := HG.out; omega, by go_num, rfl, by rw [hmo], HR3.out, by show _ ≤ w3.heap.size; omega, bdN HB3.out _⟩
                      · have HR3 : Hid (bestN E V l (k + 1) = some k) := by
                          have h9 := HR2.out
                          rw [hlt] at h9
                          exact h9
                        go_wp2
                        go_quiet (fail)
                        go_wp2
                        go_roundg g
                        case measure => omega
                        case rel => exact ⟨k + 1, some k, by have := HG.out; omega, by go_num, rfl, by show _ = Value.int _ (vK V l k); rw [HVK.out], HR3.out, by show _ ≤ w3.heap.size; omega, bdN HB3.out _⟩
                    · have h2' : (vv == mo) = false := by simpa using h2
                      have HR2 : Hid (bestN E V l (k + 1) = some j) := by
                        have h9 := HST3.out
                        rw [HE.out, decide_eq_false h1, decide_eq_false h2] at h9
                        exact h9
                      clear HST3 HE
                      go_wp2
                      go_quiet (fail)
                      go_wp2
                      go_roundg g
                      case measure => omega
                      case rel => exact ⟨k + 1, some j, by have := HG.out; omega, by go_num, rfl, by rw [hmo], HR2.out, by show _ ≤ w3.heap.size; omega, bdN HB3.out _⟩
              · have hne0 : ¬ (er : Int) = 0 := by omega
                have HR2 : Hid (bestN E V l (k + 1) = o) := HSK.out he0
                clear HSK HST HVk he0 kw hxb
                go_wp2
                go_roundg g
                case measure => omega
                case rel => exact ⟨k + 1, o, by have := HG.out; omega, by go_num, rfl, rfl, HR2.out, by omega, HB3.out⟩
        · have hq2 : ¬ (q : Int) = 0 := by omega
          go_wp2
          go_ret2
          exact ⟨BestIs.bad HA'.out hq, HWX.out⟩
      | succ g =>
        have hlk : k < l.length := by omega
        have HG := Lib.hid hkg
        obtain ⟨b, off, rfl, hblt, hcc⟩ := HC.out _ HWX.out k hlk
        obtain ⟨d0, d1, d2, d3, d4, d5, d6, d7, d8⟩ := hcc k hlk
        have HSC := Lib.hid (KD2.out l[k] (List.getElem_mem hlk))
        have HBN := Lib.hid (bad_next D l k hlk)
        have HBS := Lib.hid (fun h => bad_stay D l k h (k + 1) (by omega))
        rw [show badK D l k = q from HA.out] at HBN HBS
        clear hkg hbx hcc
        generalize l[k] = x at *
        generalize D x = dx at *
        rcases x with ⟨xn, x0, x1, x2, xla, xlc, xta, xtc, xu0, xu1, xu2, ls, ts⟩
        generalize ls.length = xln at *
        generalize ts.length = xtn at *
        simp only at d0 d1 d2 d3 d4 d5 d6 d7 d8 HSC
        have HWA : Hid (∀ o, Below w.heap.size w (wr.alloc o)) := fun o => HWX.out.alloc (by omega) o
        by_cases hq : q = 0
        · subst hq
          have HR : Hid (badK D l (k + 1) = dx) := HBN.out rfl
          clear HBN HBS
          go_wp2_with fail
          refine (HSC.out _ (HWA.out _)).mono ?_
          rintro e w3 ⟨rfl, hb⟩
          have hz3 := hb.size
          simp at hz3
          have HB3 : Hid (Below w1.heap.size w1 w3) := (HX.out.alloc (by omega) _).trans (hb.mono (by simp; omega))
          clear hb d0 d1 d2 d3 d4 d5 d6 d7 d8
          go_wp2
          go_roundg g
          case measure => omega
          case rel => exact ⟨k + 1, dx, by have := HG.out; omega, by go_num, rfl, HR.out, by omega, HB3.out⟩
        · have hq2 : ¬ (q : Int) = 0 := by omega
          have HR : Hid (badK D l (k + 1) = q) := HBS.out hq
          clear HBN HBS HSC
          go_wp2
          go_roundg g
          case measure => omega
          case rel => exact ⟨k + 1, q, by have := HG.out; omega, by go_num, rfl, HR.out, by simp; omega, HX.out.alloc (by omega) _⟩
  · have ht2 : ¬ (te : Int) = 0 := by omega
    have HT := Lib.hid ht
    clear K1 KD KS HV HB0 HB1
    go_wp2
    go_loopg [6, 19] l.length (fun g why i wx => why = .int .i64 te ∧ ∃ k : Nat, k + g = l.length ∧ i = .int .i64 k ∧ w1.heap.size ≤ wx.heap.size ∧ Below w1.heap.size w1 wx)
    case atStart => exact ⟨rfl, 0, by omega, rfl, Nat.le_refl _, Below.refl _ _⟩
    case round =>
      obtain ⟨rfl, k, hkg, rfl, hzr, hbx⟩ := hrel
      have HX := Lib.hid hbx
      have HWX := Lib.hid (HW1.out.trans (hbx.mono (by omega)))
      cases gk with
      | zero =>
        obtain rfl : k = l.length := by omega
        clear hkg hbx
        go_wp2
        go_ret2
        exact ⟨BestIs.task HT.out, HWX.out⟩
      | succ g =>
        have hlk : k < l.length := by omega
        have HG := Lib.hid hkg
        obtain ⟨b, off, rfl, hblt, hcc⟩ := HC.out _ HWX.out k hlk
        obtain ⟨d0, d1, d2, d3, d4, d5, d6, d7, d8⟩ := hcc k hlk
        clear hkg hbx hcc
        go_wp2
        go_roundg g
        case measure => omega
        case rel => exact ⟨rfl, k + 1, by have := HG.out; omega, by go_num, by simp; omega, HX.out.alloc (by omega) _⟩
end Rg
end Go.Proofs.Ythnajkpnchaciaa
