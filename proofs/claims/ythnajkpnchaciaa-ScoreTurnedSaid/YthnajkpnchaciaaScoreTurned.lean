/-
  WALK of the law on loads the other way round.
-/
import Derived.Test.YthnajkpnchaciaaScoreRow
namespace Go.Proofs.Ythnajkpnchaciaa
open Go.RowKit Go.Lib Go.Sort
namespace Rg
set_option maxRecDepth 100000 in
set_option maxHeartbeats 8000000 in
theorem scoreTurned (yn yg ya : ByteArray) (y0 y1 y2 yr : Int) (ywa yba : Option Addr) (ywn ywc ybn ybc : Nat) (ws bs : List Pr) (l : List Ld) (v : Value) (w : World) (hl : Loads w w.heap.size v l) (h112 : l.length * 112 ≤ 140737488355328) (hy : yn.size ≤ maxLen ∧ yg.size ≤ maxLen ∧ ya.size ≤ maxLen)
    (h1 : Pairs w w.heap.size (.slice ywa ywn ywc) ws) (h2 : Pairs w w.heap.size (.slice yba ybn ybc) bs) :
    Calls Try.prog 6 #[.agg #[.string yn, .int .i64 y0, .int .i64 y1, .int .i64 y2, .slice ywa ywn ywc, .slice yba ybn ybc, .string yg, .string ya, .int .i64 yr], v] w fun e w' => e = .returned (.bool true) ∧ Below w.heap.size w w' := by
  have g1 := fun z (hb : Below w.heap.size w z) => best_of yn yg ya y0 y1 y2 yr ywa yba ywn ywc ybn ybc ws bs l v z (hl.over hb) hy (h1.ovr hb) (h2.ovr hb)
  have g2 := fun z u (hb : Below w.heap.size w z) (hu : Loads z z.heap.size u l.reverse) => best_of yn yg ya y0 y1 y2 yr ywa yba ywn ywc ybn ybc ws bs l.reverse u z hu hy (h1.ovr hb) (h2.ovr hb)
  have hbt := best_turned (taskE yn yg ya y0 y1 y2 yr ws bs) ldE (scE (taskE yn yg ya y0 y1 y2 yr ws bs) ws bs y0 y1 y2) (scV y0 y1 y2) l
  have hbz := bestE_turned (taskE yn yg ya y0 y1 y2 yr ws bs) ldE (scE (taskE yn yg ya y0 y1 y2 yr ws bs) ws bs y0 y1 y2) (scV y0 y1 y2) l
  unfold BestIs at g1 g2
  generalize bestE (taskE yn yg ya y0 y1 y2 yr ws bs) ldE (scE (taskE yn yg ya y0 y1 y2 yr ws bs) ws bs y0 y1 y2) (scV y0 y1 y2) l = be at g1 hbt hbz
  generalize bestV (taskE yn yg ya y0 y1 y2 yr ws bs) ldE (scE (taskE yn yg ya y0 y1 y2 yr ws bs) ws bs y0 y1 y2) (scV y0 y1 y2) l = av at g1 hbt
  generalize bestE (taskE yn yg ya y0 y1 y2 yr ws bs) ldE (scE (taskE yn yg ya y0 y1 y2 yr ws bs) ws bs y0 y1 y2) (scV y0 y1 y2) l.reverse = br at g2 hbz
  generalize bestV (taskE yn yg ya y0 y1 y2 yr ws bs) ldE (scE (taskE yn yg ya y0 y1 y2 yr ws bs) ws bs y0 y1 y2) (scV y0 y1 y2) l.reverse = bv at g2 hbt
  obtain ⟨a, c, rfl, hlen, hm, hc⟩ := hl
  have HC : Hid (∀ z, Below w.heap.size w z → ∀ i (h : i < l.length), ∃ b off, a = some ⟨b, off, none⟩ ∧ b < w.heap.size ∧ z.cell? ⟨b, off + i * 9, none⟩ = some (.string l[i].n) ∧ z.cell? ⟨b, off + i * 9 + 1, none⟩ = some (.int .i64 l[i].h0) ∧ z.cell? ⟨b, off + i * 9 + 2, none⟩ = some (.int .i64 l[i].h1) ∧
      z.cell? ⟨b, off + i * 9 + 3, none⟩ = some (.int .i64 l[i].h2) ∧ z.cell? ⟨b, off + i * 9 + 4, none⟩ = some (.slice l[i].la l[i].ls.length l[i].lc) ∧ z.cell? ⟨b, off + i * 9 + 5, none⟩ = some (.slice l[i].ta l[i].ts.length l[i].tc) ∧
      z.cell? ⟨b, off + i * 9 + 6, none⟩ = some (.int .i64 l[i].u0) ∧ z.cell? ⟨b, off + i * 9 + 7, none⟩ = some (.int .i64 l[i].u1) ∧ z.cell? ⟨b, off + i * 9 + 8, none⟩ = some (.int .i64 l[i].u2)) := by
    intro z hb i hi
    obtain ⟨b, off, e, hlt, hcc⟩ := hc (by omega)
    refine ⟨b, off, e, hlt, ?_⟩
    have k : ∀ o, z.cell? ⟨b, o, none⟩ = w.cell? ⟨b, o, none⟩ := fun o => hb.cell (by exact hlt)
    simp only [k]
    exact hcc i hi
  have HM : Hid (∀ z, Below w.heap.size w z → ∀ x ∈ l.reverse, x.n.size ≤ maxLen ∧ Pairs z z.heap.size (.slice x.la x.ls.length x.lc) x.ls ∧ Pairs z z.heap.size (.slice x.ta x.ts.length x.tc) x.ts) := by
    intro z hb x hx
    obtain ⟨m1, m2, m3⟩ := hm x (by simpa using hx)
    exact ⟨m1, m2.ovr hb, m3.ovr hb⟩
  have HR : Hid (∀ k (h : k < l.length), l.reverse.take (k + 1) = l.reverse.take k ++ [l[l.length - 1 - k]] ∧ nmK l.reverse k = l[l.length - 1 - k].n) := by
    intro k h
    refine ⟨?_, ?_⟩
    · rw [List.take_succ_eq_append_getElem (by simpa using h), List.getElem_reverse]
    · rw [nmK_rev l k h]; unfold nmK; rw [List.getElem?_eq_getElem (by omega)]
  have HLR : Hid (l.reverse.length = l.length) := by show _ = _; simp
  have HTK : Hid (l.reverse.take l.length = l.reverse) := by show _ = _; rw [List.take_of_length_le (by simp)]
  have HAP := Lib.hid (apR_succ l.reverse)
  have HAI := Lib.hid (apI_succ l.reverse)
  have HA0 : Hid (apR l.reverse 0 = true) := rfl
  have HI0 : Hid (∀ nm, apI l.reverse nm 0 = true) := fun _ => rfl
  have HNK : Hid (∀ m (h : m < l.reverse.length), nmK l.reverse m = l.reverse[m].n) := by
    intro m h; unfold nmK; rw [List.getElem?_eq_getElem h]
  generalize l.reverse = r at *
  have G1 := Lib.hid g1
  have G2 := Lib.hid g2
  have HBT := Lib.hid hbt
  have HBZ := Lib.hid hbz
  have H112 := Lib.hid h112
  have HB0 := Lib.hid (Below.refl (w.alloc (.cells #[.string yn, .int .i64 y0, .int .i64 y1, .int .i64 y2, .slice ywa ywn ywc, .slice yba ybn ybc, .string yg, .string ya, .int .i64 yr] 25)).heap.size (w.alloc (.cells #[.string yn, .int .i64 y0, .int .i64 y1, .int .i64 y2, .slice ywa ywn ywc, .slice yba ybn ybc, .string yg, .string ya, .int .i64 yr] 25)))
  obtain ⟨i0, hi, hz0, hz1, hz2⟩ := info_parts info_load
  clear g1 g2 hbt hbz hm hc h1 h2 hy h112
  go_enter Try.func6, Try.ntmps6
  go_wp2_with fail
  refine (lives_true _).mono ?_
  rintro e w1 ⟨rfl, hb⟩
  have HB1 := Lib.hid (HB0.out.trans (hb.mono HB0.out.size))
  have hz1' := HB1.out.size
  simp at hz1'
  clear hb
  have C1 := Lib.hid (boxed1 HB1.out).1
  have HW1 := Lib.hid (boxed1 HB1.out).2
  clear HB0 HB1
  go_wp2
  go_loopg [5, 6, 7] l.length (fun g tv ap iv wx => ∃ (k : Nat) (z : Int) (a1 : Option Addr) (c1 : Nat), k + g = l.length ∧ Aside (z = (l.length : Int) - 1 - k) ∧ iv = .int .i64 z ∧ tv = .slice a1 k c1 ∧ ap = .bool (apR r k) ∧ Aside (wx.ownsRow w1.heap.size 29 9 (.slice a1 k c1) k (flatL (r.take k))) ∧ w1.heap.size ≤ wx.heap.size ∧ Below w1.heap.size w1 wx)
  case atStart => exact ⟨0, (l.length : Int) - 1, none, 0, by omega, by show _ = _; omega, by go_num, rfl, by rw [HA0.out], World.ownsRow_nil _ _ _ _, Nat.le_refl _, Below.refl _ _⟩
  case round =>
    obtain ⟨k, z, a1, c1, hkg, HZ, rfl, rfl, rfl, HO, hzr, hbx⟩ := hrel
    have HX := Lib.hid hbx
    have HWX := Lib.hid (HW1.out.trans (hbx.mono (by omega)))
    cases gk with
    | zero =>
      obtain rfl : k = l.length := by omega
      obtain rfl : z = -1 := by have := HZ.out; omega
      have HOL : Hid (OwnL wr w1.heap.size (.slice a1 l.length c1) r) := by
        have h9 := HO.out
        rw [HTK.out] at h9
        show OwnL wr w1.heap.size (.slice a1 l.length c1) r
        unfold OwnL
        rw [HLR.out]
        exact h9
      have t0 : ∀ i, wr.cell? ⟨w.heap.size, i, none⟩ = #[.string yn, .int .i64 y0, .int .i64 y1, .int .i64 y2, .slice ywa ywn ywc, .slice yba ybn ybc, .string yg, .string ya, .int .i64 yr][i]? := fun i => (hbx.cell (by show w.heap.size < _; omega)).trans (C1.out i)
      clear hkg hbx HO HZ
      go_wp2_with fail
      refine (G1.out _ HWX.out).mono ?_
      rintro e w3 ⟨rfl, hb⟩
      have HW3 := Lib.hid (HWX.out.trans (hb.mono (by omega)))
      have t3 : ∀ i, w3.cell? ⟨w.heap.size, i, none⟩ = #[.string yn, .int .i64 y0, .int .i64 y1, .int .i64 y2, .slice ywa ywn ywc, .slice yba ybn ybc, .string yg, .string ya, .int .i64 yr][i]? := fun i => (hb.cell (by show w.heap.size < _; omega)).trans (t0 i)
      have HL3 := Lib.hid ((HOL.out.keep hb).loads (by rw [HLR.out]; exact hlen) (HM.out _ HW3.out))
      have hz3 := hb.size
      clear hb t0 HOL
      go_wp2_with fail
      refine (G2.out _ _ HW3.out HL3.out).mono ?_
      rintro e w4 ⟨rfl, hb⟩
      have HW4 := Lib.hid (HW3.out.trans (hb.mono (by omega)))
      clear hb t3 HL3
      generalize apR r l.length = p at *
      cases p
      · go_wp2
        go_ret
        exact ⟨by simp, HW4.out⟩
      · by_cases he : be = 0
        · have hbr : br = 0 := HBZ.out.2 he
          subst he hbr
          obtain ⟨q1, q2⟩ := HBT.out rfl rfl
          have q3 : ((bv : Int) == (l.length : Int) - 1 - (av : Int)) = true := by simp; omega
          have q4 : decide ((av : Int) < (l.length : Int)) = true := by simp; omega
          have q5 : IntKind.i64.wrap ((l.length : Int) - 1) = (l.length : Int) - 1 := by rw [IntKind.wrap_i64]; omega
          have q6 : IntKind.i64.wrap ((l.length : Int) - 1 - (av : Int)) = (l.length : Int) - 1 - (av : Int) := by rw [IntKind.wrap_i64]; omega
          clear q2
          go_wp2
          go_ret
          exact ⟨by simp <;> omega, HW4.out⟩
        · have hbr : ¬ br = 0 := fun h => he (HBZ.out.1 h)
          have n1 : ((be : Int) != 0) = true := by simp; omega
          have n2 : ((br : Int) != 0) = true := by simp; omega
          go_wp2
          go_ret
          exact ⟨by simp, HW4.out⟩
    | succ g =>
      obtain ⟨j, rfl⟩ : ∃ j : Nat, z = (j : Int) := ⟨l.length - 1 - k, by have := HZ.out; omega⟩
      have hj : j + 1 + k = l.length := by have := HZ.out; omega
      have hjl : j < l.length := by omega
      have hkl : k < l.length := by omega
      have hjk : l.length - 1 - k = j := by omega
      have HG := Lib.hid hkg
      have HJ := Lib.hid hj
      have HRK : Hid (r.take (k + 1) = r.take k ++ [l[j]] ∧ nmK r k = l[j].n) := by
        have h9 := HR.out k hkl
        simp only [hjk] at h9
        exact h9
      have HAK := Lib.hid (HAP.out k)
      obtain ⟨b, off, rfl, hblt, d0, d1, d2, d3, d4, d5, d6, d7, d8⟩ := HC.out _ HWX.out j hjl
      clear hkg hjk hj HZ
      generalize l[j] = x at *
      have hn : nmK r k = x.n := HRK.out.2
      rw [hn] at HAK
      clear hn
      rcases x with ⟨xn, x0, x1, x2, xla, xlc, xta, xtc, xu0, xu1, xu2, ls, ts⟩
      have HEC : Hid (encL ⟨xn, x0, x1, x2, xla, xlc, xta, xtc, xu0, xu1, xu2, ls, ts⟩ = [.string xn, .int .i64 x0, .int .i64 x1, .int .i64 x2, .slice xla ls.length xlc, .slice xta ts.length xtc, .int .i64 xu0, .int .i64 xu1, .int .i64 xu2]) := rfl
      have HFL : Hid (flatL (r.take (k + 1)) = flatL (r.take k) ++ encL ⟨xn, x0, x1, x2, xla, xlc, xta, xtc, xu0, xu1, xu2, ls, ts⟩) := by
        show _ = _
        rw [HRK.out.1, flatL_app, flatL_one]
      have HE1 := Lib.hid (encL_one ⟨xn, x0, x1, x2, xla, xlc, xta, xtc, xu0, xu1, xu2, ls, ts⟩)
      rw [HEC.out] at HFL HE1
      generalize ls.length = xln at *
      generalize ts.length = xtn at *
      simp only at d0 d1 d2 d3 d4 d5 d6 d7 d8 HAK
      have HD : Hid (∀ z', Below wr.heap.size wr z' → z'.cell? ⟨b, off + j * 9, none⟩ = some (.string xn) ∧ z'.cell? ⟨b, off + j * 9 + 1, none⟩ = some (.int .i64 x0) ∧ z'.cell? ⟨b, off + j * 9 + 2, none⟩ = some (.int .i64 x1) ∧ z'.cell? ⟨b, off + j * 9 + 3, none⟩ = some (.int .i64 x2) ∧ z'.cell? ⟨b, off + j * 9 + 4, none⟩ = some (.slice xla xln xlc) ∧
          z'.cell? ⟨b, off + j * 9 + 5, none⟩ = some (.slice xta xtn xtc) ∧ z'.cell? ⟨b, off + j * 9 + 6, none⟩ = some (.int .i64 xu0) ∧ z'.cell? ⟨b, off + j * 9 + 7, none⟩ = some (.int .i64 xu1) ∧ z'.cell? ⟨b, off + j * 9 + 8, none⟩ = some (.int .i64 xu2)) := by
        intro z' hb
        have k9 : ∀ o, z'.cell? ⟨b, o, none⟩ = wr.cell? ⟨b, o, none⟩ := fun o => hb.cell (by show b < _; omega)
        simp only [k9]
        exact ⟨d0, d1, d2, d3, d4, d5, d6, d7, d8⟩
      clear d0 d1 d2 d3 d4 d5 d6 d7 d8 hbx HRK HEC
      obtain ⟨wo, rfl⟩ : ∃ wo : World, wo = wr := ⟨_, rfl⟩
      generalize apR r k = p0 at *
      go_wp2
      go_loopg [6, 25] k (fun g2 ap mv wy => ∃ m : Nat, m + g2 = k ∧ mv = .int .i64 m ∧ ap = .bool (p0 && apI r xn m) ∧ wo.heap.size ≤ wy.heap.size ∧ Below wo.heap.size wo wy)
      case atStart => exact ⟨0, by omega, rfl, by rw [HI0.out]; simp, Nat.le_refl _, Below.refl _ _⟩
      case round =>
        obtain ⟨m, hmg, rfl, rfl, hzy, hby⟩ := hrel
        have HY := Lib.hid hby
        obtain ⟨d0, d1, d2, d3, d4, d5, d6, d7, d8⟩ := HD.out _ hby
        cases gk with
        | zero =>
          obtain rfl : m = k := by omega
          have HOR : Hid (wr.ownsRow w1.heap.size 29 9 (.slice a1 m c1) m (flatL (r.take m))) := row_below HO.out hby
          generalize flatL (r.take m) = xs at *
          have HXY : Hid (Below w1.heap.size w1 wr) := HX.out.trans (hby.mono (by omega))
          have HAK' : Hid ((p0 && apI r xn m) = apR r (m + 1)) := HAK.out.symm
          rw [HAK'.out]
          generalize hp1 : apR r (m + 1) = p1 at *
          have HP1 := Lib.hid hp1
          clear hp1
          have HM1 : Hid (m + 1 ≤ maxLen) := by show _ ≤ _; simp only [maxLen]; omega
          have HM2 : Hid ((m + 1) * 112 ≤ 140737488355328) := by have := H112.out; show _ ≤ _; omega
          clear hmg hby HO
          have HGW : Hid (∀ o w5 v', (wr.alloc o).grownBy w5 (Value.slice a1 m c1).ownBlock → w5.ownsRow w1.heap.size 29 9 v' (m + 1) (xs ++ [.string xn, .int .i64 x0, .int .i64 x1, .int .i64 x2, .slice xla xln xlc, .slice xta xtn xtc, .int .i64 xu0, .int .i64 xu1, .int .i64 xu2]) →
              Below w1.heap.size w1 w5 ∧ w1.heap.size ≤ w5.heap.size ∧ ∃ a5 c5, v' = .slice a5 (m + 1) c5 ∧ w5.ownsRow w1.heap.size 29 9 (.slice a5 (m + 1) c5) (m + 1) (flatL (r.take (m + 1)))) := by
            intro o w5 v' hgrow hown
            have h5 : Below w1.heap.size w1 w5 := (HXY.out.alloc (by omega) o).grown hgrow (by simp; omega) (fun k hk => ((HOR.out.alloc o).lt k hk).1)
            obtain ⟨a5, c5, rfl⟩ := row_slice hown
            exact ⟨h5, h5.size, a5, c5, rfl, by rw [HFL.out]; exact hown⟩
          have HNW : Hid (∀ j u, [.string xn, .int .i64 x0, .int .i64 x1, .int .i64 x2, .slice xla xln xlc, .slice xta xtn xtc, .int .i64 xu0, .int .i64 xu1, .int .i64 xu2][j]? = some u → (wr.alloc (.cells #[.string xn, .int .i64 x0, .int .i64 x1, .int .i64 x2, .slice xla xln xlc, .slice xta xtn xtc, .int .i64 xu0, .int .i64 xu1, .int .i64 xu2] 29)).cell? ((⟨wr.heap.size, 0, none⟩ : Addr).add j) = some u) := news_new wr 29 _
          go_wp2_with (at_builtin; go_loud (refine wpList_append_own _ rfl _ _ 36 rfl w1.heap.size 29 i0 _ 9 112 Try.underlying36 hi hz0 hz1 hz2 rfl (by omega) (.slice a1 m c1) m xs rfl (HOR.out.alloc _) ⟨wr.heap.size, 0, none⟩ 1 1 [.string xn, .int .i64 x0, .int .i64 x1, .int .i64 x2, .slice xla xln xlc, .slice xta xtn xtc, .int .i64 xu0, .int .i64 xu1, .int .i64 xu2] rfl rfl HNW.out HE1.out HM1.out HM2.out (by simp; omega) ?_; intro v' w5 hown hgrow hnil; obtain ⟨h5, h5z, a5, c5, rfl, h5o⟩ := HGW.out _ _ _ hgrow hown; have H5 := Lib.hid h5; have H5O := Lib.hid h5o; clear h5 h5o hown hgrow hnil))
          go_roundg g
          case measure => omega
          case rel => exact ⟨m + 1, (j : Int) - 1, a5, c5, by have := HG.out; omega, by show _ = _; have := HJ.out; omega, by go_num, rfl, by rw [HP1.out], H5O.out, h5z, H5.out⟩
        | succ g2 =>
          have hmk : m < k := by omega
          have HG2 := Lib.hid hmg
          have hmr : m < r.length := by rw [HLR.out]; omega
          obtain ⟨g9, rfl, hg9, hcc⟩ := row_cells HO.out (by rw [HLR.out]; omega) m hmk
          have k9 : ∀ o, wr.cell? ⟨g9, o, none⟩ = wo.cell? ⟨g9, o, none⟩ := fun o => hby.cell (by exact hg9)
          have f0 : wr.cell? ⟨g9, m * 9, none⟩ = some (.string r[m].n) := (k9 _).trans (hcc 0 (by omega))
          have f1 : wr.cell? ⟨g9, m * 9 + 1, none⟩ = some (.int .i64 r[m].h0) := (k9 _).trans (hcc 1 (by omega))
          have f2 : wr.cell? ⟨g9, m * 9 + 2, none⟩ = some (.int .i64 r[m].h1) := (k9 _).trans (hcc 2 (by omega))
          have f3 : wr.cell? ⟨g9, m * 9 + 3, none⟩ = some (.int .i64 r[m].h2) := (k9 _).trans (hcc 3 (by omega))
          have f4 : wr.cell? ⟨g9, m * 9 + 4, none⟩ = some (.slice r[m].la r[m].ls.length r[m].lc) := (k9 _).trans (hcc 4 (by omega))
          have f5 : wr.cell? ⟨g9, m * 9 + 5, none⟩ = some (.slice r[m].ta r[m].ts.length r[m].tc) := (k9 _).trans (hcc 5 (by omega))
          have f6 : wr.cell? ⟨g9, m * 9 + 6, none⟩ = some (.int .i64 r[m].u0) := (k9 _).trans (hcc 6 (by omega))
          have f7 : wr.cell? ⟨g9, m * 9 + 7, none⟩ = some (.int .i64 r[m].u1) := (k9 _).trans (hcc 7 (by omega))
          have f8 : wr.cell? ⟨g9, m * 9 + 8, none⟩ = some (.int .i64 r[m].u2) := (k9 _).trans (hcc 8 (by omega))
          have HN : Hid ((p0 && apI r xn (m + 1)) = ((p0 && apI r xn m) && !(r[m].n.toList == xn.toList))) := by
            show _ = _
            rw [HAI.out, HNK.out m hmr, Bool.and_assoc]
          clear hmg hby k9 hcc
          generalize r[m] = y at *
          clear hmr
          rcases y with ⟨en, e0, e1, e2, ela, elc, eta, etc, eu0, eu1, eu2, els, ets⟩
          generalize els.length = eln at *
          generalize ets.length = etn at *
          simp only at f0 f1 f2 f3 f4 f5 f6 f7 f8 HN
          have q0 : ∀ o, (wr.alloc o).cell? ⟨b, off + j * 9, none⟩ = some (.string xn) := fun o => by rw [World.cell?_alloc_lt _ _ _ (by show b < _; omega)]; exact d0
          generalize (p0 && apI r xn m) = p at *
          cases p
          · have HN2 : Hid ((p0 && apI r xn (m + 1)) = false) := HN.out
            clear HN
            go_wp2
            go_quiet (fail)
            go_wp2
            go_roundg g2
            case measure => omega
            case rel => exact ⟨m + 1, by have := HG2.out; omega, by go_num, by rw [HN2.out], by show _ ≤ (World.alloc _ _).heap.size; simp; omega, bdN (HY.out.alloc (by omega) _) _⟩
          · cases heq : (en.toList == xn.toList)
            · have HN2 : Hid ((p0 && apI r xn (m + 1)) = true) := by rw [heq] at HN; exact HN.out
              clear HN
              go_wp2
              go_quiet (fail)
              go_wp2
              go_roundg g2
              case measure => omega
              case rel => exact ⟨m + 1, by have := HG2.out; omega, by go_num, by rw [HN2.out], by show _ ≤ (World.alloc _ _).heap.size; simp; omega, bdN (HY.out.alloc (by omega) _) _⟩
            · have HN2 : Hid ((p0 && apI r xn (m + 1)) = false) := by rw [heq] at HN; exact HN.out
              clear HN
              go_wp2
              go_quiet (fail)
              go_wp2
              go_roundg g2
              case measure => omega
              case rel => exact ⟨m + 1, by have := HG2.out; omega, by go_num, by rw [HN2.out], by show _ ≤ (World.alloc _ _).heap.size; simp; omega, bdN (HY.out.alloc (by omega) _) _⟩
end Rg
end Go.Proofs.Ythnajkpnchaciaa
