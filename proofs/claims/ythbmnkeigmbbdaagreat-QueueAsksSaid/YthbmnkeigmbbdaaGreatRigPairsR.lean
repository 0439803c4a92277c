/-
  WHICH PAIRS ARE RIGHT, second part: the document's pairs.
-/
import Derived.Test.YthbmnkeigmbbdaaGreatRigPairs
namespace Go.Proofs.YthbmnkeigmbbdaaGreat
open Go.RowKit
namespace Rg
set_option maxRecDepth 100000 in
set_option maxHeartbeats 4000000 in
theorem pairs_ref (v : Value) (l : List Pr) (w : World) (hv : Pairs w w.heap.size v l) :
    Calls Tryz.prog 199 #[v] w fun e w' => e = .returned (.bool (prB l)) ∧ Below w.heap.size w w' := by
  obtain ⟨a, c, rfl, hl, hs, hc⟩ := hv
  have HC := Lib.hid hc
  have HSZ := Lib.hid hs
  clear hc hs
  by_cases hbig : (4 : Int) < (l.length : Int)
  · have HN := Lib.hid (pr_big l (by omega))
    go_enter Tryz.func199, Tryz.ntmps199
    go_wp2
    go_ret
    exact ⟨by rw [HN.out]; rfl, Below.refl _ _⟩
  · have HL := Lib.hid (show l.length ≤ 4 by omega)
    go_enter Tryz.func199, Tryz.ntmps199
    go_wp2
    go_loopg [10] l.length (fun g i wx => ∃ k : Nat, k + g = l.length ∧ i = .int .i64 k ∧ Aside (prT l k = true) ∧ Below w.heap.size w wx)
    case atStart => exact ⟨0, by omega, rfl, rfl, Below.refl _ _⟩
    case round =>
      obtain ⟨k, hkg, rfl, HA, hbx⟩ := hrel
      have HX := Lib.hid hbx
      cases gk with
      | zero =>
        obtain rfl : k = l.length := by omega
        have HN := Lib.hid (pr_good l HL.out HA.out)
        clear hkg hbx
        go_wp2
        go_ret
        exact ⟨by rw [HN.out]; rfl, HX.out⟩
      | succ g =>
        have hlk : k < l.length := by omega
        have HG := Lib.hid hkg
        have HS := Lib.hid (prT_succ l k)
        have HBAD := Lib.hid (pr_bad l k hlk)
        obtain ⟨b, off, rfl, hblt, hcc⟩ := HC.out (by omega)
        obtain ⟨d1, d2⟩ := hcc k hlk
        have e1 := (hbx.cell (by exact hblt)).trans d1
        have e2 := (hbx.cell (by exact hblt)).trans d2
        have hszr := hbx.size
        obtain ⟨z1, z2⟩ := HSZ.out _ (List.getElem_mem hlk)
        have HCC := Lib.hid hcc
        have hlk2 : (k : Int) < (l.length : Int) := by omega
        clear hkg hbx d1 d2 hcc
        have HE0 : Hid (k = 0 → atB l k = (nameB l[k].k && noeB l[k].v)) := by
          intro h
          subst h
          exact atB_zero l hlk
        have HE1 : Hid (∀ j, k = j + 1 → ∃ q, l[j]? = some q ∧ atB l k = (nameB l[k].k && noeB l[k].v && risesB q l[k])) := by
          intro j h
          subst h
          exact ⟨l[j], List.getElem?_eq_getElem (by omega), atB_succ l j hlk⟩
        have HE2 : Hid ((nameB l[k].k && noeB l[k].v) = false → atB l k = false) := by
          intro h
          cases k with
          | zero => rw [HE0.out rfl, h]
          | succ j => obtain ⟨q, -, hq⟩ := HE1.out j rfl; rw [hq, h]; rfl
        generalize hp : l[k] = p at *
        have HPK := Lib.hid hp
        clear hp
        rcases p with ⟨pk, pv⟩
        simp only at e1 e2 z1 z2
        have H1 := Lib.hid (fun w => name_ref pk w z1)
        have H2 := Lib.hid (fun w => name_ref pv w z2)
        have hne : b ≠ wr.heap.size := by omega
        simp only at HE0 HE1 HE2
        generalize nameB pk = r1 at *
        cases r1
        · have HN := Lib.hid (HBAD.out (HE2.out rfl))
          go_wp2_with fail
          refine (H1.out _).mono ?_
          rintro e w' ⟨rfl, rfl⟩
          go_wp2
          go_ret
          exact ⟨by rw [HN.out]; rfl, HX.out.alloc hszr _⟩
        · by_cases hpv : pv.toList = []
          · have HNO := Lib.hid (show noeB pv = true by unfold noeB; simp [hpv])
            go_wp2_with fail
            refine (H1.out _).mono ?_
            rintro e w' ⟨rfl, rfl⟩
            by_cases hk0 : k = 0
            · subst hk0
              have HN := Lib.hid (HE0.out rfl)
              have t3 : decide ((0 : Int) < 0) = false := by simp
              go_wp2
              try (have HPV := Lib.hid hpv; clear hpv)
              go_quiet (fail)
              go_wp2
              go_roundg g
              case measure => omega
              case rel => exact ⟨1, by have := HG.out; omega, rfl, by show _ = _; rw [HS.out, HA.out, HN.out, HNO.out]; rfl, bdN (HX.out.alloc hszr _) _⟩
            · obtain ⟨j, rfl⟩ : ∃ j, k = j + 1 := ⟨k - 1, by omega⟩
              obtain ⟨⟨qk, qv⟩, hqj, hq⟩ := HE1.out j rfl
              have hj : j < l.length := by omega
              have hqe : l[j] = ⟨qk, qv⟩ := by rw [List.getElem?_eq_getElem hj] at hqj; exact Option.some.inj hqj
              obtain ⟨c1, c2⟩ := HCC.out j hj
              rw [hqe] at c1 c2
              have f1 := (HX.out.cell (by exact hblt)).trans c1
              have f2 := (HX.out.cell (by exact hblt)).trans c2
              have HQ := Lib.hid hq
              have t2 : (0 : Int) < (j : Int) + 1 := by omega
              have t6 : IntKind.i64.wrap ((j : Int) + 1 - 1) = (j : Int) := by rw [IntKind.wrap_i64]; omega
              have t7 : (0 : Int) ≤ (j : Int) := by omega
              have t9 : IntKind.i64.wrap (j : Int) = (j : Int) := by rw [IntKind.wrap_i64]; omega
              have t8 : (j : Int) < (l.length : Int) := by omega
              have hbw : b < wr.heap.size := by omega
              have G1 : ∀ o, (wr.alloc o).cell? ⟨b, off + j * 2, none⟩ = some (.string qk) := fun o => (World.cell?_alloc_lt wr o ⟨b, off + j * 2, none⟩ hbw).trans f1
              have G2 : ∀ o, (wr.alloc o).cell? ⟨b, off + j * 2 + 1, none⟩ = some (.string qv) := fun o => (World.cell?_alloc_lt wr o ⟨b, off + j * 2 + 1, none⟩ hbw).trans f2
              have HRB : Hid (risesB ⟨qk, qv⟩ ⟨pk, pv⟩ = (Op.bytesLess qk.toList pk.toList || ((qk.toList == pk.toList) && Op.bytesLess qv.toList pv.toList))) := rfl
              clear hqj hq hqe c1 c2 hk0 f1 f2
              cases h1 : Op.bytesLess pk.toList qk.toList
              · by_cases he : qk.toList = pk.toList
                · have he2 : (qk.toList == pk.toList) = true := by simpa using he
                  have h5 : Op.bytesLess qk.toList pk.toList = false := by rw [he, lt_irr]
                  have HE := Lib.hid he
                  clear he
                  cases h3 : Op.bytesLess qv.toList pv.toList
                  · have HN := Lib.hid (HBAD.out (by rw [HQ.out, HRB.out, h3, h5]; simp))
                    go_wp2
                    try (have HPV := Lib.hid hpv; clear hpv)
                    go_quiet (fail)
                    go_wp2
                    go_ret
                    exact ⟨by rw [HN.out]; rfl, bdN (HX.out.alloc hszr _) _⟩
                  · have HN := Lib.hid (show atB l (j + 1) = true by rw [HQ.out, HRB.out, h3, he2, HNO.out]; simp)
                    go_wp2
                    try (have HPV := Lib.hid hpv; clear hpv)
                    go_quiet (fail)
                    go_wp2
                    go_roundg g
                    case measure => omega
                    case rel => exact ⟨j + 2, by have := HG.out; omega, by go_num, by show _ = _; rw [HS.out, HA.out, HN.out]; rfl, bdN (HX.out.alloc hszr _) _⟩
                · have he2 : (qk.toList == pk.toList) = false := by simpa using he
                  have hlt : Op.bytesLess qk.toList pk.toList = true := by
                    cases h4 : Op.bytesLess qk.toList pk.toList
                    · exact absurd (lt_con _ _ h4 h1) he
                    · rfl
                  have HN := Lib.hid (show atB l (j + 1) = true by rw [HQ.out, HRB.out, hlt, HNO.out]; simp)
                  clear he
                  go_wp2
                  try (have HPV := Lib.hid hpv; clear hpv)
                  go_quiet (fail)
                  go_wp2
                  go_roundg g
                  case measure => omega
                  case rel => exact ⟨j + 2, by have := HG.out; omega, by go_num, by show _ = _; rw [HS.out, HA.out, HN.out]; rfl, bdN (HX.out.alloc hszr _) _⟩
              · have he2 : (qk.toList == pk.toList) = false := by
                  rw [beq_eq_false_iff_ne]
                  intro e
                  rw [e, lt_irr] at h1; cases h1
                have h5 := lt_asym _ _ h1
                have HN := Lib.hid (HBAD.out (by rw [HQ.out, HRB.out, h5, he2]; simp))
                go_wp2
                try (have HPV := Lib.hid hpv; clear hpv)
                go_quiet (fail)
                go_wp2
                go_ret
                exact ⟨by rw [HN.out]; rfl, bdN (HX.out.alloc hszr _) _⟩
          · have hpv2 : pv.toList.isEmpty = false := by simpa using hpv
            have HNB := Lib.hid (show noeB pv = nameB pv by unfold noeB; simp [hpv])
            generalize nameB pv = r2 at H2 HNB
            cases r2
            · have HN := Lib.hid (HBAD.out (HE2.out (by rw [HNB.out]; rfl)))
              go_wp2_with fail
              refine (H1.out _).mono ?_
              rintro e w' ⟨rfl, rfl⟩
              go_wp2_with fail
              refine (H2.out _).mono ?_
              rintro e w' ⟨rfl, rfl⟩
              go_wp2
              go_ret
              exact ⟨by rw [HN.out]; rfl, HX.out.alloc hszr _⟩
            · have HNO := HNB
              go_wp2_with fail
              refine (H1.out _).mono ?_
              rintro e w' ⟨rfl, rfl⟩
              go_wp2_with fail
              refine (H2.out _).mono ?_
              rintro e w' ⟨rfl, rfl⟩
              by_cases hk0 : k = 0
              · subst hk0
                have HN := Lib.hid (HE0.out rfl)
                have t3 : decide ((0 : Int) < 0) = false := by simp
                go_wp2
                try (have HPV := Lib.hid hpv; clear hpv)
                go_quiet (fail)
                go_wp2
                go_roundg g
                case measure => omega
                case rel => exact ⟨1, by have := HG.out; omega, rfl, by show _ = _; rw [HS.out, HA.out, HN.out, HNO.out]; rfl, bdN (HX.out.alloc hszr _) _⟩
              · obtain ⟨j, rfl⟩ : ∃ j, k = j + 1 := ⟨k - 1, by omega⟩
                obtain ⟨⟨qk, qv⟩, hqj, hq⟩ := HE1.out j rfl
                have hj : j < l.length := by omega
                have hqe : l[j] = ⟨qk, qv⟩ := by rw [List.getElem?_eq_getElem hj] at hqj; exact Option.some.inj hqj
                obtain ⟨c1, c2⟩ := HCC.out j hj
                rw [hqe] at c1 c2
                have f1 := (HX.out.cell (by exact hblt)).trans c1
                have f2 := (HX.out.cell (by exact hblt)).trans c2
                have HQ := Lib.hid hq
                have t2 : (0 : Int) < (j : Int) + 1 := by omega
                have t6 : IntKind.i64.wrap ((j : Int) + 1 - 1) = (j : Int) := by rw [IntKind.wrap_i64]; omega
                have t7 : (0 : Int) ≤ (j : Int) := by omega
                have t9 : IntKind.i64.wrap (j : Int) = (j : Int) := by rw [IntKind.wrap_i64]; omega
                have t8 : (j : Int) < (l.length : Int) := by omega
                have hbw : b < wr.heap.size := by omega
                have G1 : ∀ o, (wr.alloc o).cell? ⟨b, off + j * 2, none⟩ = some (.string qk) := fun o => (World.cell?_alloc_lt wr o ⟨b, off + j * 2, none⟩ hbw).trans f1
                have G2 : ∀ o, (wr.alloc o).cell? ⟨b, off + j * 2 + 1, none⟩ = some (.string qv) := fun o => (World.cell?_alloc_lt wr o ⟨b, off + j * 2 + 1, none⟩ hbw).trans f2
                have HRB : Hid (risesB ⟨qk, qv⟩ ⟨pk, pv⟩ = (Op.bytesLess qk.toList pk.toList || ((qk.toList == pk.toList) && Op.bytesLess qv.toList pv.toList))) := rfl
                clear hqj hq hqe c1 c2 hk0 f1 f2
                cases h1 : Op.bytesLess pk.toList qk.toList
                · by_cases he : qk.toList = pk.toList
                  · have he2 : (qk.toList == pk.toList) = true := by simpa using he
                    have h5 : Op.bytesLess qk.toList pk.toList = false := by rw [he, lt_irr]
                    have HE := Lib.hid he
                    clear he
                    cases h3 : Op.bytesLess qv.toList pv.toList
                    · have HN := Lib.hid (HBAD.out (by rw [HQ.out, HRB.out, h3, h5]; simp))
                      go_wp2
                      try (have HPV := Lib.hid hpv; clear hpv)
                      go_quiet (fail)
                      go_wp2
                      go_ret
                      exact ⟨by rw [HN.out]; rfl, bdN (HX.out.alloc hszr _) _⟩
                    · have HN := Lib.hid (show atB l (j + 1) = true by rw [HQ.out, HRB.out, h3, he2, HNO.out]; simp)
                      go_wp2
                      try (have HPV := Lib.hid hpv; clear hpv)
                      go_quiet (fail)
                      go_wp2
                      go_roundg g
                      case measure => omega
                      case rel => exact ⟨j + 2, by have := HG.out; omega, by go_num, by show _ = _; rw [HS.out, HA.out, HN.out]; rfl, bdN (HX.out.alloc hszr _) _⟩
                  · have he2 : (qk.toList == pk.toList) = false := by simpa using he
                    have hlt : Op.bytesLess qk.toList pk.toList = true := by
                      cases h4 : Op.bytesLess qk.toList pk.toList
                      · exact absurd (lt_con _ _ h4 h1) he
                      · rfl
                    have HN := Lib.hid (show atB l (j + 1) = true by rw [HQ.out, HRB.out, hlt, HNO.out]; simp)
                    clear he
                    go_wp2
                    try (have HPV := Lib.hid hpv; clear hpv)
                    go_quiet (fail)
                    go_wp2
                    go_roundg g
                    case measure => omega
                    case rel => exact ⟨j + 2, by have := HG.out; omega, by go_num, by show _ = _; rw [HS.out, HA.out, HN.out]; rfl, bdN (HX.out.alloc hszr _) _⟩
                · have he2 : (qk.toList == pk.toList) = false := by
                    rw [beq_eq_false_iff_ne]
                    intro e
                    rw [e, lt_irr] at h1; cases h1
                  have h5 := lt_asym _ _ h1
                  have HN := Lib.hid (HBAD.out (by rw [HQ.out, HRB.out, h5, he2]; simp))
                  go_wp2
                  try (have HPV := Lib.hid hpv; clear hpv)
                  go_quiet (fail)
                  go_wp2
                  go_ret
                  exact ⟨by rw [HN.out]; rfl, bdN (HX.out.alloc hszr _) _⟩
end Rg
end Go.Proofs.YthbmnkeigmbbdaaGreat
