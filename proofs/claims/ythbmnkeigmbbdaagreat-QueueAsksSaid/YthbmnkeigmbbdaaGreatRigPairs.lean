/-
  WHICH PAIRS ARE RIGHT: rig.nameOrEmpty, rig.rightPairs, the document's pairs.
-/
import Derived.Test.YthbmnkeigmbbdaaGreatRgA
import Derived.Deep.RegionHeld3
namespace Go.Proofs.YthbmnkeigmbbdaaGreat
open Go.RowKit
namespace Rg
def noeB (s : ByteArray) : Bool := s.toList.isEmpty || nameB s
def atB (l : List Pr) (i : Nat) : Bool :=
  match l[i]? with
  | none => true
  | some p => nameB p.k && noeB p.v && (match i with
      | 0 => true
      | j + 1 => match l[j]? with
        | none => true
        | some q => risesB q p)
def prT (l : List Pr) (k : Nat) : Bool := (List.range k).all (atB l)
def prB (l : List Pr) : Bool := decide (l.length ≤ 4) && prT l l.length
theorem prT_succ (l : List Pr) (k : Nat) : prT l (k + 1) = (prT l k && atB l k) := by
  unfold prT; rw [List.range_succ, List.all_append]; simp
theorem prT_le (l : List Pr) (k j : Nat) (h : k ≤ j) (hj : prT l j = true) : prT l k = true := by
  unfold prT at *
  rw [List.all_eq_true] at *
  intro i hi
  exact hj i (List.mem_range.2 (by have := List.mem_range.1 hi; omega))
theorem pr_bad (l : List Pr) (k : Nat) (h : k < l.length) (hk : atB l k = false) : prB l = false := by
  unfold prB
  rw [← Bool.not_eq_true]
  intro he
  simp only [Bool.and_eq_true] at he
  have := prT_le l (k + 1) _ (by omega) he.2
  rw [prT_succ, hk] at this
  simp at this
theorem pr_good (l : List Pr) (h : l.length ≤ 4) (hk : prT l l.length = true) : prB l = true := by unfold prB; simp [h, hk]
theorem pr_big (l : List Pr) (h : 4 < l.length) : prB l = false := by unfold prB; rw [decide_eq_false (by omega)]; rfl
theorem atB_zero (l : List Pr) (h : 0 < l.length) : atB l 0 = (nameB l[0].k && noeB l[0].v) := by
  unfold atB
  rw [List.getElem?_eq_getElem h]
  simp
theorem atB_succ (l : List Pr) (j : Nat) (h : j + 1 < l.length) : atB l (j + 1) = (nameB l[j + 1].k && noeB l[j + 1].v && risesB l[j] l[j + 1]) := by
  unfold atB
  rw [List.getElem?_eq_getElem h]
  simp only
  rw [List.getElem?_eq_getElem (by omega)]
set_option maxHeartbeats 400000 in
theorem noe_any (s : ByteArray) (w : World) (hs : s.size ≤ maxLen) : Calls Tryz.prog 122 #[.string s] w fun e w' => e = .returned (.bool (noeB s)) ∧ w = w' := by
  have H := Lib.hid (fun w => name_any s w hs)
  by_cases h0 : s.toList = []
  · have HN := Lib.hid (show noeB s = true by unfold noeB; simp [h0])
    go_enter Tryz.func122, Tryz.ntmps122
    go_wp2
    go_ret
    exact ⟨by rw [HN.out]; rfl, rfl⟩
  · have HN := Lib.hid (show noeB s = nameB s by unfold noeB; simp [h0])
    have h1 : s.toList.isEmpty = false := by simpa using h0
    generalize nameB s = r at *
    go_enter Tryz.func122, Tryz.ntmps122
    go_wp2_with fail
    refine (H.out _).mono ?_
    rintro e w' ⟨rfl, rfl⟩
    go_wp2
    go_ret
    exact ⟨by rw [HN.out]; rfl, rfl⟩

set_option maxRecDepth 100000 in
set_option maxHeartbeats 4000000 in
theorem right_any (v : Value) (l : List Pr) (w : World) (hv : Pairs w w.heap.size v l) :
    Calls Tryz.prog 119 #[v] w fun e w' => e = .returned (.bool (prB l)) ∧ Below w.heap.size w w' := by
  obtain ⟨a, c, rfl, hl, hs, hc⟩ := hv
  have HC := Lib.hid hc
  have HSZ := Lib.hid hs
  clear hc hs
  by_cases hbig : (4 : Int) < (l.length : Int)
  · have HN := Lib.hid (pr_big l (by omega))
    go_enter Tryz.func119, Tryz.ntmps119
    go_wp2
    go_ret
    exact ⟨by rw [HN.out]; rfl, Below.refl _ _⟩
  · have HL := Lib.hid (show l.length ≤ 4 by omega)
    go_enter Tryz.func119, Tryz.ntmps119
    go_wp2
    go_loopg [10] l.length (fun g i wx => ∃ k : Nat, k + g = l.length ∧ i = .int .i64 k ∧ Aside (prT l k = true) ∧ Below w.heap.size w wx)
    case atStart => exact ⟨0, by omega, rfl, rfl, Below.refl _ _⟩
    case round =>
      obtain ⟨k, hkg, rfl, HA, hbx⟩ := hrel
      have HX := Lib.hid hbx
      cases gk with
      | zero =>
        obtain rfl : k = l.length := by omega
        have HN := Lib.hid (pr_good l HL.out HA.out)
        clear hkg hbx
        go_wp2
        go_ret
        exact ⟨by rw [HN.out]; rfl, HX.out⟩
      | succ g =>
        have hlk : k < l.length := by omega
        have HG := Lib.hid hkg
        have HS := Lib.hid (prT_succ l k)
        have HBAD := Lib.hid (pr_bad l k hlk)
        obtain ⟨b, off, rfl, hblt, hcc⟩ := HC.out (by omega)
        obtain ⟨d1, d2⟩ := hcc k hlk
        have e1 := (hbx.cell (by exact hblt)).trans d1
        have e2 := (hbx.cell (by exact hblt)).trans d2
        have hszr := hbx.size
        obtain ⟨z1, z2⟩ := HSZ.out _ (List.getElem_mem hlk)
        have HCC := Lib.hid hcc
        have hlk2 : (k : Int) < (l.length : Int) := by omega
        clear hkg hbx d1 d2 hcc
        have HE0 : Hid (k = 0 → atB l k = (nameB l[k].k && noeB l[k].v)) := by
          intro h
          subst h
          exact atB_zero l hlk
        have HE1 : Hid (∀ j, k = j + 1 → ∃ q, l[j]? = some q ∧ atB l k = (nameB l[k].k && noeB l[k].v && risesB q l[k])) := by
          intro j h
          subst h
          exact ⟨l[j], List.getElem?_eq_getElem (by omega), atB_succ l j hlk⟩
        have HE2 : Hid ((nameB l[k].k && noeB l[k].v) = false → atB l k = false) := by
          intro h
          cases k with
          | zero => rw [HE0.out rfl, h]
          | succ j => obtain ⟨q, -, hq⟩ := HE1.out j rfl; rw [hq, h]; rfl
        generalize hp : l[k] = p at *
        have HPK := Lib.hid hp
        clear hp
        rcases p with ⟨pk, pv⟩
        simp only at e1 e2 z1 z2
        have H1 := Lib.hid (fun w => name_any pk w z1)
        have H2 := Lib.hid (fun w => noe_any pv w z2)
        have hne : b ≠ wr.heap.size := by omega
        simp only at HE0 HE1 HE2
        generalize nameB pk = r1 at *
        generalize noeB pv = r2 at *
        cases r1
        · have HN := Lib.hid (HBAD.out (HE2.out rfl))
          go_wp2_with fail
          refine (H1.out _).mono ?_
          rintro e w' ⟨rfl, rfl⟩
          go_wp2
          go_ret
          exact ⟨by rw [HN.out]; rfl, HX.out.alloc hszr _⟩
        · cases r2
          · have HN := Lib.hid (HBAD.out (HE2.out rfl))
            go_wp2_with fail
            refine (H1.out _).mono ?_
            rintro e w' ⟨rfl, rfl⟩
            go_wp2_with fail
            refine (H2.out _).mono ?_
            rintro e w' ⟨rfl, rfl⟩
            go_wp2
            go_ret
            exact ⟨by rw [HN.out]; rfl, HX.out.alloc hszr _⟩
          · go_wp2_with fail
            refine (H1.out _).mono ?_
            rintro e w' ⟨rfl, rfl⟩
            go_wp2_with fail
            refine (H2.out _).mono ?_
            rintro e w' ⟨rfl, rfl⟩
            by_cases hk0 : k = 0
            · subst hk0
              have HN := Lib.hid (HE0.out rfl)
              have t3 : decide ((0 : Int) < 0) = false := by simp
              go_wp2
              go_quiet (fail)
              go_wp2
              go_roundg g
              case measure => omega
              case rel => exact ⟨1, by have := HG.out; omega, rfl, by show _ = _; rw [HS.out, HA.out, HN.out]; rfl, bdN (HX.out.alloc hszr _) _⟩
            · obtain ⟨j, rfl⟩ : ∃ j, k = j + 1 := ⟨k - 1, by omega⟩
              obtain ⟨⟨qk, qv⟩, hqj, hq⟩ := HE1.out j rfl
              have hj : j < l.length := by omega
              have hqe : l[j] = ⟨qk, qv⟩ := by rw [List.getElem?_eq_getElem hj] at hqj; exact Option.some.inj hqj
              obtain ⟨c1, c2⟩ := HCC.out j hj
              rw [hqe] at c1 c2
              have f1 := (HX.out.cell (by exact hblt)).trans c1
              have f2 := (HX.out.cell (by exact hblt)).trans c2
              have HQ := Lib.hid hq
              have HCM := Lib.hid (fun w => compare_any ⟨qk, qv⟩ ⟨pk, pv⟩ w)
              have HCR := Lib.hid (cmp_rises ⟨qk, qv⟩ ⟨pk, pv⟩)
              have t2 : (0 : Int) < (j : Int) + 1 := by omega
              have t6 : IntKind.i64.wrap ((j : Int) + 1 - 1) = (j : Int) := by rw [IntKind.wrap_i64]; omega
              have t7 : (0 : Int) ≤ (j : Int) := by omega
              have t9 : IntKind.i64.wrap (j : Int) = (j : Int) := by rw [IntKind.wrap_i64]; omega
              have t10 : IntKind.i64.wrap (((j + 1 : Nat) : Int) - 1) = (j : Int) := by rw [IntKind.wrap_i64]; omega
              have t8 : (j : Int) < (l.length : Int) := by omega
              clear hqj hq hqe c1 c2 hk0
              generalize cmpP ⟨qk, qv⟩ ⟨pk, pv⟩ = cp at *
              generalize risesB ⟨qk, qv⟩ ⟨pk, pv⟩ = rb at *
              have hbw : b < wr.heap.size := by omega
              have KD : Hid ((((wr.alloc (.cells #[.string pk, .string pv] 89)).drew).cell? ⟨b, off + j * 2, none⟩ = some (.string qk) ∧ ((wr.alloc (.cells #[.string pk, .string pv] 89)).drew).cell? ⟨b, off + j * 2 + 1, none⟩ = some (.string qv) ∧ ((wr.alloc (.cells #[.string pk, .string pv] 89)).drew).cell? ⟨wr.heap.size, 0, none⟩ = some (.string pk) ∧ ((wr.alloc (.cells #[.string pk, .string pv] 89)).drew).cell? ⟨wr.heap.size, 1, none⟩ = some (.string pv) ∧ Hid (Below w.heap.size w ((wr.alloc (.cells #[.string pk, .string pv] 89)).drew) ∧ wr.heap.size + 1 ≤ ((wr.alloc (.cells #[.string pk, .string pv] 89)).drew).heap.size))) := by
                refine ⟨?_, ?_, ?_, ?_, bdN (HX.out.alloc hszr _) 1, by show _ ≤ (wr.alloc _).heap.size; simp⟩
                · exact (World.cell?_alloc_lt wr _ ⟨b, off + j * 2, none⟩ hbw).trans f1
                · exact (World.cell?_alloc_lt wr _ ⟨b, off + j * 2 + 1, none⟩ hbw).trans f2
                · simp [go_sem]
                · simp [go_sem]
              have KB : Hid (∀ z, (z.cell? ⟨b, off + j * 2, none⟩ = some (.string qk) ∧ z.cell? ⟨b, off + j * 2 + 1, none⟩ = some (.string qv) ∧ z.cell? ⟨wr.heap.size, 0, none⟩ = some (.string pk) ∧ z.cell? ⟨wr.heap.size, 1, none⟩ = some (.string pv) ∧ Hid (Below w.heap.size w z ∧ wr.heap.size + 1 ≤ z.heap.size)) → Below w.heap.size w z) := fun z h => h.2.2.2.2.out.1
              have K1 : Hid (∀ z, (z.cell? ⟨b, off + j * 2, none⟩ = some (.string qk) ∧ z.cell? ⟨b, off + j * 2 + 1, none⟩ = some (.string qv) ∧ z.cell? ⟨wr.heap.size, 0, none⟩ = some (.string pk) ∧ z.cell? ⟨wr.heap.size, 1, none⟩ = some (.string pv) ∧ Hid (Below w.heap.size w z ∧ wr.heap.size + 1 ≤ z.heap.size)) → Calls Tryz.prog 181 #[.agg #[.string qk, .string qv], .agg #[.string pk, .string pv]] z fun e z' => e = .returned (.int .i64 cp) ∧ (z'.cell? ⟨b, off + j * 2, none⟩ = some (.string qk) ∧ z'.cell? ⟨b, off + j * 2 + 1, none⟩ = some (.string qv) ∧ z'.cell? ⟨wr.heap.size, 0, none⟩ = some (.string pk) ∧ z'.cell? ⟨wr.heap.size, 1, none⟩ = some (.string pv) ∧ Hid (Below w.heap.size w z' ∧ wr.heap.size + 1 ≤ z'.heap.size))) := by
                intro z h
                refine (HCM.out z).mono fun e z' ⟨he, hb⟩ => ⟨he, ?_⟩
                obtain ⟨a1, a2, a3, a4, hS⟩ := h
                have hz := hS.out.2
                exact ⟨(hb.cell (by show b < _; omega)).trans a1, (hb.cell (by show b < _; omega)).trans a2, (hb.cell (by show wr.heap.size < _; omega)).trans a3, (hb.cell (by show wr.heap.size < _; omega)).trans a4, hS.out.1.trans (hb.mono (by have := hS.out.1.size; omega)), by have := hb.size; omega⟩
              cases rb
              · have HN := Lib.hid (HBAD.out HQ.out)
                have h0c : (0 : Int) ≤ cp := by have := HCR.out; simpa using this
                go_wp2
                go_region_held3 (fun z => (z.cell? ⟨b, off + j * 2, none⟩ = some (.string qk) ∧ z.cell? ⟨b, off + j * 2 + 1, none⟩ = some (.string qv) ∧ z.cell? ⟨wr.heap.size, 0, none⟩ = some (.string pk) ∧ z.cell? ⟨wr.heap.size, 1, none⟩ = some (.string pv) ∧ Hid (Below w.heap.size w z ∧ wr.heap.size + 1 ≤ z.heap.size))) (first | assumption | exact KD.out)
                  (first
                    | (go_at_call 181; go_loud ((with_reducible refine (K1.out _ ?_).mono ?_); assumption; rintro e w7 ⟨rfl, hS⟩)))
                all_goals
                  go_wp2
                  go_ret
                  exact ⟨by rw [HN.out]; rfl, KB.out _ hS⟩
              · have HN := Lib.hid HQ.out
                have h0c : ¬ ((0 : Int) ≤ cp) := by have := HCR.out; simpa using this
                have h0d : decide ((0 : Int) ≤ cp) = false := by simpa using h0c
                go_wp2
                go_region_held3 (fun z => (z.cell? ⟨b, off + j * 2, none⟩ = some (.string qk) ∧ z.cell? ⟨b, off + j * 2 + 1, none⟩ = some (.string qv) ∧ z.cell? ⟨wr.heap.size, 0, none⟩ = some (.string pk) ∧ z.cell? ⟨wr.heap.size, 1, none⟩ = some (.string pv) ∧ Hid (Below w.heap.size w z ∧ wr.heap.size + 1 ≤ z.heap.size))) (first | assumption | exact KD.out)
                  (first
                    | (go_at_call 181; go_loud ((with_reducible refine (K1.out _ ?_).mono ?_); assumption; rintro e w7 ⟨rfl, hS⟩)))
                all_goals
                  go_wp2
                  go_roundg g
                  case measure => omega
                  case rel => exact ⟨j + 2, by have := HG.out; omega, by go_num, by show _ = _; rw [HS.out, HA.out, HN.out]; rfl, KB.out _ hS⟩
end Rg
end Go.Proofs.YthbmnkeigmbbdaaGreat
