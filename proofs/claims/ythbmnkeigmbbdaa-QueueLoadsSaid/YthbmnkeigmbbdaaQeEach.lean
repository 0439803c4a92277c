/-
  gafferlaw11.QueueEach.
-/
import Derived.Test.YthbmnkeigmbbdaaQeLives
import Derived.Test.YthbmnkeigmbbdaaBgA
namespace Go.Proofs.Ythbmnkeigmbbdaa
open Go.RowKit Go.Lib
namespace Bo
open Rw
set_option linter.unusedVariables false
theorem tds_at {w : World} {B : Nat} {a : Option Addr} {n c : Nat} {l : List Hd.Td} (h : Tds w B (.slice a n c) l) (k : Nat) (hk : k < l.length) : ∃ g off x, a = some ⟨g, off, none⟩ ∧ g < B ∧ At w g (off + k * 9) (x : TdM) ∧ x.td = l[k] := by
  obtain ⟨m, rfl, hs, -, -⟩ := h
  rw [List.length_map] at hk
  obtain ⟨a', c', he, -, -, -, h4⟩ := hs
  obtain ⟨g, off, rfl, -, hlt, hc⟩ := h4 (by omega)
  simp only [Value.slice.injEq] at he
  obtain ⟨rfl, -, -⟩ := he
  exact ⟨g, off, m[k], rfl, hlt, hc k hk, by simp⟩
theorem bds_at {w : World} {B : Nat} {a : Option Addr} {n c : Nat} {l : List Rg.Pr} (h : Bds w B (.slice a n c) l) (k : Nat) (hk : k < l.length) : ∃ g off, a = some ⟨g, off, none⟩ ∧ g < B ∧ At w g (off + k * 2) l[k] := by
  obtain ⟨a', c', he, -, -, -, h4⟩ := h.1
  obtain ⟨g, off, rfl, -, hlt, hc⟩ := h4 (by omega)
  simp only [Value.slice.injEq] at he
  obtain ⟨rfl, -, -⟩ := he
  exact ⟨g, off, rfl, hlt, hc k hk⟩
/-- How many of the names are this one. -/
def cntK (ks : List ByteArray) (x : ByteArray) : Nat := (ks.filter (fun y => decide (y = x))).length
theorem cnt_snoc (ks : List ByteArray) (y x : ByteArray) : cntK (ks ++ [y]) x = cntK ks x + (if y = x then 1 else 0) := by
  unfold cntK
  rw [List.filter_append, List.length_append]
  by_cases h : y = x
  · rw [List.filter_cons_of_pos (by simpa using h), if_pos h]; rfl
  · rw [List.filter_cons_of_neg (by simpa using h), if_neg h]; rfl
theorem cnt_le (ks : List ByteArray) (x : ByteArray) : cntK ks x ≤ ks.length := List.length_filter_le _ _
theorem cnt_nodup (x : ByteArray) : ∀ (ks : List ByteArray), ks.Nodup → cntK ks x = if hasK ks x = true then 1 else 0
  | [], _ => rfl
  | k :: r, h => by
    obtain ⟨h1, h2⟩ := List.nodup_cons.1 h
    have ih := cnt_nodup x r h2
    have hh : hasK (k :: r) x = (decide (k = x) || hasK r x) := by simp [hasK]
    rw [hh]
    unfold cntK at ih ⊢
    by_cases he : k = x
    · subst he
      have h3 : hasK r k = false := has_not.2 h1
      rw [h3] at ih
      rw [List.filter_cons_of_pos (by simp), List.length_cons, ih]
      simp
    · rw [List.filter_cons_of_neg (by simpa using he), ih]
      simp [he]
/-- Each task waits, or is on a node, once. -/
theorem each_one {b : Bk} (h : RB b) {t : Hd.Td} (ht : t ∈ b.ts) : cntK ((wtV b).map (·.n)) t.n + cntK (b.bs.map (·.k)) t.n = 1 := by
  rw [cnt_nodup _ _ (wt_nodup h), cnt_nodup _ _ h.rb.nodup]
  cases hk : hasK (b.bs.map (·.k)) t.n
  · have : hasK ((wtV b).map (·.n)) t.n = true := has_iff.2 (List.mem_map_of_mem ((wt_mem h).2 ⟨ht, hk⟩))
    rw [this]
    simp
  · have : hasK ((wtV b).map (·.n)) t.n = false := by
      rw [has_not]
      intro hm
      obtain ⟨u, hu, he⟩ := List.mem_map.1 hm
      have := ((wt_mem h).1 hu).2
      rw [he, hk] at this
      cases this
    rw [this]
    simp
set_option maxRecDepth 100000 in
set_option maxHeartbeats 4000000 in
theorem each_no (b : Bk) (vb0 : Value) (w : World) (hb : BookArg w vb0 b) (hc : chkB b = false) : Calls Try.prog 3 #[vb0] w fun e w' => e = .returned (.bool true) ∧ Below w.heap.size w w' := by
  obtain ⟨vn, vt, vb, rfl, hB⟩ := hb
  obtain ⟨⟨a0, c0, rfl⟩, ⟨b0, d0, rfl⟩, ⟨e0, f0, rfl⟩⟩ := And.intro hB.hn.slice (And.intro hB.ht.slice hB.hb.slice)
  obtain ⟨W0, hW0⟩ : ∃ W0, W0 = w.alloc (.cells #[.slice a0 (b).ns.length c0, .slice b0 (b).ts.length d0, .slice e0 (b).bs.length f0, .int .u64 ((b).fe : Nat)] 27) := ⟨_, rfl⟩
  have hb0 : Below w.heap.size w W0 := by rw [hW0]; exact al w _
  have hx0 : Hd.Bxn W0 w.heap.size [.slice a0 (b).ns.length c0, .slice b0 (b).ts.length d0, .slice e0 (b).bs.length f0, .int .u64 ((b).fe : Nat)] := by rw [hW0]; exact Hd.Bxn.made w _ _
  have HL : Hid (Calls Try.prog 6 #[] W0 fun e w' => e = .returned (.bool true) ∧ Below W0.heap.size W0 w') := livesQ_any W0
  have HBK : Hid (∀ z, Below w.heap.size w z → Books z z.heap.size (.slice a0 (b).ns.length c0) (.slice b0 (b).ts.length d0) (.slice e0 (b).bs.length f0) (b)) := fun z hz => hB.on hz
  have HW := Lib.hid hW0
  have HX0 := Lib.hid hx0
  have HB0 := Lib.hid hb0
  clear hW0 hb0 hx0 hB
  have HWQ : Hid (∀ z, Below w.heap.size w z → Calls Try.prog 7 #[.agg #[.slice a0 (b).ns.length c0, .slice b0 (b).ts.length d0, .slice e0 (b).bs.length f0, .int .u64 ((b).fe : Nat)]] z fun e w' => ∃ a c, e = .returned (.tuple #[.slice a 0 c, .int .i64 10]) ∧ Below z.heap.size z w') := fun z hz => by
    refine (waitq_any b _ _ _ z (HBK.out z hz)).mono ?_
    rintro e w' ⟨v, m, he, ho, hm, -, hb⟩
    rw [hc, if_neg (by decide)] at hm
    have hm0 : m = [] := List.map_eq_nil_iff.1 hm
    subst hm0
    obtain ⟨a, c, rfl⟩ := ho.slice
    refine ⟨a, c, ?_, hb⟩
    rw [he, hc]
    rfl
  have HCK : Hid (∀ z, Below w.heap.size w z → Calls Try.prog 8 #[.agg #[.slice a0 (b).ns.length c0, .slice b0 (b).ts.length d0, .slice e0 (b).bs.length f0, .int .u64 ((b).fe : Nat)]] z fun e w' => e = .returned (.int .i64 10) ∧ Below z.heap.size z w') := fun z hz => by
    have h := check_any b _ _ _ z (HBK.out z hz)
    rw [hc] at h
    exact h
  clear hc HBK
  go_enter Try.func3, Try.ntmps3
  go_upto_region 1 with fail
  rw [← HW.out]
  go_wp2_with fail
  refine HL.out.mono ?_
  rintro e w1 ⟨rfl, hb⟩
  have HX1 := Lib.hid (HX0.out.below hb)
  have HB1 : Hid (Below w.heap.size w w1) := HB0.out.trans (hb.mono HB0.out.size)
  clear hb HX0 HB0 HL HW
  have y0 : w1.cell? ⟨w.heap.size, 0, none⟩ = some (.slice a0 (b).ns.length c0) := HX1.out.cell 0
  have y1 : w1.cell? ⟨w.heap.size, 1, none⟩ = some (.slice b0 (b).ts.length d0) := HX1.out.cell 1
  have y2 : w1.cell? ⟨w.heap.size, 2, none⟩ = some (.slice e0 (b).bs.length f0) := HX1.out.cell 2
  have y3 : w1.cell? ⟨w.heap.size, 3, none⟩ = some (.int .u64 ((b).fe : Nat)) := HX1.out.cell 3
  go_wp2_with fail
  refine (HWQ.out w1 HB1.out).mono ?_
  rintro e w2 ⟨a, c, rfl, hb⟩
  have HX12 := Lib.hid (HX1.out.below hb)
  have HB2 : Hid (Below w.heap.size w w2) := HB1.out.trans (hb.mono HB1.out.size)
  clear hb y0 y1 y2 y3
  have y0 : w2.cell? ⟨w.heap.size, 0, none⟩ = some (.slice a0 (b).ns.length c0) := HX12.out.cell 0
  have y1 : w2.cell? ⟨w.heap.size, 1, none⟩ = some (.slice b0 (b).ts.length d0) := HX12.out.cell 1
  have y2 : w2.cell? ⟨w.heap.size, 2, none⟩ = some (.slice e0 (b).bs.length f0) := HX12.out.cell 2
  have y3 : w2.cell? ⟨w.heap.size, 3, none⟩ = some (.int .u64 ((b).fe : Nat)) := HX12.out.cell 3
  go_wp2_with fail
  refine (HCK.out w2 HB2.out).mono ?_
  rintro e w3 ⟨rfl, hb⟩
  have HB3 : Hid (Below w.heap.size w w3) := HB2.out.trans (hb.mono HB2.out.size)
  clear hb y0 y1 y2 y3
  go_wp2
  go_ret
  exact ⟨rfl, HB3.out⟩
set_option maxRecDepth 100000 in
set_option maxHeartbeats 4000000 in
theorem each_ok (b : Bk) (vb0 : Value) (w : World) (hb : BookArg w vb0 b) (hc : chkB b = true) : Calls Try.prog 3 #[vb0] w fun e w' => e = .returned (.bool true) ∧ Below w.heap.size w w' := by
  obtain ⟨vn, vt, vb, rfl, hB⟩ := hb
  obtain ⟨⟨a0, c0, rfl⟩, ⟨b0, d0, rfl⟩, ⟨e0, f0, rfl⟩⟩ := And.intro hB.hn.slice (And.intro hB.ht.slice hB.hb.slice)
  obtain ⟨W0, hW0⟩ : ∃ W0, W0 = w.alloc (.cells #[.slice a0 (b).ns.length c0, .slice b0 (b).ts.length d0, .slice e0 (b).bs.length f0, .int .u64 ((b).fe : Nat)] 27) := ⟨_, rfl⟩
  have hb0 : Below w.heap.size w W0 := by rw [hW0]; exact al w _
  have hx0 : Hd.Bxn W0 w.heap.size [.slice a0 (b).ns.length c0, .slice b0 (b).ts.length d0, .slice e0 (b).bs.length f0, .int .u64 ((b).fe : Nat)] := by rw [hW0]; exact Hd.Bxn.made w _ _
  have HL : Hid (Calls Try.prog 6 #[] W0 fun e w' => e = .returned (.bool true) ∧ Below W0.heap.size W0 w') := livesQ_any W0
  have HBK : Hid (∀ z, Below w.heap.size w z → Books z z.heap.size (.slice a0 (b).ns.length c0) (.slice b0 (b).ts.length d0) (.slice e0 (b).bs.length f0) (b)) := fun z hz => hB.on hz
  have HW := Lib.hid hW0
  have HX0 := Lib.hid hx0
  have HB0 := Lib.hid hb0
  clear hW0 hb0 hx0 hB
  have HRB := Lib.hid (rb_of_chk hc)
  have HLE : Hid (b.ns.length ≤ 16 ∧ b.ts.length ≤ 32 ∧ b.bs.length ≤ 32) := ⟨HRB.out.ln, HRB.out.lt, HRB.out.lists.lb⟩
  have HWQ : Hid (∀ z, Below w.heap.size w z → Calls Try.prog 7 #[.agg #[.slice a0 (b).ns.length c0, .slice b0 (b).ts.length d0, .slice e0 (b).bs.length f0, .int .u64 ((b).fe : Nat)]] z fun e w' => ∃ (a : Option Addr) (c : Nat) (m : List TdM), e = .returned (.tuple #[.slice a m.length c, .int .i64 0]) ∧ Own w' z.heap.size 36 (.slice a m.length c) m ∧ m.map (·.td) = wtV b ∧ Below z.heap.size z w') := fun z hz => by
    refine (waitq_any b _ _ _ z (HBK.out z hz)).mono ?_
    rintro e w' ⟨v, m, he, ho, hm, -, hb⟩
    rw [hc, if_pos rfl] at hm
    obtain ⟨a, c, rfl⟩ := ho.slice
    refine ⟨a, c, m, ?_, ho, hm, hb⟩
    rw [he, hc]
    rfl
  clear hc
  go_enter Try.func3, Try.ntmps3
  go_upto_region 1 with fail
  rw [← HW.out]
  go_wp2_with fail
  refine HL.out.mono ?_
  rintro e w1 ⟨rfl, hb⟩
  have HX1 := Lib.hid (HX0.out.below hb)
  have HB1 : Hid (Below w.heap.size w w1) := HB0.out.trans (hb.mono HB0.out.size)
  clear hb HX0 HB0 HL HW
  have y0 : w1.cell? ⟨w.heap.size, 0, none⟩ = some (.slice a0 (b).ns.length c0) := HX1.out.cell 0
  have y1 : w1.cell? ⟨w.heap.size, 1, none⟩ = some (.slice b0 (b).ts.length d0) := HX1.out.cell 1
  have y2 : w1.cell? ⟨w.heap.size, 2, none⟩ = some (.slice e0 (b).bs.length f0) := HX1.out.cell 2
  have y3 : w1.cell? ⟨w.heap.size, 3, none⟩ = some (.int .u64 ((b).fe : Nat)) := HX1.out.cell 3
  go_wp2_with fail
  refine (HWQ.out w1 HB1.out).mono ?_
  rintro e w2 ⟨a, c, m, rfl, ho, hm, hb⟩
  have HX12 := Lib.hid (HX1.out.below hb)
  have HB2 : Hid (Below w.heap.size w w2) := HB1.out.trans (hb.mono HB1.out.size)
  have HO := Lib.hid ho
  have HM := Lib.hid hm
  have HX2 := HX12
  have HBK2 := Lib.hid (HBK.out w2 HB2.out)
  clear ho hm HX12
  clear hb y0 y1 y2 y3
  have HML : Hid (m.length + b.bs.length = b.ts.length) := by
    have h1 := congrArg List.length HM.out
    rw [List.length_map] at h1
    have h2 := wt_len HRB.out
    show _ = _
    omega
  have hml : m.length ≤ 32 := by have := HML.out; have := HLE.out.2.1; omega
  have HLM := Lib.hid hml
  clear hml
  clear HX1 HB1 HWQ HBK
  go_wp2
  go_loopg [5] (m.length - 1) (fun gg i wx => ∃ j : Nat, 1 ≤ j ∧ gg = m.length - j ∧ i = .int .i64 j ∧ Aside (Below w2.heap.size w2 wx))
  case atStart => exact ⟨1, Nat.le_refl _, rfl, rfl, Below.refl _ _⟩
  case round =>
    obtain ⟨j, hj1, hjg, rfl, HA⟩ := hrel
    cases gk with
    | succ gg =>
      have hlk : j < m.length := by omega
      have t2 : (j : Int) < (m.length : Int) := by omega
      obtain ⟨k, rfl⟩ : ∃ k, j = k + 1 := ⟨j - 1, by omega⟩
      have hpw : ahB m[k].td m[k + 1].td = true := by
        have h1 := (List.pairwise_iff_getElem.1 (wt_sorted HRB.out)) k (k + 1) (by rw [← HM.out, List.length_map]; omega) (by rw [← HM.out, List.length_map]; omega) (by omega)
        simp only [← HM.out, List.getElem_map] at h1
        exact h1
      obtain ⟨g, cap, hv, hbg, hgl, hat, -⟩ := HO.out.form (by omega)
      simp only [Value.slice.injEq, true_and] at hv
      obtain ⟨rfl, rfl⟩ := hv
      obtain ⟨p0, -, -, -, -, -, -, -, p8⟩ := at_td (hat k (by omega))
      obtain ⟨r0, -, -, -, -, -, -, -, r8⟩ := at_td (hat (k + 1) hlk)
      have q0 : wr.cell? ⟨g, k * 9, none⟩ = some (.string m[k].td.n) := (HA.out.cell (by exact hgl)).trans p0
      have q8 : wr.cell? ⟨g, k * 9 + 8, none⟩ = some (.int .i64 m[k].td.r) := (HA.out.cell (by exact hgl)).trans p8
      have s0 : wr.cell? ⟨g, (k + 1) * 9, none⟩ = some (.string m[k + 1].td.n) := (HA.out.cell (by exact hgl)).trans r0
      have s8 : wr.cell? ⟨g, (k + 1) * 9 + 8, none⟩ = some (.int .i64 m[k + 1].td.r) := (HA.out.cell (by exact hgl)).trans r8
      have HJG := Lib.hid hjg
      have HJ1 := Lib.hid hj1
      clear p0 p8 r0 r8 hat hbg hgl hjg
      generalize m[k].td = x at *
      generalize m[k + 1].td = y at *
      obtain ⟨j, hj⟩ : ∃ j, j = k + 1 := ⟨_, rfl⟩
      rw [← hj] at t2 s0 s8 hlk
      have t5 : IntKind.i64.wrap ((j : Int) - 1) = (k : Int) := by rw [IntKind.wrap_i64]; have := HLM.out; omega
      have t3 : IntKind.i64.wrap ((j : Int) + 1) = (j : Int) + 1 := by rw [IntKind.wrap_i64]; have := HLM.out; omega
      have t6 : (k : Int) < (m.length : Int) := by omega
      have t7 : (0 : Int) ≤ (k : Int) := by omega
      have t8 : (0 : Int) ≤ (j : Int) := by omega
      have hcast : ((k + 1 : Nat) : Int) = (j : Int) := by rw [hj]
      have HJK := Lib.hid hj
      rw [hcast]
      clear hj hcast hj1
      by_cases hr : y.r < x.r
      · have h1 : ¬ (x.r < y.r) := by omega
        have h2 : ¬ (x.r = y.r) := by omega
        have h3 : decide (x.r < y.r) = false := decide_eq_false h1
        have h4 : decide (x.r = y.r) = false := decide_eq_false h2
        clear hpw
        go_upto_region 9 with fail
        go_quiet (fail)
        go_wp2
        go_roundg gg
        case measure => omega
        case rel => exact ⟨j + 1, by omega, by have := HJG.out; have := HJK.out; omega, by simp, Rg.bdN HA.out _⟩
      · have hpw2 : x.r = y.r ∧ lsS x.n y.n = true := by
          unfold ahB at hpw
          simp only [Bool.or_eq_true, Bool.and_eq_true, decide_eq_true_eq] at hpw
          rcases hpw with h | h
          · exact absurd h hr
          · exact h
        have hln : Op.bytesLess x.n.toList y.n.toList = true := hpw2.2
        have hlg : Op.bytesLess y.n.toList x.n.toList = false := ls_asym hpw2.2
        have hne : (x.n.toList == y.n.toList) = false := by
          rw [beq_eq_false_iff_ne]
          intro e
          rw [e, Rg.lt_irr] at hln; cases hln
        have hre := hpw2.1
        rw [← hre] at s8
        have h1 : ¬ (x.r < x.r) := by omega
        have h3 : decide (x.r < x.r) = false := decide_eq_false h1
        clear hpw hpw2 hr hre
        go_upto_region 9 with fail
        go_quiet (fail)
        go_wp2
        go_roundg gg
        case measure => omega
        case rel => exact ⟨j + 1, by omega, by have := HJG.out; have := HJK.out; omega, by simp, Rg.bdN HA.out _⟩
    | zero =>
      have t2 : ¬ (j : Int) < (m.length : Int) := by omega
      have t2b : decide ((j : Int) < (m.length : Int)) = false := decide_eq_false t2
      have HXR := Lib.hid (HX2.out.below HA.out)
      have HBR : Hid (Below w.heap.size w wr) := HB2.out.trans (HA.out.mono HB2.out.size)
      have HOR := Lib.hid (HO.out.keep HA.out)
      have HBKR := Lib.hid (HBK2.out.on HA.out)
      clear hj1 hjg HA
      clear HX2 HB2 HO HBK2
      obtain ⟨z1, rfl⟩ : ∃ q, q = wr := ⟨wr, rfl⟩
      have y1 : z1.cell? ⟨w.heap.size, 1, none⟩ = some (.slice b0 (b).ts.length d0) := HXR.out.cell 1
      go_wp2
      clear y1 t2 t2b
      go_loopg [80] b.ts.length (fun gg i wx => ∃ k : Nat, k + gg = b.ts.length ∧ i = .int .i64 k ∧ Aside (Below z1.heap.size z1 wx))
      case atStart => exact ⟨0, by omega, rfl, Below.refl _ _⟩
      case round =>
        obtain ⟨k, hkg, rfl, HA⟩ := hrel
        obtain ⟨z2, rfl⟩ : ∃ q, q = wr := ⟨wr, rfl⟩
        have HU2 : Hid (Below z1.heap.size z1 z2) := HA.out
        have HX2 := Lib.hid (HXR.out.below HA.out)
        clear HA
        cases gk with
        | zero =>
          obtain rfl : k = b.ts.length := by omega
          have t5 : IntKind.i64.wrap ((m.length : Int) + (b.bs.length : Int)) = (b.ts.length : Int) := by rw [IntKind.wrap_i64]; have := HML.out; have := HLE.out; omega
          have y1 : z2.cell? ⟨w.heap.size, 1, none⟩ = some (.slice b0 (b).ts.length d0) := HX2.out.cell 1
          have y2 : z2.cell? ⟨w.heap.size, 2, none⟩ = some (.slice e0 (b).bs.length f0) := HX2.out.cell 2
          have HE : Hid (Below w.heap.size w z2) := HBR.out.trans (HU2.out.mono HBR.out.size)
          clear hkg
          go_wp2
          go_ret
          exact ⟨rfl, HE.out⟩
        | succ go =>
          have hlk : k < b.ts.length := by omega
          have t2 : (k : Int) < (b.ts.length : Int) := by omega
          have t3 : IntKind.i64.wrap ((k : Int) + 1) = (k : Int) + 1 := by rw [IntKind.wrap_i64]; have := HLE.out; omega
          have t4 : (0 : Int) ≤ (k : Int) := by omega
          obtain ⟨gt, ot, x, rfl, hgl, hat, hxt⟩ := tds_at HBKR.out.ht k hlk
          obtain ⟨p0, p1, p2, p3, p4, p5, p6, p7, p8⟩ := at_td hat
          have e0' : z2.cell? ⟨gt, ot + k * 9, none⟩ = some (.string x.td.n) := (HU2.out.cell (by exact hgl)).trans p0
          have e1' : z2.cell? ⟨gt, ot + k * 9 + 1, none⟩ = some (.int .i64 x.td.z0) := (HU2.out.cell (by exact hgl)).trans p1
          have e2' : z2.cell? ⟨gt, ot + k * 9 + 2, none⟩ = some (.int .i64 x.td.z1) := (HU2.out.cell (by exact hgl)).trans p2
          have e3' : z2.cell? ⟨gt, ot + k * 9 + 3, none⟩ = some (.int .i64 x.td.z2) := (HU2.out.cell (by exact hgl)).trans p3
          have e4' : z2.cell? ⟨gt, ot + k * 9 + 4, none⟩ = some (.slice x.a4 x.td.ws.length x.c4) := (HU2.out.cell (by exact hgl)).trans p4
          have e5' : z2.cell? ⟨gt, ot + k * 9 + 5, none⟩ = some (.slice x.a5 x.td.bs.length x.c5) := (HU2.out.cell (by exact hgl)).trans p5
          have e6' : z2.cell? ⟨gt, ot + k * 9 + 6, none⟩ = some (.string x.td.g) := (HU2.out.cell (by exact hgl)).trans p6
          have e7' : z2.cell? ⟨gt, ot + k * 9 + 7, none⟩ = some (.string x.td.a) := (HU2.out.cell (by exact hgl)).trans p7
          have e8' : z2.cell? ⟨gt, ot + k * 9 + 8, none⟩ = some (.int .i64 x.td.r) := (HU2.out.cell (by exact hgl)).trans p8
          have HONE := Lib.hid (each_one HRB.out (List.getElem_mem hlk))
          rw [← hxt] at HONE
          have HKG := Lib.hid hkg
          clear p0 p1 p2 p3 p4 p5 p6 p7 p8 hat hxt hkg
          generalize x.td.ws.length = n1 at *
          generalize x.td.bs.length = n2 at *
          obtain ⟨wy, hwy⟩ : ∃ wy, wy = z2.alloc (.cells #[.string x.td.n, .int .i64 x.td.z0, .int .i64 x.td.z1, .int .i64 x.td.z2, .slice x.a4 n1 x.c4, .slice x.a5 n2 x.c5, .string x.td.g, .string x.td.a, .int .i64 x.td.r] 36) := ⟨_, rfl⟩
          have HTX : Hid (Hd.Bxn wy z2.heap.size [.string x.td.n, .int .i64 x.td.z0, .int .i64 x.td.z1, .int .i64 x.td.z2, .slice x.a4 n1 x.c4, .slice x.a5 n2 x.c5, .string x.td.g, .string x.td.a, .int .i64 x.td.r]) := by rw [hwy]; exact Hd.Bxn.made z2 _ _
          have HYB : Hid (Below z2.heap.size z2 wy) := by rw [hwy]; exact al _ _
          have HWY := Lib.hid hwy
          clear hwy
          go_upto_region 14 with fail
          rw [← HWY.out]
          clear e0' e1' e2' e3' e4' e5' e6' e7' e8'
          have HUY : Hid (Below z1.heap.size z1 wy) := HU2.out.trans (HYB.out.mono HU2.out.size)
          have HXY := Lib.hid (HX2.out.below HYB.out)
          clear HWY HX2
          go_wp2
          go_loopg [86, 8] m.length (fun gg i nv wx => ∃ q cN : Nat, q + gg = m.length ∧ i = .int .i64 q ∧ nv = .int .i64 cN ∧ Aside (cN = cntK ((m.take q).map (·.td.n)) x.td.n) ∧ Aside (Below wy.heap.size wy wx))
          case atStart => exact ⟨0, 0, by omega, rfl, rfl, rfl, Below.refl _ _⟩
          case round =>
            obtain ⟨q, cN, hqg, rfl, rfl, HCN, HA⟩ := hrel
            obtain ⟨z3, rfl⟩ : ∃ q, q = wr := ⟨wr, rfl⟩
            have HU3 : Hid (Below wy.heap.size wy z3) := HA.out
            have HTZ := Lib.hid (HTX.out.below HA.out)
            clear HA
            cases gk with
            | succ gi =>
              have hlq : q < m.length := by omega
              have u2' : (q : Int) < (m.length : Int) := by omega
              have u3' : IntKind.i64.wrap ((q : Int) + 1) = (q : Int) + 1 := by rw [IntKind.wrap_i64]; have := HLM.out; omega
              have u4' : (0 : Int) ≤ (q : Int) := by omega
              have hcl : cN ≤ 32 := by have h1 := cnt_le ((m.take q).map (·.td.n)) x.td.n; rw [← HCN.out, List.length_map, List.length_take] at h1; have := HLM.out; omega
              have u5' : IntKind.i64.wrap ((cN : Int) + 1) = (cN : Int) + 1 := by rw [IntKind.wrap_i64]; omega
              obtain ⟨g, cap, hv, hbg, hgl3, hat3, -⟩ := HOR.out.form (by omega)
              simp only [Value.slice.injEq, true_and] at hv
              obtain ⟨rfl, rfl⟩ := hv
              obtain ⟨p0, p1, p2, p3, p4, p5, p6, p7, p8⟩ := at_td (hat3 q hlq)
              have HUZ : Hid (Below z1.heap.size z1 z3) := HUY.out.trans (HU3.out.mono HUY.out.size)
              have f0' : z3.cell? ⟨g, q * 9, none⟩ = some (.string m[q].td.n) := (HUZ.out.cell (by exact hgl3)).trans p0
              have f1' : z3.cell? ⟨g, q * 9 + 1, none⟩ = some (.int .i64 m[q].td.z0) := (HUZ.out.cell (by exact hgl3)).trans p1
              have f2' : z3.cell? ⟨g, q * 9 + 2, none⟩ = some (.int .i64 m[q].td.z1) := (HUZ.out.cell (by exact hgl3)).trans p2
              have f3' : z3.cell? ⟨g, q * 9 + 3, none⟩ = some (.int .i64 m[q].td.z2) := (HUZ.out.cell (by exact hgl3)).trans p3
              have f4' : z3.cell? ⟨g, q * 9 + 4, none⟩ = some (.slice m[q].a4 m[q].td.ws.length m[q].c4) := (HUZ.out.cell (by exact hgl3)).trans p4
              have f5' : z3.cell? ⟨g, q * 9 + 5, none⟩ = some (.slice m[q].a5 m[q].td.bs.length m[q].c5) := (HUZ.out.cell (by exact hgl3)).trans p5
              have f6' : z3.cell? ⟨g, q * 9 + 6, none⟩ = some (.string m[q].td.g) := (HUZ.out.cell (by exact hgl3)).trans p6
              have f7' : z3.cell? ⟨g, q * 9 + 7, none⟩ = some (.string m[q].td.a) := (HUZ.out.cell (by exact hgl3)).trans p7
              have f8' : z3.cell? ⟨g, q * 9 + 8, none⟩ = some (.int .i64 m[q].td.r) := (HUZ.out.cell (by exact hgl3)).trans p8
              have HSN : Hid (cntK ((m.take (q + 1)).map (·.td.n)) x.td.n = cN + (if m[q].td.n = x.td.n then 1 else 0)) := by
                show _ = _
                rw [List.take_succ_eq_append_getElem hlq, List.map_append, List.map_singleton, cnt_snoc, HCN.out]
              have HQG := Lib.hid hqg
              clear p0 p1 p2 p3 p4 p5 p6 p7 p8 hat3 hbg hgl3 hcl hqg
              generalize m[q] = y at *
              generalize y.td.ws.length = n3 at *
              generalize y.td.bs.length = n4 at *
              have v0 : (z3.alloc (.cells #[.string y.td.n, .int .i64 y.td.z0, .int .i64 y.td.z1, .int .i64 y.td.z2, .slice y.a4 n3 y.c4, .slice y.a5 n4 y.c5, .string y.td.g, .string y.td.a, .int .i64 y.td.r] 36)).cell? ⟨z2.heap.size, 0, none⟩ = some (.string x.td.n) := cell_old _ (HTZ.out.cell 0)
              have HU4 : Hid (Below wy.heap.size wy (z3.alloc (.cells #[.string y.td.n, .int .i64 y.td.z0, .int .i64 y.td.z1, .int .i64 y.td.z2, .slice y.a4 n3 y.c4, .slice y.a5 n4 y.c5, .string y.td.g, .string y.td.a, .int .i64 y.td.r] 36))) := HU3.out.alloc HU3.out.size _
              by_cases he : y.td.n = x.td.n
              · have hs : (y.td.n.toList == x.td.n.toList) = true := by rw [he]; simp
                have hs2 : y.td.n.toList = x.td.n.toList := by rw [he]
                have HS2 : Hid (cN + 1 = cntK ((m.take (q + 1)).map (·.td.n)) x.td.n) := by show _ = _; rw [HSN.out, if_pos he]
                clear he HSN
                go_wp2
                go_roundg gi
                case measure => omega
                case rel => exact ⟨q + 1, cN + 1, by have := HQG.out; omega, by simp, by simp, HS2.out, HU4.out⟩
              · have hs : (y.td.n.toList == x.td.n.toList) = false := (Hd.ba_no he).1
                have hs2 : ¬ y.td.n.toList = x.td.n.toList := (Hd.ba_no he).2
                have HS2 : Hid (cN = cntK ((m.take (q + 1)).map (·.td.n)) x.td.n) := by show _ = _; rw [HSN.out, if_neg he]; rfl
                clear he HSN
                go_wp2
                go_roundg gi
                case measure => omega
                case rel => exact ⟨q + 1, cN, by have := HQG.out; omega, by simp, rfl, HS2.out, HU4.out⟩
            | zero =>
              obtain rfl : q = m.length := by omega
              have HC1 : Hid (cN = cntK ((wtV b).map (·.n)) x.td.n) := by
                have h1 := HCN.out
                rw [List.take_length] at h1
                rw [← HM.out, List.map_map]
                exact h1
              have HXZ := Lib.hid (HXY.out.below HU3.out)
              have HUZ : Hid (Below z1.heap.size z1 z3) := HUY.out.trans (HU3.out.mono HUY.out.size)
              have y2 : z3.cell? ⟨w.heap.size, 2, none⟩ = some (.slice e0 (b).bs.length f0) := HXZ.out.cell 2
              clear hqg HCN HXY HTX HUY HYB HU3
              go_wp2
              clear y2
              go_loopg [101, 8] b.bs.length (fun gg i nv wx => ∃ q cM : Nat, q + gg = b.bs.length ∧ i = .int .i64 q ∧ nv = .int .i64 cM ∧ Aside (cM = cN + cntK ((b.bs.take q).map (·.k)) x.td.n) ∧ Aside (Below z3.heap.size z3 wx))
              case atStart => exact ⟨0, cN, by omega, rfl, rfl, rfl, Below.refl _ _⟩
              case round =>
                obtain ⟨q, cM, hqg, rfl, rfl, HCM, HA⟩ := hrel
                obtain ⟨z4, rfl⟩ : ∃ q, q = wr := ⟨wr, rfl⟩
                have HU4 : Hid (Below z3.heap.size z3 z4) := HA.out
                have HTY := Lib.hid (HTZ.out.below HA.out)
                clear HA
                cases gk with
                | zero =>
                  obtain rfl : q = b.bs.length := by omega
                  have hc1 : cM = 1 := by
                    have h1 := HCM.out
                    have h2 := HONE.out
                    rw [List.take_length, HC1.out] at h1
                    omega
                  subst hc1
                  have HUF : Hid (Below z1.heap.size z1 z4) := HUZ.out.trans (HU4.out.mono HUZ.out.size)
                  clear hqg HCM
                  go_wp2
                  go_roundg go
                  case measure => omega
                  case rel => exact ⟨k + 1, by have := HKG.out; omega, by simp, HUF.out⟩
                | succ gi =>
                  have hlq : q < b.bs.length := by omega
                  have u2' : (q : Int) < (b.bs.length : Int) := by omega
                  have u3' : IntKind.i64.wrap ((q : Int) + 1) = (q : Int) + 1 := by rw [IntKind.wrap_i64]; have := HLE.out; omega
                  have u4' : (0 : Int) ≤ (q : Int) := by omega
                  have hcl : cM ≤ 64 := by
                    have h1 := cnt_le ((b.bs.take q).map (·.k)) x.td.n
                    have h2 := cnt_le ((wtV b).map (·.n)) x.td.n
                    rw [← HC1.out, List.length_map] at h2
                    rw [List.length_map, List.length_take] at h1
                    have h3 := HCM.out
                    have h4 := HLE.out
                    have h5 := HLM.out
                    rw [← HM.out, List.length_map] at h2
                    omega
                  have u5' : IntKind.i64.wrap ((cM : Int) + 1) = (cM : Int) + 1 := by rw [IntKind.wrap_i64]; omega
                  obtain ⟨g, off, rfl, hgl4, hat4⟩ := bds_at HBKR.out.hb q hlq
                  obtain ⟨p0, p1⟩ := at_bd hat4
                  have HUF : Hid (Below z1.heap.size z1 z4) := HUZ.out.trans (HU4.out.mono HUZ.out.size)
                  have f0' : z4.cell? ⟨g, off + q * 2, none⟩ = some (.string b.bs[q].k) := (HUF.out.cell (by exact hgl4)).trans p0
                  have f1' : z4.cell? ⟨g, off + q * 2 + 1, none⟩ = some (.string b.bs[q].v) := (HUF.out.cell (by exact hgl4)).trans p1
                  have HSN : Hid (cN + cntK ((b.bs.take (q + 1)).map (·.k)) x.td.n = cM + (if b.bs[q].k = x.td.n then 1 else 0)) := by
                    show _ = _
                    rw [List.take_succ_eq_append_getElem hlq, List.map_append, List.map_singleton, cnt_snoc, HCM.out]
                    omega
                  have HQG := Lib.hid hqg
                  clear p0 p1 hat4 hgl4 hcl hqg
                  generalize b.bs[q] = y at *
                  have v0 : (z4.alloc (.cells #[.string y.k, .string y.v] 38)).cell? ⟨z2.heap.size, 0, none⟩ = some (.string x.td.n) := cell_old _ (HTY.out.cell 0)
                  have HU5 : Hid (Below z3.heap.size z3 (z4.alloc (.cells #[.string y.k, .string y.v] 38))) := HU4.out.alloc HU4.out.size _
                  by_cases he : y.k = x.td.n
                  · have hs : (y.k.toList == x.td.n.toList) = true := by rw [he]; simp
                    have hs2 : y.k.toList = x.td.n.toList := by rw [he]
                    have HS2 : Hid (cM + 1 = cN + cntK ((b.bs.take (q + 1)).map (·.k)) x.td.n) := by show _ = _; rw [HSN.out, if_pos he]
                    clear he HSN
                    go_wp2
                    go_roundg gi
                    case measure => omega
                    case rel => exact ⟨q + 1, cM + 1, by have := HQG.out; omega, by simp, by simp, HS2.out, HU5.out⟩
                  · have hs : (y.k.toList == x.td.n.toList) = false := (Hd.ba_no he).1
                    have hs2 : ¬ y.k.toList = x.td.n.toList := (Hd.ba_no he).2
                    have HS2 : Hid (cM = cN + cntK ((b.bs.take (q + 1)).map (·.k)) x.td.n) := by show _ = _; rw [HSN.out, if_neg he]; rfl
                    clear he HSN
                    go_wp2
                    go_roundg gi
                    case measure => omega
                    case rel => exact ⟨q + 1, cM, by have := HQG.out; omega, by simp, rfl, HS2.out, HU5.out⟩
theorem each_law (b : Bk) (vb0 : Value) (w : World) (hb : BookArg w vb0 b) : Calls Try.prog 3 #[vb0] w fun e w' => e = .returned (.bool true) ∧ Below w.heap.size w w' := by
  cases hc : chkB b
  · exact each_no b vb0 w hb hc
  · exact each_ok b vb0 w hb hc
end Bo
end Go.Proofs.Ythbmnkeigmbbdaa
