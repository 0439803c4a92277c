/-
  QuorumHas.
-/
import Derived.Test.YtndihliagcgdeaaQuLaw2
import Derived.Maps.AppendAt
namespace Go.Proofs.Ytndihliagcgdeaa
open Go.RowKit Go.Lib
namespace Qu
open Lo
set_option linter.unusedVariables false
theorem most_self (ks : List Int) : mostB ks ks = rmB ks := by
  unfold mostB
  cases h : rmB ks
  · rfl
  · have e : mostF (hasI ks) ks = true := by
      rw [most_iff, cnt_all (fun m hm => hasI_mem.2 hm)]
      have := rm_pos h
      omega
    rw [e]
    rfl
theorem OwnZ.slice1 {w : World} {base : Nat} {v : Value} {l : List Int} {x : Int} (h : OwnZ w base v (l ++ [x])) : ∃ a c, v = .slice a (l.length + 1) c := by
  obtain ⟨a, c, e⟩ := h.slice
  exact ⟨a, c, by rw [e, List.length_append]; rfl⟩
/-- Two rows do not lie in one block. -/
def Apart (y z : Value) : Prop := ∀ g, y.ownBlock = some g → z.ownBlock ≠ some g
theorem Apart.nil (y : Value) : Apart (.slice none 0 0) y := fun g h => by simp [Value.ownBlock] at h
theorem Apart.symm {y z : Value} (h : Apart y z) : Apart z y := fun g h1 h2 => h g h2 h1
theorem Apart.snoc {w : World} {base : Nat} {y y' z : Value} {l : List Int} (h : Apart y z) (hz : OwnZ w base z l) (hy : y'.ownBlock = y.ownBlock ∨ y'.ownBlock = some w.heap.size) : Apart y' z := by
  intro g hg he
  rcases hy with e | e
  · exact h g (by rw [← e]; exact hg) he
  · rw [e] at hg
    injection hg with hg
    have := (World.ownsRow.lt hz g he).2
    omega
theorem OwnZ.other {w w' : World} {base : Nat} {y z : Value} {l : List Int} (h : OwnZ w base z l) (hg : w.grownBy w' y.ownBlock) (ha : Apart y z) : OwnZ w' base z l :=
  World.ownsRow.kept (row := y.ownBlock) h hg (by
    cases hz : z.ownBlock with
    | none => exact .inl rfl
    | some g => exact .inr fun e => ha g e.symm hz)
theorem not_set {ks : List Int} (h : rmB ks = false) (id : Int) (en : Nat) (l : List Pe) : setB ks id en l = 0 := by unfold setB; rw [h]; rfl
theorem is_set {ks : List Int} (h : rmB ks = true) (id : Int) (en : Nat) (l : List Pe) : setB ks id en l = stl (upt id en l) ks ks 0 := by unfold setB; rw [if_pos h]
set_option maxHeartbeats 16000000 in
theorem quorumHasN (v u : Value) (ks : List Int) (id : Int) (en : Nat) (l : List Pe) (w : World) (h : IntsR w 0 w.heap.size v ks) (hu : PeR w 0 w.heap.size u l) :
    Calls Try.prog 6 #[v, .int .i64 id, .int .u64 (en : Nat), u] w fun e w' => e = .returned (.bool true) ∧ Below w.heap.size w w' := by
  have KM : Hid (∀ z, Below w.heap.size w z → Calls Try.prog 10 #[] z fun e z' => e = .returned (.bool true) ∧ Below z.heap.size z z') := fun z _ => most_true z
  have KS : Hid (∀ z, Below w.heap.size w z → Calls Try.prog 11 #[] z fun e z' => e = .returned (.bool true) ∧ Below z.heap.size z z') := fun z _ => settled_true z
  have HB0 : Hid (Below w.heap.size w w) := Below.refl _ _
  have K1 : Hid (∀ z, Below w.heap.size w z → Calls Try.prog 16 #[v, .int .i64 id, .int .u64 (en : Nat), u] z fun e z' => e = .returned (.int .u64 (setB ks id en l : Nat)) ∧ Below z.heap.size z z') := fun z hz => the_settled v u ks id en l z (h.on hz) (hu.on hz)
  have K2 : Hid (∀ z, Below w.heap.size w z → Calls Try.prog 12 #[v, v] z fun e z' => e = .returned (.bool (rmB ks)) ∧ Below z.heap.size z z') := fun z hz => by
    have := the_majority v v ks ks z (h.on hz) (h.on hz)
    rw [most_self] at this
    exact this
  have HMO : Hid (rmB ks = true → ∀ z y p, Below w.heap.size w z → OwnZ z w.heap.size y (ks.filter p) → Calls Try.prog 12 #[v, y] z fun e z' => e = .returned (.bool (mostF p ks)) ∧ Below z.heap.size z z') := by
    intro hk z y p hz hy
    have hy2 := hy.ints (by have := List.length_filter_le p ks; obtain ⟨-, -, -, h2, -⟩ := h; omega) (fun x hx => by obtain ⟨-, -, -, -, h3, -⟩ := h; exact h3 x (List.mem_filter.1 hx).1)
    have := the_majority v y ks _ z (h.on hz) hy2
    rw [most_filter _ hk] at this
    exact this
  obtain ⟨a, c, rfl, hl, -, hc⟩ := h
  obtain ⟨a2, c2, rfl, hl2, -, hc2⟩ := hu
  have HC := Lib.hid hc
  have HC2 := Lib.hid hc2
  clear hc hc2
  cases hq : rmB ks
  · rw [hq] at K2
    rw [not_set hq] at K1
    clear hq HC HC2 HMO
    go_enter Try.func6, Try.ntmps6
    go_wp2_with (go_at_call 10; (with_reducible refine (KM.out _ HB0.out).mono ?_); rintro e w1 ⟨rfl, hb⟩; have HB1 := Lib.hid (HB0.out.trans (hb.mono HB0.out.size)); clear hb)
    go_wp2_with (go_at_call 11; (with_reducible refine (KS.out _ HB1.out).mono ?_); rintro e w2 ⟨rfl, hb⟩; have HB2 := Lib.hid (HB1.out.trans (hb.mono HB1.out.size)); clear hb)
    go_wp2_with (go_at_call 16; (with_reducible refine (K1.out _ HB2.out).mono ?_); rintro e w3 ⟨rfl, hb⟩; have HB3 := Lib.hid (HB2.out.trans (hb.mono HB2.out.size)); clear hb)
    go_wp2_with (go_at_call 12; (with_reducible refine (K2.out _ HB3.out).mono ?_); rintro e w4 ⟨rfl, hb⟩; have HB4 := Lib.hid (HB3.out.trans (hb.mono HB3.out.size)); clear hb)
    go_wp2
    go_ret
    exact ⟨rfl, HB4.out⟩
  · rw [hq] at K2
    rw [is_set hq] at K1
    have HMS := Lib.hid (HMO.out hq)
    have HP := Lib.hid (rm_pos hq)
    clear hq HMO
    have Z1 : Hid (mostF (geF (upt id en l) (stl (upt id en l) ks ks 0)) ks = true) := stl_has _ _ HP.out
    have Z2 : Hid (mostF (fun m => decide (stl (upt id en l) ks ks 0 < upt id en l m)) ks = false) := stl_not _ _
    generalize stl (upt id en l) ks ks 0 = n at *
    go_enter Try.func6, Try.ntmps6
    go_wp2_with (go_at_call 10; (with_reducible refine (KM.out _ HB0.out).mono ?_); rintro e w1 ⟨rfl, hb⟩; have HB1 := Lib.hid (HB0.out.trans (hb.mono HB0.out.size)); clear hb)
    go_wp2_with (go_at_call 11; (with_reducible refine (KS.out _ HB1.out).mono ?_); rintro e w2 ⟨rfl, hb⟩; have HB2 := Lib.hid (HB1.out.trans (hb.mono HB1.out.size)); clear hb)
    go_wp2_with (go_at_call 16; (with_reducible refine (K1.out _ HB2.out).mono ?_); rintro e w3 ⟨rfl, hb⟩; have HB3 := Lib.hid (HB2.out.trans (hb.mono HB2.out.size)); clear hb)
    go_wp2_with (go_at_call 12; (with_reducible refine (K2.out _ HB3.out).mono ?_); rintro e w4 ⟨rfl, hb⟩; have HB4 := Lib.hid (HB3.out.trans (hb.mono HB3.out.size)); clear hb)
    go_wp2
    go_loopg [10, 11, 35] ks.length (fun gg s1 s2 i wx => ∃ (k : Nat) (y z : Value), k + gg = ks.length ∧ s1 = y ∧ s2 = z ∧ i = .int .i64 k ∧ Aside (Below w.heap.size w wx) ∧ Aside (OwnZ wx w.heap.size y ((ks.take k).filter (geF (upt id en l) n))) ∧ Aside (OwnZ wx w.heap.size z ((ks.take k).filter (fun m => decide (n < upt id en l m)))) ∧ Aside (Apart y z))
    case atStart => exact ⟨0, _, _, by omega, rfl, rfl, rfl, HB4.out, OwnZ.nil _ _, OwnZ.nil _ _, Apart.nil _⟩
    case round =>
      obtain ⟨k, y, z, hkg, rfl, rfl, rfl, HB, HY, HZ, HAP⟩ := hrel
      obtain ⟨ya, yc, rfl⟩ := HY.out.slice
      obtain ⟨za, zc, rfl⟩ := HZ.out.slice
      cases gk with
      | zero =>
        obtain rfl : k = ks.length := by omega
        have HY2 : Hid (OwnZ wr w.heap.size (.slice ya ((ks.take ks.length).filter (geF (upt id en l) n)).length yc) (ks.filter (geF (upt id en l) n))) := by
          have := HY.out
          rw [List.take_length] at this ⊢
          exact this
        have HZ2 : Hid (OwnZ wr w.heap.size (.slice za ((ks.take ks.length).filter (fun m => decide (n < upt id en l m))).length zc) (ks.filter (fun m => decide (n < upt id en l m)))) := by
          have := HZ.out
          rw [List.take_length] at this ⊢
          exact this
        have K5 := Lib.hid (HMS.out _ _ _ HB.out HY2.out)
        have K6 : Hid (∀ x, Below wr.heap.size wr x → Calls Try.prog 12 #[.slice a ks.length c, .slice za ((ks.take ks.length).filter (fun m => decide (n < upt id en l m))).length zc] x fun e z' => e = .returned (.bool (mostF (fun m => decide (n < upt id en l m)) ks)) ∧ Below x.heap.size x z') := fun x hx => HMS.out _ _ _ (HB.out.trans (hx.mono HB.out.size)) (HZ2.out.keep hx)
        rw [Z1.out] at K5
        rw [Z2.out] at K6
        clear hkg HY HZ HY2 HZ2 HMS Z1 Z2 K1 K2
        generalize ((ks.take ks.length).filter (geF (upt id en l) n)).length = yl at *
        generalize ((ks.take ks.length).filter (fun m => decide (n < upt id en l m))).length = zl at *
        go_wp2_with (go_at_call 12; (with_reducible refine K5.out.mono ?_); rintro e w5 ⟨rfl, hb⟩; have HB5 := Lib.hid (HB.out.trans (hb.mono HB.out.size)); have HB55 := Lib.hid hb; clear hb)
        go_wp2_with (go_at_call 12; (with_reducible refine (K6.out _ HB55.out).mono ?_); rintro e w6 ⟨rfl, hb⟩; have HB6 := Lib.hid (HB5.out.trans (hb.mono HB5.out.size)); clear hb)
        go_wp2
        go_ret
        exact ⟨rfl, HB6.out⟩
      | succ gg =>
        have hlt : k < ks.length := by omega
        have hlt2 : (k : Int) < (ks.length : Int) := by omega
        obtain ⟨bk, off, rfl, -, hb, hcell⟩ := HC.out (by omega)
        have hx := (HB.out.cell (by exact hb)).trans (hcell k hlt)
        have HF1 := Lib.hid (filter_at (geF (upt id en l) n) ks k hlt)
        have HF2 := Lib.hid (filter_at (fun m => decide (n < upt id en l m)) ks k hlt)
        have hfl1 : ((ks.take k).filter (geF (upt id en l) n)).length ≤ k := by
          have := List.length_filter_le (geF (upt id en l) n) (ks.take k)
          rw [List.length_take] at this
          omega
        have hfl2 : ((ks.take k).filter (fun m => decide (n < upt id en l m))).length ≤ k := by
          have := List.length_filter_le (fun m => decide (n < upt id en l m)) (ks.take k)
          rw [List.length_take] at this
          omega
        have HFL1 := Lib.hid hfl1
        have HFL2 := Lib.hid hfl2
        have HL2 := Lib.hid hlt2
        have HG1 : Hid (geF (upt id en l) n ks[k] = decide (n ≤ upt id en l ks[k])) := rfl
        have HUP : Hid (upt id en l ks[k] = if ks[k] = id then en else mat l ks[k]) := rfl
        clear hcell hfl1 hfl2
        generalize ks[k] = x at *
        have HG2 : Hid ((fun m => decide (n < upt id en l m)) x = decide (n < upt id en l x)) := rfl
        generalize upt id en l x = q at *
        generalize (ks.take k).filter (geF (upt id en l) n) = L1 at *
        generalize (ks.take k).filter (fun m => decide (n < upt id en l m)) = L2 at *
        generalize wr = W1 at *
        go_wp2
        clear hlt2
        go_loopg [14, 15] l.length (fun gg2 kv iv wx => ∃ (j : Nat) (zi : Int), j = gg2 ∧ j ≤ l.length ∧ kv = .int .u64 (mat (l.drop j) x : Nat) ∧ iv = .int .i64 zi ∧ wx = W1 ∧ Aside (zi = (j : Int) - 1))
        case atStart => exact ⟨l.length, _, rfl, Nat.le_refl _, by rw [mat_end]; rfl, rfl, rfl, rfl⟩
        case round =>
          obtain ⟨j, zi, rfl, hjl, rfl, rfl, rfl, HJ⟩ := hrel
          cases j with
          | succ j =>
            obtain rfl : zi = (j : Int) := by have := HJ.out; omega
            have hjt : j < l.length := by omega
            have hjt2 : (j : Int) < (l.length : Int) := by omega
            obtain ⟨b2, off2, rfl, -, hb2, hcell2⟩ := HC2.out (by omega)
            obtain ⟨x0, x1, x2⟩ := hcell2 j hjt
            have y0 := (HB.out.cell (p := ⟨b2, off2 + j * 3, none⟩) (by exact hb2)).trans x0
            have y1 := (HB.out.cell (p := ⟨b2, off2 + j * 3 + 1, none⟩) (by exact hb2)).trans x1
            have y2 := (HB.out.cell (p := ⟨b2, off2 + j * 3 + 2, none⟩) (by exact hb2)).trans x2
            have HMA := Lib.hid (mat_at l j hjt x)
            have tj : IntKind.i64.wrap ((j : Int) - 1) = (j : Int) - 1 := by rw [IntKind.wrap_i64]; omega
            clear hcell2 x0 x1 x2 HJ
            generalize mat (l.drop (j + 1)) x = mm at *
            generalize l[j] = pe at *
            rcases pe with ⟨pi, pn, pm⟩
            simp only at y0 y1 y2 HMA
            by_cases h1 : pi = x
            · subst h1
              have HME : Hid (mat (l.drop j) pi = pm) := HMA.out.trans (if_pos rfl)
              go_wp2
              go_roundg j
              case measure => omega
              case rel => exact ⟨j, _, rfl, by omega, by rw [HME.out], rfl, rfl, rfl⟩
            · have h1' : (pi == x) = false := by simpa using h1
              have HME : Hid (mat (l.drop j) x = mm) := HMA.out.trans (if_neg h1)
              go_wp2
              go_roundg j
              case measure => omega
              case rel => exact ⟨j, _, rfl, by omega, by rw [HME.out], rfl, rfl, rfl⟩
          | zero =>
            obtain rfl : zi = -1 := by have := HJ.out; omega
            clear HJ hjl
            have hlt2 := HL2.out
            have tk : IntKind.i64.wrap ((k : Int) + 1) = (k : Int) + 1 := by rw [IntKind.wrap_i64]; omega
            have HK := Lib.hid hkg
            rw [List.drop_zero]
            obtain ⟨i0, hi, hq0, hq1, hq2⟩ := info_parts info_int
            have HMX := Lib.hid (show L1.length + 1 ≤ maxLen by have := HFL1.out; unfold maxLen; omega)
            have HBY := Lib.hid (show (L1.length + 1) * 8 ≤ 140737488355328 by have := HFL1.out; omega)
            have HMX2 := Lib.hid (show L2.length + 1 ≤ maxLen by have := HFL2.out; unfold maxLen; omega)
            have HBY2 := Lib.hid (show (L2.length + 1) * 8 ≤ 140737488355328 by have := HFL2.out; omega)
            have HON : Hid (∀ u ∈ [Value.int .i64 x], u.oneCell' = true) := by intro u hu; simp at hu; subst hu; rfl
            have HNW : Hid (∀ (w2 : World) j u, [Value.int .i64 x][j]? = some u → (w2.alloc (.cells #[.int .i64 x] 3)).cell? ((⟨w2.heap.size, 0, none⟩ : Addr).add j) = some u) := by
              intro w2 j u hj
              match j, hj with
              | 0, hj => simp at hj; subst hj; simp [go_sem, Addr.add]
              | j + 1, hj => simp at hj
            have HAL : Hid (∀ (w2 : World), w.heap.size ≤ w2.heap.size → w.heap.size ≤ (w2.alloc (.cells #[.int .i64 x] 3)).heap.size) := by intro w2 h; simp; omega
            generalize mat l x = mm at *
            have HAY : Hid (OwnZ (wr.alloc (.cells #[.int .i64 x] 3)) w.heap.size (.slice ya L1.length yc) L1) := HY.out.keep ((Below.refl _ _).alloc (Nat.le_refl _) _)
            have HAZ : Hid (OwnZ (wr.alloc (.cells #[.int .i64 x] 3)) w.heap.size (.slice za L2.length zc) L2) := HZ.out.keep ((Below.refl _ _).alloc (Nat.le_refl _) _)
            have HSZ := Lib.hid (HAL.out wr HB.out.size)
            have HNX := Lib.hid (HNW.out wr)
            clear hkg
            by_cases hid : x = id
            · subst hid
              have hq9 := HUP.out.trans (if_pos rfl)
              subst hq9
              clear HUP
              by_cases n1 : n < q
              · have t1 : decide (n ≤ q) = true := by simp; omega
                have t2 : decide (n < q) = true := by simpa using n1
                have E1 : Hid ((ks.take (k + 1)).filter (geF (upt x q l) n) = L1 ++ [x]) := HF1.out.trans (by rw [HG1.out, t1]; rfl)
                have E2 : Hid ((ks.take (k + 1)).filter (fun m => decide (n < upt x q l m)) = L2 ++ [x]) := HF2.out.trans (by rw [t2]; rfl)
                clear n1 HF1 HF2 HG1 HG2
                go_wp2_with (first | (at_builtin; (refine wpList_append_own_at _ rfl _ _ 22 rfl w.heap.size 3 i0 _ 1 8 Try.underlying22 hi hq0 hq1 hq2 rfl (by omega) _ _ _ rfl HAY.out ⟨wr.heap.size, 0, none⟩ 1 1 [.int .i64 x] rfl rfl HNX.out HON.out HMX.out HBY.out HSZ.out ?_); intro v1 w3 hown1 hg1 hnil1 hob1; have HO1 := Lib.hid (OwnZ.snoc hown1); have HW3 := Lib.hid ((HB.out.alloc HB.out.size (.cells #[.int .i64 x] 3)).grown hg1 HSZ.out (fun k hk => (World.ownsRow.lt HAY.out k hk).1)); have HZ3 := Lib.hid (HAZ.out.other hg1 HAP.out); have HAP3 := Lib.hid (HAP.out.snoc HAZ.out hob1); have HAZ3 := Lib.hid (HZ3.out.keep ((Below.refl _ _).alloc (Nat.le_refl _) (.cells #[.int .i64 x] 3))); have HN3 := Lib.hid (HNW.out w3); have HS3 := Lib.hid (HAL.out w3 HW3.out.size); clear hown1 hg1 hnil1 hob1; obtain ⟨a3, c3, rfl⟩ := HO1.out.slice1; have HO13 := Lib.hid (HO1.out.keep ((Below.refl _ _).alloc (Nat.le_refl _) (.cells #[.int .i64 x] 3)))) | (at_builtin; (refine wpList_append_own_at _ rfl _ _ 22 rfl w.heap.size 3 i0 _ 1 8 Try.underlying22 hi hq0 hq1 hq2 rfl (by omega) _ _ _ rfl HAZ3.out ⟨w3.heap.size, 0, none⟩ 1 1 [.int .i64 x] rfl rfl HN3.out HON.out HMX2.out HBY2.out HS3.out ?_); intro v2 w5 hown2 hg2 hnil2 hob2; have HO2 := Lib.hid (OwnZ.snoc hown2); have HW5 := Lib.hid ((HW3.out.alloc HW3.out.size (.cells #[.int .i64 x] 3)).grown hg2 HS3.out (fun k hk => (World.ownsRow.lt HAZ3.out k hk).1)); have HO5 := Lib.hid (HO13.out.other hg2 (Apart.symm HAP3.out)); have HAP5 := Lib.hid (Apart.symm (Apart.snoc (Apart.symm HAP3.out) HO13.out hob2)); clear hown2 hg2 hnil2 hob2; obtain ⟨a5, c5, rfl⟩ := HO2.out.slice1))
                go_wp2
                go_roundg gg
                case measure => have := HK.out; omega
                case rel => exact ⟨k + 1, _, _, by have := HK.out; omega, rfl, rfl, by simp, HW5.out, by rw [E1.out]; exact HO5.out, by rw [E2.out]; exact HO2.out, HAP5.out⟩
              · have t2 : decide (n < q) = false := by simpa using n1
                by_cases n2 : n ≤ q
                · have t1 : decide (n ≤ q) = true := by simpa using n2
                  have E1 : Hid ((ks.take (k + 1)).filter (geF (upt x q l) n) = L1 ++ [x]) := HF1.out.trans (by rw [HG1.out, t1]; rfl)
                  have E2 : Hid ((ks.take (k + 1)).filter (fun m => decide (n < upt x q l m)) = L2) := HF2.out.trans (by rw [t2]; simp)
                  clear n1 n2 HF1 HF2 HG1 HG2
                  go_wp2_with (at_builtin; (refine wpList_append_own_at _ rfl _ _ 22 rfl w.heap.size 3 i0 _ 1 8 Try.underlying22 hi hq0 hq1 hq2 rfl (by omega) _ _ _ rfl HAY.out ⟨wr.heap.size, 0, none⟩ 1 1 [.int .i64 x] rfl rfl HNX.out HON.out HMX.out HBY.out HSZ.out ?_); intro v1 w3 hown1 hg1 hnil1 hob1; have HO1 := Lib.hid (OwnZ.snoc hown1); have HW3 := Lib.hid ((HB.out.alloc HB.out.size (.cells #[.int .i64 x] 3)).grown hg1 HSZ.out (fun k hk => (World.ownsRow.lt HAY.out k hk).1)); have HZ3 := Lib.hid (HAZ.out.other hg1 HAP.out); have HAP3 := Lib.hid (HAP.out.snoc HAZ.out hob1); have HAZ3 := Lib.hid (HZ3.out.keep ((Below.refl _ _).alloc (Nat.le_refl _) (.cells #[.int .i64 x] 3))); have HN3 := Lib.hid (HNW.out w3); have HS3 := Lib.hid (HAL.out w3 HW3.out.size); clear hown1 hg1 hnil1 hob1; obtain ⟨a3, c3, rfl⟩ := HO1.out.slice1; have HO13 := Lib.hid (HO1.out.keep ((Below.refl _ _).alloc (Nat.le_refl _) (.cells #[.int .i64 x] 3))))
                  go_wp2
                  go_roundg gg
                  case measure => have := HK.out; omega
                  case rel => exact ⟨k + 1, _, _, by have := HK.out; omega, rfl, rfl, by simp, HW3.out, by rw [E1.out]; exact HO1.out, by rw [E2.out]; exact HZ3.out, HAP3.out⟩
                · have t1 : decide (n ≤ q) = false := by simpa using n2
                  have E1 : Hid ((ks.take (k + 1)).filter (geF (upt x q l) n) = L1) := HF1.out.trans (by rw [HG1.out, t1]; simp)
                  have E2 : Hid ((ks.take (k + 1)).filter (fun m => decide (n < upt x q l m)) = L2) := HF2.out.trans (by rw [t2]; simp)
                  clear n1 n2 HF1 HF2 HG1 HG2
                  go_wp2
                  go_roundg gg
                  case measure => have := HK.out; omega
                  case rel => exact ⟨k + 1, _, _, by have := HK.out; omega, rfl, rfl, by simp, HB.out, by rw [E1.out]; exact HY.out, by rw [E2.out]; exact HZ.out, HAP.out⟩
            · have hidF : (x == id) = false := by simpa using hid
              have hq9 := HUP.out.trans (if_neg hid)
              subst hq9
              clear HUP hid
              by_cases n1 : n < q
              · have t1 : decide (n ≤ q) = true := by simp; omega
                have t2 : decide (n < q) = true := by simpa using n1
                have E1 : Hid ((ks.take (k + 1)).filter (geF (upt id en l) n) = L1 ++ [x]) := HF1.out.trans (by rw [HG1.out, t1]; rfl)
                have E2 : Hid ((ks.take (k + 1)).filter (fun m => decide (n < upt id en l m)) = L2 ++ [x]) := HF2.out.trans (by rw [t2]; rfl)
                clear n1 HF1 HF2 HG1 HG2
                go_wp2_with (first | (at_builtin; (refine wpList_append_own_at _ rfl _ _ 22 rfl w.heap.size 3 i0 _ 1 8 Try.underlying22 hi hq0 hq1 hq2 rfl (by omega) _ _ _ rfl HAY.out ⟨wr.heap.size, 0, none⟩ 1 1 [.int .i64 x] rfl rfl HNX.out HON.out HMX.out HBY.out HSZ.out ?_); intro v1 w3 hown1 hg1 hnil1 hob1; have HO1 := Lib.hid (OwnZ.snoc hown1); have HW3 := Lib.hid ((HB.out.alloc HB.out.size (.cells #[.int .i64 x] 3)).grown hg1 HSZ.out (fun k hk => (World.ownsRow.lt HAY.out k hk).1)); have HZ3 := Lib.hid (HAZ.out.other hg1 HAP.out); have HAP3 := Lib.hid (HAP.out.snoc HAZ.out hob1); have HAZ3 := Lib.hid (HZ3.out.keep ((Below.refl _ _).alloc (Nat.le_refl _) (.cells #[.int .i64 x] 3))); have HN3 := Lib.hid (HNW.out w3); have HS3 := Lib.hid (HAL.out w3 HW3.out.size); clear hown1 hg1 hnil1 hob1; obtain ⟨a3, c3, rfl⟩ := HO1.out.slice1; have HO13 := Lib.hid (HO1.out.keep ((Below.refl _ _).alloc (Nat.le_refl _) (.cells #[.int .i64 x] 3)))) | (at_builtin; (refine wpList_append_own_at _ rfl _ _ 22 rfl w.heap.size 3 i0 _ 1 8 Try.underlying22 hi hq0 hq1 hq2 rfl (by omega) _ _ _ rfl HAZ3.out ⟨w3.heap.size, 0, none⟩ 1 1 [.int .i64 x] rfl rfl HN3.out HON.out HMX2.out HBY2.out HS3.out ?_); intro v2 w5 hown2 hg2 hnil2 hob2; have HO2 := Lib.hid (OwnZ.snoc hown2); have HW5 := Lib.hid ((HW3.out.alloc HW3.out.size (.cells #[.int .i64 x] 3)).grown hg2 HS3.out (fun k hk => (World.ownsRow.lt HAZ3.out k hk).1)); have HO5 := Lib.hid (HO13.out.other hg2 (Apart.symm HAP3.out)); have HAP5 := Lib.hid (Apart.symm (Apart.snoc (Apart.symm HAP3.out) HO13.out hob2)); clear hown2 hg2 hnil2 hob2; obtain ⟨a5, c5, rfl⟩ := HO2.out.slice1))
                go_wp2
                go_roundg gg
                case measure => have := HK.out; omega
                case rel => exact ⟨k + 1, _, _, by have := HK.out; omega, rfl, rfl, by simp, HW5.out, by rw [E1.out]; exact HO5.out, by rw [E2.out]; exact HO2.out, HAP5.out⟩
              · have t2 : decide (n < q) = false := by simpa using n1
                by_cases n2 : n ≤ q
                · have t1 : decide (n ≤ q) = true := by simpa using n2
                  have E1 : Hid ((ks.take (k + 1)).filter (geF (upt id en l) n) = L1 ++ [x]) := HF1.out.trans (by rw [HG1.out, t1]; rfl)
                  have E2 : Hid ((ks.take (k + 1)).filter (fun m => decide (n < upt id en l m)) = L2) := HF2.out.trans (by rw [t2]; simp)
                  clear n1 n2 HF1 HF2 HG1 HG2
                  go_wp2_with (at_builtin; (refine wpList_append_own_at _ rfl _ _ 22 rfl w.heap.size 3 i0 _ 1 8 Try.underlying22 hi hq0 hq1 hq2 rfl (by omega) _ _ _ rfl HAY.out ⟨wr.heap.size, 0, none⟩ 1 1 [.int .i64 x] rfl rfl HNX.out HON.out HMX.out HBY.out HSZ.out ?_); intro v1 w3 hown1 hg1 hnil1 hob1; have HO1 := Lib.hid (OwnZ.snoc hown1); have HW3 := Lib.hid ((HB.out.alloc HB.out.size (.cells #[.int .i64 x] 3)).grown hg1 HSZ.out (fun k hk => (World.ownsRow.lt HAY.out k hk).1)); have HZ3 := Lib.hid (HAZ.out.other hg1 HAP.out); have HAP3 := Lib.hid (HAP.out.snoc HAZ.out hob1); have HAZ3 := Lib.hid (HZ3.out.keep ((Below.refl _ _).alloc (Nat.le_refl _) (.cells #[.int .i64 x] 3))); have HN3 := Lib.hid (HNW.out w3); have HS3 := Lib.hid (HAL.out w3 HW3.out.size); clear hown1 hg1 hnil1 hob1; obtain ⟨a3, c3, rfl⟩ := HO1.out.slice1; have HO13 := Lib.hid (HO1.out.keep ((Below.refl _ _).alloc (Nat.le_refl _) (.cells #[.int .i64 x] 3))))
                  go_wp2
                  go_roundg gg
                  case measure => have := HK.out; omega
                  case rel => exact ⟨k + 1, _, _, by have := HK.out; omega, rfl, rfl, by simp, HW3.out, by rw [E1.out]; exact HO1.out, by rw [E2.out]; exact HZ3.out, HAP3.out⟩
                · have t1 : decide (n ≤ q) = false := by simpa using n2
                  have E1 : Hid ((ks.take (k + 1)).filter (geF (upt id en l) n) = L1) := HF1.out.trans (by rw [HG1.out, t1]; simp)
                  have E2 : Hid ((ks.take (k + 1)).filter (fun m => decide (n < upt id en l m)) = L2) := HF2.out.trans (by rw [t2]; simp)
                  clear n1 n2 HF1 HF2 HG1 HG2
                  go_wp2
                  go_roundg gg
                  case measure => have := HK.out; omega
                  case rel => exact ⟨k + 1, _, _, by have := HK.out; omega, rfl, rfl, by simp, HB.out, by rw [E1.out]; exact HY.out, by rw [E2.out]; exact HZ.out, HAP.out⟩
theorem quorumHas (v u : Value) (ks : List Int) (id x : Int) (l : List Pe) (w : World) (h : IntsR w 0 w.heap.size v ks) (hu : PeR w 0 w.heap.size u l) (hx : (Lit.int .u64 x).wf = true) :
    Calls Try.prog 6 #[v, .int .i64 id, .int .u64 x, u] w fun e w' => e = .returned (.bool true) ∧ Below w.heap.size w w' := by
  obtain ⟨en, rfl, -⟩ := u64_of' hx
  exact quorumHasN v u ks id en l w h hu
end Qu
end Go.Proofs.Ytndihliagcgdeaa
