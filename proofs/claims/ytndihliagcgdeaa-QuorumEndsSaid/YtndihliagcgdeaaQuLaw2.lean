/-
  gafferref15.Settled; QuorumSettled.
-/
import Derived.Test.YtndihliagcgdeaaQuLive
import Derived.Test.YtndihliagcgdeaaQuRef
namespace Go.Proofs.Ytndihliagcgdeaa
open Go.RowKit Go.Lib
namespace Qu
open Lo
set_option linter.unusedVariables false
/-- A row of numbers of one's own. -/
def OwnZ (w : World) (base : Nat) (v : Value) (ks : List Int) : Prop := w.ownsRow base 3 1 v ks.length (ks.map fun k => .int .i64 k)
theorem OwnZ.nil (w : World) (base : Nat) : OwnZ w base (.slice none 0 0) [] := ⟨rfl, .inl ⟨rfl, rfl⟩⟩
theorem OwnZ.keep {w w' : World} {base : Nat} {v : Value} {ks : List Int} (h : OwnZ w base v ks) (hb : Below w.heap.size w w') : OwnZ w' base v ks := by
  refine ⟨h.1, ?_⟩
  rcases h.2 with h2 | ⟨g, cap, cur, h3, h4, h5, h6⟩
  · exact .inl h2
  · exact .inr ⟨g, cap, cur, h3, h4, (hb.block g ((Array.getElem?_eq_some_iff.1 h5).1)).trans h5, h6⟩
theorem OwnZ.slice {w : World} {base : Nat} {v : Value} {ks : List Int} (h : OwnZ w base v ks) : ∃ a c, v = .slice a ks.length c := by
  rcases h.2 with ⟨rfl, h0⟩ | ⟨g, cap, cur, rfl, _⟩
  · exact ⟨none, 0, by rw [h0]⟩
  · exact ⟨_, _, rfl⟩
theorem OwnZ.ints {w : World} {base : Nat} {v : Value} {ks : List Int} (h : OwnZ w base v ks) (hl : ks.length ≤ 17592186044416) (hr : ∀ x ∈ ks, -9223372036854775808 ≤ x ∧ x ≤ 9223372036854775807) : IntsR w base w.heap.size v ks := by
  obtain ⟨a, c, rfl, hI, -⟩ := own_ints h hl hr
  exact hI
theorem OwnZ.snoc {w : World} {base : Nat} {v : Value} {ks : List Int} {x : Int} (h : w.ownsRow base 3 1 v (ks.length + 1) ((ks.map fun k => Value.int .i64 k) ++ [.int .i64 x])) : OwnZ w base v (ks ++ [x]) := by
  show w.ownsRow _ _ _ _ _ _
  rw [List.length_append, List.map_append]
  exact h
theorem u64_of' {a : Int} (w : (Lit.int .u64 a).wf = true) : ∃ n : Nat, a = (n : Nat) ∧ Lt64 n := by
  have h : 0 ≤ a ∧ a ≤ 18446744073709551615 := by simpa [Lit.wf, IntKind.min, IntKind.max, IntKind.signed, IntKind.bits] using w
  obtain ⟨n, rfl⟩ := Int.eq_ofNat_of_zero_le h.1
  exact ⟨n, rfl, by unfold Lt64; omega⟩
theorem filter_at (p : Int → Bool) (l : List Int) (k : Nat) (h : k < l.length) : (l.take (k + 1)).filter p = (l.take k).filter p ++ (if p l[k] = true then [l[k]] else []) := by
  rw [List.take_succ_eq_append_getElem h, List.filter_append]
  congr 1
  simp only [List.filter_cons, List.filter_nil]
theorem hasI_filter (p : Int → Bool) {ks : List Int} {m : Int} (h : m ∈ ks) : hasI (ks.filter p) m = p m := by
  cases hp : p m
  · rw [← Bool.not_eq_true, hasI_mem, List.mem_filter]
    intro h2
    rw [hp] at h2
    cases h2.2
  · rw [hasI_mem, List.mem_filter]
    exact ⟨h, hp⟩
theorem most_filter (p : Int → Bool) {ks : List Int} (h : rmB ks = true) : mostB ks (ks.filter p) = mostF p ks := by
  unfold mostB
  rw [h, most_congr (fun m hm => hasI_filter p hm)]
  rfl
set_option maxHeartbeats 8000000 in
theorem ref_settled (v u : Value) (ks : List Int) (id : Int) (en : Nat) (l : List Pe) (w : World) {A A2 : Nat} (h : IntsR w A w.heap.size v ks) (hu : PeR w A2 w.heap.size u l) :
    Calls Try.prog 17 #[v, .int .i64 id, .int .u64 (en : Nat), u] w fun e w' => e = .returned (.int .u64 (setB ks id en l : Nat)) ∧ Below w.heap.size w w' := by
  have HR := Lib.hid (members_ref v ks w h)
  have HM : Hid (∀ z m, Below w.heap.size w z → Calls Try.prog 29 #[.int .i64 m, .int .i64 id, .int .u64 (en : Nat), u] z fun e z' => e = .returned (.int .u64 (upt id en l m : Nat)) ∧ Below z.heap.size z z') := fun z m hz => ref_match u l m id en z (hu.on hz)
  have HQ : Hid (setB ks id en l = if rmB ks = true then stl (upt id en l) ks ks 0 else 0) := rfl
  have HMO : Hid (rmB ks = true → ∀ z y n, Below w.heap.size w z → OwnZ z w.heap.size y (ks.filter (geF (upt id en l) n)) → Calls Try.prog 13 #[v, y] z fun e z' => e = .returned (.bool (mostF (geF (upt id en l) n) ks)) ∧ Below z.heap.size z z') := by
    intro hk z y n hz hy
    have hy2 := hy.ints (by have := List.length_filter_le (geF (upt id en l) n) ks; obtain ⟨-, -, -, h2, -⟩ := h; omega) (fun x hx => by obtain ⟨-, -, -, -, h3, -⟩ := h; exact h3 x (List.mem_filter.1 hx).1)
    have := ref_most v y ks _ z (h.on hz) hy2
    rw [most_filter _ hk] at this
    exact this
  obtain ⟨a, c, rfl, hl, -, hc⟩ := h
  obtain ⟨a2, c2, rfl⟩ := hu.slice
  have HC := Lib.hid hc
  clear hu hc
  generalize setB ks id en l = r at *
  generalize upt id en l = f at *
  cases hq : rmB ks
  · rw [hq] at HR HQ
    have HE : Hid (r = 0) := HQ.out
    clear hq HQ HM HMO HC
    go_enter Try.func17, Try.ntmps17
    go_wp2_with (go_at_call 24; go_loud ((with_reducible refine HR.out.mono ?_); rintro e w1 ⟨rfl, hb⟩; have HB := Lib.hid hb; clear hb))
    go_wp2
    go_ret
    exact ⟨by rw [HE.out]; rfl, HB.out⟩
  · rw [hq] at HR HQ
    have HE : Hid (r = stl f ks ks 0) := HQ.out
    have HMS := Lib.hid (HMO.out hq)
    clear hq HQ HMO
    go_enter Try.func17, Try.ntmps17
    go_wp2_with (go_at_call 24; go_loud ((with_reducible refine HR.out.mono ?_); rintro e w1 ⟨rfl, hb⟩; have HB := Lib.hid hb; clear hb))
    go_wp2
    go_loopg [9, 21] ks.length (fun gg n i wx => ∃ k b : Nat, k + gg = ks.length ∧ n = .int .u64 b ∧ i = .int .i64 k ∧ Aside (Below w.heap.size w wx) ∧ Aside (stl f ks ks 0 = stl f ks (ks.drop k) b))
    case atStart => exact ⟨0, 0, by omega, rfl, rfl, HB.out, rfl⟩
    case round =>
      obtain ⟨k, b, hkg, rfl, rfl, HB, HA⟩ := hrel
      cases gk with
      | zero =>
        obtain rfl : k = ks.length := by omega
        have HE2 : Hid (r = b) := HE.out.trans (HA.out.trans (stl_end f ks ks b))
        clear hkg HA
        go_wp2
        go_ret
        exact ⟨by rw [HE2.out]; rfl, HB.out⟩
      | succ gg =>
        have hlt : k < ks.length := by omega
        have hlt2 : (k : Int) < (ks.length : Int) := by omega
        have HL2 := Lib.hid hlt2
        obtain ⟨bk, off, rfl, hA, hb, hcell⟩ := HC.out (by omega)
        have hx := (HB.out.cell (by exact hb)).trans (hcell k hlt)
        have HST := Lib.hid (stl_at f ks ks k hlt b)
        have tk : IntKind.i64.wrap ((k : Int) + 1) = (k : Int) + 1 := by rw [IntKind.wrap_i64]; omega
        have HK := Lib.hid (HM.out _ ks[k] HB.out)
        have HCC := Lib.hid hcell
        clear hcell
        generalize ks[k] = x at *
        go_wp2_with (go_at_call 29; go_loud ((with_reducible refine HK.out.mono ?_); rintro e w2 ⟨rfl, hb2⟩; have HB2 := Lib.hid (HB.out.trans (hb2.mono HB.out.size)); clear hb2))
        clear hlt2
        have HTK := Lib.hid tk
        clear tk
        generalize hn : f x = n at *
        have HN := Lib.hid hn
        clear hn
        go_loopg [13, 32] ks.length (fun gg2 sv i wx => ∃ (j : Nat) (y : Value), j + gg2 = ks.length ∧ sv = y ∧ i = .int .i64 j ∧ Aside (Below w.heap.size w wx) ∧ Aside (OwnZ wx w.heap.size y ((ks.take j).filter (geF f n))))
        case atStart => exact ⟨0, _, by omega, rfl, rfl, HB2.out, OwnZ.nil _ _⟩
        case round =>
          obtain ⟨j, y, hjg, rfl, rfl, HB3, HY⟩ := hrel
          obtain ⟨ya, yc, rfl⟩ := HY.out.slice
          cases gk with
          | zero =>
            obtain rfl : j = ks.length := by omega
            have HY2 : Hid (OwnZ wr w.heap.size (.slice ya ((ks.take ks.length).filter (geF f n)).length yc) (ks.filter (geF f n))) := by
              have := HY.out
              rw [List.take_length] at this ⊢
              exact this
            have HK2 := Lib.hid (HMS.out _ _ n HB3.out HY2.out)
            have hlt2 := HL2.out
            have tk := HTK.out
            clear hjg HY
            generalize ((ks.take ks.length).filter (geF f n)).length = yl at *
            by_cases h1 : b < n
            · have t1 : decide (b < n) = true := by simpa using h1
              cases h2 : mostF (geF f n) ks
              · have HNX : Hid (stl f ks ks 0 = stl f ks (ks.drop (k + 1)) b) := HA.out.trans (HST.out.trans (by rw [stp_1 (by rw [HN.out]; exact h1) (by rw [HN.out]; exact h2)]))
                rw [h2] at HK2
                clear h1 h2 HA HST
                go_wp2_with (go_at_call 13; go_loud ((with_reducible refine HK2.out.mono ?_); rintro e w4 ⟨rfl, hb4⟩; have HB4 := Lib.hid (HB3.out.trans (hb4.mono HB3.out.size)); clear hb4))
                go_wp2
                go_roundg gg
                case measure => omega
                case rel => exact ⟨k + 1, b, by omega, rfl, by simp, HB4.out, HNX.out⟩
              · have HNX : Hid (stl f ks ks 0 = stl f ks (ks.drop (k + 1)) n) := HA.out.trans (HST.out.trans (by rw [stp_2 (by rw [HN.out]; exact h1) (by rw [HN.out]; exact h2), HN.out]))
                rw [h2] at HK2
                clear h1 h2 HA HST
                go_wp2_with (go_at_call 13; go_loud ((with_reducible refine HK2.out.mono ?_); rintro e w4 ⟨rfl, hb4⟩; have HB4 := Lib.hid (HB3.out.trans (hb4.mono HB3.out.size)); clear hb4))
                go_wp2
                go_roundg gg
                case measure => omega
                case rel => exact ⟨k + 1, n, by omega, rfl, by simp, HB4.out, HNX.out⟩
            · have t1 : decide (b < n) = false := by simpa using h1
              have HNX : Hid (stl f ks ks 0 = stl f ks (ks.drop (k + 1)) b) := HA.out.trans (HST.out.trans (by rw [stp_0 (by rw [HN.out]; exact h1)]))
              clear h1 HA HST
              go_wp2
              go_roundg gg
              case measure => omega
              case rel => exact ⟨k + 1, b, by omega, rfl, by simp, HB3.out, HNX.out⟩
          | succ gg2 =>
            have hjt : j < ks.length := by omega
            have hjt2 : (j : Int) < (ks.length : Int) := by omega
            have hxj := (HB3.out.cell (by exact hb)).trans (HCC.out j hjt)
            have tj : IntKind.i64.wrap ((j : Int) + 1) = (j : Int) + 1 := by rw [IntKind.wrap_i64]; omega
            have HF := Lib.hid (filter_at (geF f n) ks j hjt)
            have HK3 := Lib.hid (HM.out _ ks[j] HB3.out)
            have hfl : ((ks.take j).filter (geF f n)).length ≤ j := by
              have := List.length_filter_le (geF f n) (ks.take j)
              rw [List.length_take] at this
              omega
            have HG : Hid (geF f n ks[j] = decide (n ≤ f ks[j])) := rfl
            generalize ks[j] = xj at *
            generalize (ks.take j).filter (geF f n) = L at *
            cases h3 : decide (n ≤ f xj)
            · have t3 : decide (n ≤ f xj) = false := h3
              have HF2 : Hid ((ks.take (j + 1)).filter (geF f n) = L) := HF.out.trans (by rw [HG.out, h3]; simp)
              clear h3 HF HG
              generalize f xj = q at *
              go_wp2_with (go_at_call 29; go_loud ((with_reducible refine HK3.out.mono ?_); rintro e w4 ⟨rfl, hb4⟩; have HB4 := Lib.hid (HB3.out.trans (hb4.mono HB3.out.size)); have HY4 := Lib.hid (HY.out.keep hb4); clear hb4))
              go_wp2
              go_roundg gg2
              case measure => omega
              case rel => exact ⟨j + 1, _, by omega, rfl, by simp, HB4.out, by rw [HF2.out]; exact HY4.out⟩
            · have t3 : decide (n ≤ f xj) = true := h3
              have HF2 : Hid ((ks.take (j + 1)).filter (geF f n) = L ++ [xj]) := HF.out.trans (by rw [HG.out, h3]; simp)
              clear h3 HF HG
              generalize f xj = q at *
              obtain ⟨i0, hi, hq0, hq1, hq2⟩ := info_parts info_int
              have HMX := Lib.hid (show L.length + 1 ≤ maxLen by unfold maxLen; omega)
              have HBY := Lib.hid (show (L.length + 1) * 8 ≤ 140737488355328 by omega)
              have HON : Hid (∀ u ∈ [Value.int .i64 xj], u.oneCell' = true) := by intro u hu; simp at hu; subst hu; rfl
              have HNW : Hid (∀ (w2 : World) j u, [Value.int .i64 xj][j]? = some u → (w2.alloc (.cells #[.int .i64 xj] 3)).cell? ((⟨w2.heap.size, 0, none⟩ : Addr).add j) = some u) := by
                intro w2 j u hj
                match j, hj with
                | 0, hj => simp at hj; subst hj; simp [go_sem, Addr.add]
                | j + 1, hj => simp at hj
              have HAL : Hid (∀ (w2 : World), w.heap.size ≤ w2.heap.size → w.heap.size ≤ (w2.alloc (.cells #[.int .i64 xj] 3)).heap.size) := by intro w2 h; simp; omega
              go_wp2_with (first | (go_at_call 29; go_loud ((with_reducible refine HK3.out.mono ?_); rintro e w4 ⟨rfl, hb4⟩; have HB4 := Lib.hid (HB3.out.trans (hb4.mono HB3.out.size)); have HV2 := Lib.hid (HY.out.keep hb4); have HA2 := Lib.hid (HV2.out.keep ((Below.refl _ _).alloc (Nat.le_refl _) (.cells #[.int .i64 xj] 3))); have HN2 := Lib.hid (HNW.out w4); have HS2 := Lib.hid (HAL.out w4 HB4.out.size); clear hb4)) | (at_builtin; go_loud (refine wpList_append_own _ rfl _ _ 22 rfl w.heap.size 3 i0 _ 1 8 Try.underlying22 hi hq0 hq1 hq2 rfl (by omega) _ _ _ rfl HA2.out ⟨w4.heap.size, 0, none⟩ 1 1 [.int .i64 xj] rfl rfl HN2.out HON.out HMX.out HBY.out HS2.out ?_; intro v' w5 hown' hg hnil; clear hnil)))
              have HO3 : Hid (OwnZ w5 w.heap.size v' (L ++ [xj])) := OwnZ.snoc hown'
              have HW3 := Lib.hid ((HB4.out.alloc HB4.out.size (.cells #[.int .i64 xj] 3)).grown hg HS2.out (fun k hk => (World.ownsRow.lt HA2.out k hk).1))
              clear hown' hg
              obtain ⟨a3, c3, rfl⟩ := HO3.out.slice
              go_wp2
              go_roundg gg2
              case measure => omega
              case rel => exact ⟨j + 1, _, by omega, rfl, by simp, HW3.out, by rw [HF2.out]; exact HO3.out⟩
set_option maxHeartbeats 4000000 in
theorem quorumSettled (v u : Value) (ks : List Int) (id x : Int) (l : List Pe) (w : World) (h : IntsR w 0 w.heap.size v ks) (hu : PeR w 0 w.heap.size u l) (hx : (Lit.int .u64 x).wf = true) :
    Calls Try.prog 4 #[v, .int .i64 id, .int .u64 x, u] w fun e w' => e = .returned (.bool true) ∧ Below w.heap.size w w' := by
  obtain ⟨en, rfl, -⟩ := u64_of' hx
  have KM : Hid (∀ z, Below w.heap.size w z → Calls Try.prog 10 #[] z fun e z' => e = .returned (.bool true) ∧ Below z.heap.size z z') := fun z _ => most_true z
  have KS : Hid (∀ z, Below w.heap.size w z → Calls Try.prog 11 #[] z fun e z' => e = .returned (.bool true) ∧ Below z.heap.size z z') := fun z _ => settled_true z
  have HB0 : Hid (Below w.heap.size w w) := Below.refl _ _
  have K1 : Hid (∀ z, Below w.heap.size w z → Calls Try.prog 16 #[v, .int .i64 id, .int .u64 (en : Nat), u] z fun e z' => e = .returned (.int .u64 (setB ks id en l : Nat)) ∧ Below z.heap.size z z') := fun z hz => the_settled v u ks id en l z (h.on hz) (hu.on hz)
  have K2 : Hid (∀ z, Below w.heap.size w z → Calls Try.prog 17 #[v, .int .i64 id, .int .u64 (en : Nat), u] z fun e z' => e = .returned (.int .u64 (setB ks id en l : Nat)) ∧ Below z.heap.size z z') := fun z hz => ref_settled v u ks id en l z (h.on hz) (hu.on hz)
  obtain ⟨a, c, rfl⟩ := h.slice
  obtain ⟨a2, c2, rfl⟩ := hu.slice
  clear h hu hx KM
  generalize setB ks id en l = n at *
  go_enter Try.func4, Try.ntmps4
  go_wp2_with (go_at_call 11; (with_reducible refine (KS.out _ HB0.out).mono ?_); rintro e w2 ⟨rfl, hb⟩; have HB2 := Lib.hid (HB0.out.trans (hb.mono HB0.out.size)); clear hb)
  go_wp2_with (go_at_call 16; (with_reducible refine (K1.out _ HB2.out).mono ?_); rintro e w3 ⟨rfl, hb⟩; have HB3 := Lib.hid (HB2.out.trans (hb.mono HB2.out.size)); clear hb)
  go_wp2_with (go_at_call 17; (with_reducible refine (K2.out _ HB3.out).mono ?_); rintro e w4 ⟨rfl, hb⟩; have HB4 := Lib.hid (HB3.out.trans (hb.mono HB3.out.size)); clear hb)
  go_wp2
  go_ret
  exact ⟨rfl, HB4.out⟩
end Qu
end Go.Proofs.Ytndihliagcgdeaa
