/-
  Crash: what is left of each file.
-/
import Derived.Test.YtjgdmdgiicpemaaDiskAdd
namespace Go.Proofs.Ytjgdmdgiicpemaa
open Go.RowKit Go.Lib Go.Sort
namespace Dk

/-- v is a slice of the ints ks, in memory below block B. -/
def Ints (w : World) (B : Nat) (v : Value) (ks : List Int) : Prop :=
  ∃ a c, v = .slice a ks.length c ∧ ks.length ≤ 4611686018427387904 ∧ (∀ x ∈ ks, -9223372036854775808 ≤ x ∧ x ≤ 9223372036854775807) ∧
    (0 < ks.length → ∃ b off, a = some ⟨b, off, none⟩ ∧ b < B ∧ ∀ i (h : i < ks.length), w.cell? ⟨b, off + i, none⟩ = some (.int .i64 ks[i]))
/-- How many bytes of a file are left. -/
def crN (f : Fl) (o : Option Int) : Nat :=
  match o with
  | none => f.sy.toNat
  | some k => if k ≤ 0 then f.sy.toNat else if k < (f.da.size : Int) - f.sy then (f.sy + k).toNat else f.da.size
def crF (f : Fl) (n : Nat) : Fl := ⟨f.nm, f.da.extract 0 n, n⟩
def crS (fs : List Fl) (ks : List Int) : Nat → List Fl
  | 0 => fs
  | k + 1 => (crS fs ks k).set k (match fs[k]? with | none => ⟨⟨#[]⟩, ⟨#[]⟩, 0⟩ | some f => crF f (crN f ks[k]?))
theorem crS_len (fs : List Fl) (ks : List Int) : ∀ k, (crS fs ks k).length = fs.length
  | 0 => rfl
  | k + 1 => by rw [crS, List.length_set, crS_len fs ks k]
theorem crS_late (fs : List Fl) (ks : List Int) : ∀ k i, k ≤ i → (crS fs ks k)[i]? = fs[i]?
  | 0, _, _ => rfl
  | k + 1, i, h => by rw [crS, List.getElem?_set_ne (by omega), crS_late fs ks k i (by omega)]
theorem crS_next (fs : List Fl) (ks : List Int) (k : Nat) (h : k < fs.length) : crS fs ks (k + 1) = (crS fs ks k).set k (crF fs[k] (crN fs[k] ks[k]?)) := by
  rw [crS, List.getElem?_eq_getElem h]
theorem ext_all (d : ByteArray) : d.extract 0 d.size = d := by
  apply ByteArray.ext
  simp
theorem sy_fine (fs : List Fl) (h : okTo fs fs.length = true) (k : Nat) (hk : k < fs.length) : 0 ≤ fs[k].sy ∧ fs[k].sy ≤ fs[k].da.size := by
  have := okAt_of fs h k hk
  cases k with
  | zero => rw [okAt_zero fs hk] at this; simp at this; omega
  | succ j => rw [okAt_succ fs j hk] at this; simp at this; omega

/-- A round's store of the bytes alone. -/
theorem Own.roundA {w : World} {base g cap : Nat} {l : List Fl} (h : Own w base (.slice (some ⟨g, 0, none⟩) l.length cap) l) (i : Nat) (hi : i < l.length) (nm d : ByteArray) (s : Nat) (he : l[i] = ⟨nm, d, s⟩) :
    Own (w.setCell ⟨g, i * 3 + 1, none⟩ (.string (d.extract 0 s))) base (.slice (some ⟨g, 0, none⟩) l.length cap) (l.set i (crF ⟨nm, d, s⟩ s)) ∧ w.grownBy (w.setCell ⟨g, i * 3 + 1, none⟩ (.string (d.extract 0 s))) (some g) := by
  have := h.set1 i hi (d.extract 0 s)
  rw [he] at this
  exact this
/-- A round's store of the number synced alone. -/
theorem Own.roundC {w : World} {base g cap : Nat} {l : List Fl} (h : Own w base (.slice (some ⟨g, 0, none⟩) l.length cap) l) (i : Nat) (hi : i < l.length) (nm d : ByteArray) (s : Int) (he : l[i] = ⟨nm, d, s⟩) :
    Own (w.setCell ⟨g, i * 3 + 2, none⟩ (.int .i64 (d.size : Nat))) base (.slice (some ⟨g, 0, none⟩) l.length cap) (l.set i (crF ⟨nm, d, s⟩ d.size)) ∧ w.grownBy (w.setCell ⟨g, i * 3 + 2, none⟩ (.int .i64 (d.size : Nat))) (some g) := by
  have := h.set2 i hi (d.size : Int)
  rw [he] at this
  unfold crF
  rw [ext_all]
  exact this
/-- A round's two stores. -/
theorem Own.roundB {w : World} {base g cap : Nat} {l : List Fl} (h : Own w base (.slice (some ⟨g, 0, none⟩) l.length cap) l) (i : Nat) (hi : i < l.length) (nm d : ByteArray) (s : Int) (n : Nat) (he : l[i] = ⟨nm, d, s⟩) :
    Own ((w.setCell ⟨g, i * 3 + 2, none⟩ (.int .i64 (n : Nat))).setCell ⟨g, i * 3 + 1, none⟩ (.string (d.extract 0 n))) base (.slice (some ⟨g, 0, none⟩) l.length cap) (l.set i (crF ⟨nm, d, s⟩ n)) ∧
      w.grownBy ((w.setCell ⟨g, i * 3 + 2, none⟩ (.int .i64 (n : Nat))).setCell ⟨g, i * 3 + 1, none⟩ (.string (d.extract 0 n))) (some g) := by
  obtain ⟨h1, h2⟩ := h.set2 i hi (n : Int)
  rw [he] at h1
  have hl : (l.set i ⟨nm, d, (n : Int)⟩).length = l.length := List.length_set
  rw [← hl] at h1
  obtain ⟨h3, h4⟩ := h1.set1 i (by rw [hl]; exact hi) (d.extract 0 n)
  simp only [List.getElem_set_self, List.set_set] at h3
  rw [hl] at h3
  refine ⟨h3, ⟨h4.os.trans h2.os, h4.tape.trans h2.tape, h4.output.trans h2.output, Nat.le_trans h2.size h4.size, fun j hj hne => ?_⟩⟩
  exact (h4.block j (Nat.lt_of_lt_of_le hj h2.size) hne).trans (h2.block j hj hne)

theorem bset' {B : Nat} {w w1 w2 : World} {g : Nat} (h : Below B w w1) (hg : w1.grownBy w2 (some g)) (hB : B ≤ w1.heap.size) (hbg : B ≤ g) : Below B w w2 := h.grown hg hB (fun k hk => by cases hk; exact hbg)

set_option maxRecDepth 100000 in
set_option maxHeartbeats 4000000 in
theorem crash_own (v kv : Value) (dn : Bool) (fu : Int) (fs : List Fl) (ks : List Int) (w : World) (hv : Files w w.heap.size v fs) (hkv : Ints w w.heap.size kv ks) (h0 : chkN fs = 0) :
    Calls Try.prog 7 #[.agg #[v, .bool dn, .int .i64 fu], kv] w (DoIs w (crS fs ks fs.length) false (-1) 0) := by
  have HV := Lib.hid hv
  obtain ⟨a, c, rfl, -⟩ := hv
  obtain ⟨ka, kc, rfl, hkl, hkr, hkc⟩ := hkv
  obtain ⟨h4, hok⟩ := chk_fine fs h0
  have HKC := Lib.hid hkc
  have HKR := Lib.hid hkr
  have HOK := Lib.hid (sy_fine fs hok)
  have h1 := own_ok (.slice a fs.length c) dn fu fs ((w.alloc (.cells #[.slice a fs.length c, .bool dn, .int .i64 fu] 27)).alloc (.cells #[.slice none 0 0, .bool false, .int .i64 0] 27)) ((HV.out.al _).al _) h0
  simp only [World.size_alloc] at h1
  have HW : Hid (Below w.heap.size w ((w.alloc (.cells #[.slice a fs.length c, .bool dn, .int .i64 fu] 27)).alloc (.cells #[.slice none 0 0, .bool false, .int .i64 0] 27))) := ((Below.refl _ _).alloc (Nat.le_refl _) _).alloc (by simp) _
  have H4 := Lib.hid h4
  clear hkr hkc hok h0 h4
  unfold DoIs
  go_enter Try.func7, Try.ntmps7
  go_wp2
  go_step3
  go_wp2_with (go_at_call 19; go_loud (refine h1.mono ?_; rintro e w1 ⟨rfl, hb⟩; have e0 := hb.cell (p := ⟨w.heap.size, 0, none⟩) (by show w.heap.size < _; omega); have HB1 := Lib.hid hb; have HS1 := Lib.hid (show w.heap.size + 2 ≤ w1.heap.size by have := hb.size; simp at this; omega); clear hb; rw [World.cell?_alloc_lt _ _ _ (by show w.heap.size < _; simp)] at e0; simp [go_sem] at e0))
  go_wp2_with (go_at_call 20; go_loud (refine (clone_own _ fs w1 (HV.out.on (HW.out.trans (HB1.out.mono (by omega))) (by have := HS1.out; omega)) H4.out).mono ?_; rintro e w2 ⟨v2, rfl, hown, hb⟩; obtain ⟨a2, c2, rfl⟩ := hown.slice; have HB2 := Lib.hid hb; have HO2 := Lib.hid hown; clear hb hown))
  go_step3
  go_wp2
  have HSl := Lib.hid HV.out
  obtain ⟨_, _, _, _, hfine, _⟩ := HV.out
  have HFI := Lib.hid hfine
  clear hfine
  go_loopg [22] fs.length (fun g i wx => ∃ k : Nat, k + g = fs.length ∧ i = .int .i64 k ∧ Aside (Own wx w1.heap.size (.slice a2 fs.length c2) (crS fs ks k)) ∧ Below w1.heap.size w2 wx)
  case atStart => exact ⟨0, by omega, rfl, HO2.out, Below.refl _ _⟩
  case round =>
    obtain ⟨k, hkg, rfl, HO, hbx⟩ := hrel
    have HX := Lib.hid hbx
    cases gk with
    | zero =>
      obtain rfl : k = fs.length := by omega
      clear hkg hbx
      obtain ⟨⟨d0, d1, d2⟩, d3, d4, d5⟩ := box2 ((HB1.out.trans (HB2.out.mono HS1.out)).trans (HX.out.mono HS1.out))
      have HO9 : Hid (Own wr w1.heap.size (.slice a2 fs.length c2) (crS fs ks fs.length)) := HO.out
      go_wp2
      rw [Exit.noGoto_ret]
      refine bodyPost_disk rfl (w.heap.size + 1) (.slice a2 fs.length c2) false (-1) rfl rfl ?_ ?_ ?_ ?_
      case refine_1 => go_simp
      case refine_2 => go_simp
      case refine_3 => go_simp
      case refine_4 =>
        have hk := HS1.out
        refine ⟨_, rfl, Own.le (base := w1.heap.size) ?_ (by omega), ?_⟩
        · repeat (first | exact HO9.out | refine Own.sb ?_ (show w.heap.size + 1 < w1.heap.size by omega) _)
        · repeat (first | exact ((HW.out.trans (HB1.out.mono (by omega))).trans (HB2.out.mono (by omega))).trans (HX.out.mono (by omega)) | refine bset ?_ (show w.heap.size ≤ w.heap.size + 1 by omega) _)
    | succ g =>
      have hlk : k < fs.length := by omega
      have HG := Lib.hid hkg
      clear hkg hbx
      have hll : k < (crS fs ks k).length := by rw [crS_len]; exact hlk
      have hlf : (crS fs ks k)[k] = fs[k] := by
        have := crS_late fs ks k k (Nat.le_refl _)
        rw [List.getElem?_eq_getElem hll, List.getElem?_eq_getElem hlk] at this
        exact Option.some.inj this
      have HNX := Lib.hid (crS_next fs ks k hlk)
      have HLN := Lib.hid (crS_len fs ks k)
      obtain ⟨hz0, hz1⟩ := HOK.out k hlk
      obtain ⟨hy, -⟩ := HFI.out _ (List.getElem_mem hlk)
      have HO' : Own wr w1.heap.size (.slice a2 fs.length c2) (crS fs ks k) := HO.out
      obtain ⟨g0, cap0, hsl, hbg, hgl, hcl, hfr⟩ := HO'.form (by omega)
      obtain ⟨k1, k2, k3⟩ := hcl k hll
      rw [hlf] at k1 k2 k3
      rw [crS_len] at hsl
      simp only [Value.slice.injEq] at hsl
      obtain ⟨rfl, -, rfl⟩ := hsl
      rcases hfk : fs[k] with ⟨nm, y, z⟩
      rw [hfk] at hlf HNX k1 k2 k3
      simp only [hfk] at hz0 hz1 hy
      obtain ⟨s, rfl⟩ : ∃ s : Nat, z = s := ⟨z.toNat, by omega⟩
      have hsy : s ≤ y.size := by omega
      have f1 := hfr (k * 3 + 1)
      have f2 := hfr (k * 3 + 2)
      have t1 : (k : Int) < (fs.length : Int) := by omega
      have t2 : (0 : Int) ≤ (k : Int) := by omega
      have t3 : IntKind.i64.wrap ((y.size : Int) - (s : Int)) = (y.size : Int) - (s : Int) := by rw [IntKind.wrap_i64]; simp only [maxLen] at hy; omega
      have HA : Hid (crN ⟨nm, y, s⟩ ks[k]? = s → ∀ wx, Below wr.heap.size wr wx → Own (wx.setCell ⟨g0, k * 3 + 1, none⟩ (.string (y.extract 0 s))) w1.heap.size (.slice (some ⟨g0, 0, none⟩) fs.length c2) (crS fs ks (k + 1)) ∧ Below w1.heap.size w2 (wx.setCell ⟨g0, k * 3 + 1, none⟩ (.string (y.extract 0 s)))) := by
        intro hc wx hb
        have ho := HO'.keep hb
        rw [← crS_len fs ks k] at ho
        obtain ⟨q1, q2⟩ := ho.roundA k hll nm y s hlf
        rw [crS_len] at q1
        rw [HNX.out, hc]
        have hsz : w1.heap.size ≤ wx.heap.size := Nat.le_trans (Nat.le_trans HB2.out.size HX.out.size) hb.size
        exact ⟨q1, bset' (HX.out.trans (hb.mono (Nat.le_trans HB2.out.size HX.out.size))) q2 hsz hbg⟩
      have HC : Hid (crN ⟨nm, y, s⟩ ks[k]? = y.size → ∀ wx, Below wr.heap.size wr wx → Own (wx.setCell ⟨g0, k * 3 + 2, none⟩ (.int .i64 (y.size : Nat))) w1.heap.size (.slice (some ⟨g0, 0, none⟩) fs.length c2) (crS fs ks (k + 1)) ∧ Below w1.heap.size w2 (wx.setCell ⟨g0, k * 3 + 2, none⟩ (.int .i64 (y.size : Nat)))) := by
        intro hc wx hb
        have ho := HO'.keep hb
        rw [← crS_len fs ks k] at ho
        obtain ⟨q1, q2⟩ := ho.roundC k hll nm y s hlf
        rw [crS_len] at q1
        rw [HNX.out, hc]
        have hsz : w1.heap.size ≤ wx.heap.size := Nat.le_trans (Nat.le_trans HB2.out.size HX.out.size) hb.size
        exact ⟨q1, bset' (HX.out.trans (hb.mono (Nat.le_trans HB2.out.size HX.out.size))) q2 hsz hbg⟩
      have HB : Hid (∀ n, crN ⟨nm, y, s⟩ ks[k]? = n → ∀ wx, Below wr.heap.size wr wx → Own ((wx.setCell ⟨g0, k * 3 + 2, none⟩ (.int .i64 (n : Nat))).setCell ⟨g0, k * 3 + 1, none⟩ (.string (y.extract 0 n))) w1.heap.size (.slice (some ⟨g0, 0, none⟩) fs.length c2) (crS fs ks (k + 1)) ∧ Below w1.heap.size w2 ((wx.setCell ⟨g0, k * 3 + 2, none⟩ (.int .i64 (n : Nat))).setCell ⟨g0, k * 3 + 1, none⟩ (.string (y.extract 0 n)))) := by
        intro n hc wx hb
        have ho := HO'.keep hb
        rw [← crS_len fs ks k] at ho
        obtain ⟨q1, q2⟩ := ho.roundB k hll nm y s n hlf
        rw [crS_len] at q1
        rw [HNX.out, hc]
        have hsz : w1.heap.size ≤ wx.heap.size := Nat.le_trans (Nat.le_trans HB2.out.size HX.out.size) hb.size
        exact ⟨q1, bset' (HX.out.trans (hb.mono (Nat.le_trans HB2.out.size HX.out.size))) q2 hsz hbg⟩
      clear hlf hcl hfr HO' hll hfk HNX HLN
      by_cases hki : k < ks.length
      · have hkc : Hid (∃ b off, ka = some ⟨b, off, none⟩ ∧ b < w.heap.size ∧ wr.cell? ⟨b, off + k, none⟩ = some (.int .i64 ks[k])) := by
          obtain ⟨b, off, rfl, hb, hc⟩ := HKC.out (by omega)
          exact ⟨b, off, rfl, hb, (HX.out.cell (by have := HS1.out; show b < _; omega)).trans ((HB2.out.cell (by have := HS1.out; show b < _; omega)).trans ((HB1.out.cell (by show b < _; omega)).trans ((HW.out.cell (by exact hb)).trans (hc k hki))))⟩
        obtain ⟨kb, koff, rfl, hkb, k4⟩ := hkc.out
        obtain ⟨r1, r2⟩ := HKR.out _ (List.getElem_mem hki)
        have hq : ks[k]? = some ks[k] := List.getElem?_eq_getElem hki
        rw [hq] at HA HB HC
        clear hkc hq
        generalize ks[k] = x at *
        have t4 : (k : Int) < (ks.length : Int) := by omega
        have t5 : decide ((ks.length : Int) ≤ (k : Int)) = false := by simp; omega
        by_cases hx : x ≤ 0
        · have HE := Lib.hid (HA.out (by unfold crN; simp [hx]))
          go_wp2
          go_quiet (fail)
          go_wp2
          go_region
          go_wp2
          go_roundg g
          case measure => omega
          case rel => exact ⟨k + 1, by have := HG.out; omega, by go_num, (HE.out _ (bdN (Below.refl _ _) _)).1, (HE.out _ (bdN (Below.refl _ _) _)).2⟩
        · obtain ⟨p, rfl⟩ : ∃ p : Nat, x = p := ⟨x.toNat, by omega⟩
          have t6 : decide ((p : Int) ≤ 0) = false := by simp; omega
          by_cases hp : (p : Int) < (y.size : Int) - (s : Int)
          · have HE := Lib.hid (HB.out (s + p) (by unfold crN; simp only; rw [if_neg hx, if_pos hp]; omega))
            have t7 : IntKind.i64.wrap ((s : Int) + (p : Int)) = ((s + p : Nat) : Int) := by rw [IntKind.wrap_i64]; simp only [maxLen] at hy; omega
            have t8 : ((s + p : Nat) : Int) ≤ (y.size : Int) := by omega
            have t9 : s + p ≤ y.size := by omega
            go_wp2
            go_quiet (fail)
            go_wp2
            go_region
            go_wp2
            go_region
            go_wp2
            simp only [Int.natCast_add] at HE
            go_roundg g
            case measure => omega
            case rel => exact ⟨k + 1, by have := HG.out; omega, by go_num, Own.drew (HE.out _ (bdN (Below.refl _ _) _)).1 1, bdN (HE.out _ (bdN (Below.refl _ _) _)).2 1⟩
          · have HE := Lib.hid (HC.out (by unfold crN; simp only; rw [if_neg hx, if_neg hp]))
            have t7 : decide ((p : Int) < (y.size : Int) - (s : Int)) = false := by simpa using hp
            go_wp2
            go_quiet (fail)
            go_wp2
            go_roundg g
            case measure => omega
            case rel => exact ⟨k + 1, by have := HG.out; omega, by go_num, (HE.out _ (bdN (Below.refl _ _) _)).1, (HE.out _ (bdN (Below.refl _ _) _)).2⟩
      · have HE := Lib.hid (HA.out (by unfold crN; rw [List.getElem?_eq_none (by omega)]; simp))
        have t5 : decide ((ks.length : Int) ≤ (k : Int)) = true := by simp; omega
        have t6 : (ks.length : Int) ≤ (k : Int) := by omega
        go_wp2
        go_quiet (fail)
        go_wp2
        go_region
        go_wp2
        go_roundg g
        case measure => omega
        case rel => exact ⟨k + 1, by have := HG.out; omega, by go_num, (HE.out _ (bdN (Below.refl _ _) _)).1, (HE.out _ (bdN (Below.refl _ _) _)).2⟩
end Dk
end Go.Proofs.Ytjgdmdgiicpemaa
