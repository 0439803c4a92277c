/-
  WHETHER TWO ARE ONE: gafferref03.SameInts, SameEntry, Same; gafferref14.Same.
-/
import Derived.Test.YtjalmciaaenmjaaLogClone
import Derived.Deep.RegionHeld3
namespace Go.Proofs.Ytjalmciaaenmjaa
open Go.RowKit Go.Lib
namespace Lo
theorem ints_ne {ks js : List Int} (k : Nat) (hk : k < ks.length) (hj : k < js.length) (hne : ks[k] ≠ js[k]) : ¬ ks = js := fun e => by subst e; exact hne rfl
theorem ints_all {ks js : List Int} (h : ks.length = js.length) (ht : ks.take ks.length = js.take ks.length) : ks = js := by
  rw [List.take_length, h, List.take_length] at ht
  exact ht
def siB (ks js : List Int) : Bool := decide (ks = js)
set_option maxHeartbeats 1000000 in
theorem same_ints (v u : Value) (ks js : List Int) (w : World) {A A2 : Nat} (hv : IntsR w A w.heap.size v ks) (hu : IntsR w A2 w.heap.size u js) :
    Calls Try.prog 21 #[v, u] w fun e w' => e = .returned (.bool (siB ks js)) ∧ Below w.heap.size w w' := by
  obtain ⟨a, c, rfl, hl, hr, hc⟩ := hv
  obtain ⟨a2, c2, rfl, hl2, hr2, hc2⟩ := hu
  have HC := Lib.hid hc
  have HC2 := Lib.hid hc2
  clear hc hc2 hr hr2
  by_cases hn : ks.length = js.length
  · have HD0 : Hid (∀ k (hk : k < ks.length) (hj : k < js.length), ks[k] ≠ js[k] → siB ks js = false) := fun k hk hj hne => decide_eq_false (ints_ne k hk hj hne)
    have HD1 : Hid (ks.take ks.length = js.take ks.length → siB ks js = true) := fun ht => decide_eq_true (ints_all hn ht)
    generalize siB ks js = r at *
    have hn1 : (ks.length : Int) = (js.length : Int) := by omega
    have hn2 : ((ks.length : Int) != (js.length : Int)) = false := by simp; omega
    have HN := Lib.hid hn
    clear hn
    go_enter Try.func21, Try.ntmps21
    go_wp2
    go_loopg [13] ks.length (fun gg i wx => ∃ k : Nat, k + gg = ks.length ∧ i = .int .i64 k ∧ Below w.heap.size w wx ∧ Aside (ks.take k = js.take k))
    case atStart => exact ⟨0, by omega, rfl, Below.refl _ _, (by rw [List.take_zero, List.take_zero] : ks.take 0 = js.take 0)⟩
    case round =>
      obtain ⟨k, hkg, rfl, hbx, HA⟩ := hrel
      cases gk with
      | zero =>
        obtain rfl : k = ks.length := by omega
        clear hkg
        have HT := Lib.hid (HD1.out HA.out)
        go_wp2
        go_ret
        exact ⟨by rw [HT.out]; rfl, hbx⟩
      | succ gg =>
        have hlt : (k : Int) < (ks.length : Int) := by omega
        have hlt2 : (k : Int) < (js.length : Int) := by omega
        have hk0 : (0 : Int) ≤ (k : Int) := by omega
        obtain ⟨b, off, rfl, -, hb, hcc⟩ := HC.out (by omega)
        obtain ⟨b2, off2, rfl, -, hb2, hcc2⟩ := HC2.out (by have := HN.out; omega)
        have hk1 : k < ks.length := by omega
        have hk2 : k < js.length := by omega
        have e1 : wr.drew.cell? ⟨b, off + k, none⟩ = some (.int .i64 ks[k]) := (hbx.cell (by exact hb)).trans (hcc k hk1)
        have e2 : wr.drew.cell? ⟨b2, off2 + k, none⟩ = some (.int .i64 js[k]) := (hbx.cell (by exact hb2)).trans (hcc2 k hk2)
        have HB := Lib.hid hbx
        have HT := Lib.hid (show ks[k] = js[k] → ks.take (k + 1) = js.take (k + 1) from fun e => by rw [List.take_add_one, List.take_add_one, HA.out, List.getElem?_eq_getElem hk1, List.getElem?_eq_getElem hk2, e])
        have HF := Lib.hid (fun hne => HD0.out k hk1 hk2 hne)
        clear hcc hcc2 hbx HA
        generalize ks[k] = x at *
        generalize js[k] = y at *
        have tk : IntKind.i64.wrap ((k : Int) + 1) = (k : Int) + 1 := by rw [IntKind.wrap_i64]; omega
        by_cases hxy : x = y
        · subst hxy
          have HT2 := Lib.hid (HT.out rfl)
          go_wp2
          go_region
          all_goals
            go_wp2
            go_roundg gg
            case measure => omega
            case rel => exact ⟨k + 1, by omega, by simp, HB.out.drew, HT2.out⟩
        · have hx2 : (x != y) = true := by simpa using hxy
          have HF2 := Lib.hid (HF.out hxy)
          go_wp2
          go_region
          all_goals
            go_wp2
            go_ret
            exact ⟨by rw [HF2.out]; rfl, HB.out.drew⟩
  · have HF : Hid (siB ks js = false) := decide_eq_false (fun e => hn (by rw [e]))
    generalize siB ks js = r at *
    have hn1 : ¬ (ks.length : Int) = (js.length : Int) := by omega
    have hn2 : ((ks.length : Int) != (js.length : Int)) = true := by simp; omega
    clear hn
    go_enter Try.func21, Try.ntmps21
    go_wp2
    go_ret
    exact ⟨by rw [HF.out]; rfl, Below.refl _ _⟩
def sameE (e f : En) : Bool := decide (e.i = f.i) && decide (e.t = f.t) && decide (e.k = f.k) && decide (e.d = f.d) && siB e.ks f.ks
theorem sameE_iff {e f : En} : sameE e f = true ↔ e = f := by
  obtain ⟨a, b, c, d, g⟩ := e
  obtain ⟨a2, b2, c2, d2, g2⟩ := f
  unfold sameE siB
  simp only [Bool.and_eq_true, decide_eq_true_eq, En.mk.injEq]
  exact ⟨fun ⟨⟨⟨⟨h1, h2⟩, h3⟩, h4⟩, h5⟩ => ⟨h1, h2, h3, h4, h5⟩, fun ⟨h1, h2, h3, h4, h5⟩ => ⟨⟨⟨⟨h1, h2⟩, h3⟩, h4⟩, h5⟩⟩
def sameL : List En → List En → Bool
  | [], [] => true
  | e :: r, f :: s => sameE e f && sameL r s
  | _, _ => false
theorem sameL_iff : ∀ {l m : List En}, sameL l m = true ↔ l = m
  | [], [] => by simp [sameL]
  | [], _ :: _ => by simp [sameL]
  | _ :: _, [] => by simp [sameL]
  | e :: r, f :: s => by simp only [sameL, Bool.and_eq_true, sameE_iff, sameL_iff, List.cons.injEq]
theorem sameL_self (l : List En) : sameL l l = true := sameL_iff.2 rfl
theorem sameL_no {l m : List En} (h : ¬ l = m) : sameL l m = false := by
  cases hs : sameL l m
  · rfl
  · exact absurd (sameL_iff.1 hs) h
theorem ents_ne {l m : List En} (k : Nat) (hk : k < l.length) (hj : k < m.length) (h : sameE l[k] m[k] = false) : sameL l m = false := sameL_no fun e => by
  subst e
  rw [sameE_iff.2 rfl] at h
  cases h
theorem ents_all {l m : List En} (h : l.length = m.length) (ht : l.take l.length = m.take l.length) : sameL l m = true := by
  rw [List.take_length, h, List.take_length] at ht
  exact sameL_iff.2 ht
set_option maxHeartbeats 2000000 in
theorem same_entry (i t k : Nat) (d : ByteArray) (v : Value) (ks : List Int) (i2 t2 k2 : Nat) (d2 : ByteArray) (u : Value) (js : List Int) (w : World) {A A2 : Nat} (hv : IntsR w A w.heap.size v ks) (hu : IntsR w A2 w.heap.size u js) :
    Calls Try.prog 38 #[.agg #[.int .u64 (i : Nat), .int .u64 (t : Nat), .int .u8 (k : Nat), .string d, v], .agg #[.int .u64 (i2 : Nat), .int .u64 (t2 : Nat), .int .u8 (k2 : Nat), .string d2, u]] w fun e w' => e = .returned (.bool (sameE ⟨i, t, k, d, ks⟩ ⟨i2, t2, k2, d2, js⟩)) ∧ Below w.heap.size w w' := by
  have HSI := Lib.hid (fun x hx hy => same_ints v u ks js x (A := A) (A2 := A2) hx hy)
  have HV := Lib.hid hv
  have HU := Lib.hid hu
  obtain ⟨a, c, rfl, -⟩ := hv
  obtain ⟨a2, c2, rfl, -⟩ := hu
  have hW : Below w.heap.size w ((w.alloc (.cells #[.int .u64 (i : Nat), .int .u64 (t : Nat), .int .u8 (k : Nat), .string d, .slice a ks.length c] 53)).alloc (.cells #[.int .u64 (i2 : Nat), .int .u64 (t2 : Nat), .int .u8 (k2 : Nat), .string d2, .slice a2 js.length c2] 53)) := ((Below.refl _ _).alloc (Nat.le_refl _) _).alloc (by simp) _
  have HCI := Lib.hid (HSI.out _ ((HV.out.keep hW).more hW.size (Nat.le_refl _)) ((HU.out.keep hW).more hW.size (Nat.le_refl _)))
  have HR : Hid (sameE ⟨i, t, k, d, ks⟩ ⟨i2, t2, k2, d2, js⟩ = (decide (i = i2) && decide (t = t2) && decide (k = k2) && decide (d = d2) && siB ks js)) := rfl
  generalize sameE ⟨i, t, k, d, ks⟩ ⟨i2, t2, k2, d2, js⟩ = r at *
  generalize siB ks js = q at *
  have HW := Lib.hid hW
  clear HSI hW HV HU
  by_cases h1 : i = i2
  · subst h1
    by_cases h2 : t = t2
    · subst h2
      by_cases h3 : k = k2
      · subst h3
        by_cases h4 : d = d2
        · subst h4
          have HQ : Hid (r = q) := HR.out.trans (by simp)
          go_enter Try.func38, Try.ntmps38
          go_wp2_with (go_at_call 21; go_loud ((with_reducible refine HCI.out.mono ?_); rintro e w1 ⟨rfl, hb⟩; have HB := Lib.hid (HW.out.trans (hb.mono HW.out.size)); clear hb))
          go_wp2
          go_ret
          exact ⟨by rw [HQ.out]; rfl, HB.out⟩
        · have h41 : (d.toList == d2.toList) = false := by
            rw [beq_eq_false_iff_ne]
            intro e
            apply h4
            rw [ByteArray.toList_eq, ByteArray.toList_eq] at e
            exact ByteArray.ext (Array.ext' e)
          have h42 : ¬ d.toList = d2.toList := by simpa using h41
          have HQ : Hid (r = false) := HR.out.trans (by simp [h4])
          clear h4
          go_enter Try.func38, Try.ntmps38
          go_wp2
          go_ret
          exact ⟨by rw [HQ.out]; rfl, HW.out⟩
      · have h31 : ¬ ((k : Int) = (k2 : Int)) := by omega
        have h32 : ((k : Int) == (k2 : Int)) = false := by simp; omega
        have HQ : Hid (r = false) := HR.out.trans (by simp [h3])
        clear h3
        go_enter Try.func38, Try.ntmps38
        go_wp2
        go_ret
        exact ⟨by rw [HQ.out]; rfl, HW.out⟩
    · have h21 : ¬ ((t : Int) = (t2 : Int)) := by omega
      have h22 : ((t : Int) == (t2 : Int)) = false := by simp; omega
      have HQ : Hid (r = false) := HR.out.trans (by simp [h2])
      clear h2
      go_enter Try.func38, Try.ntmps38
      go_wp2
      go_ret
      exact ⟨by rw [HQ.out]; rfl, HW.out⟩
  · have h11 : ¬ ((i : Int) = (i2 : Int)) := by omega
    have h12 : ((i : Int) == (i2 : Int)) = false := by simp; omega
    have HQ : Hid (r = false) := HR.out.trans (by simp [h1])
    clear h1
    go_enter Try.func38, Try.ntmps38
    go_wp2
    go_ret
    exact ⟨by rw [HQ.out]; rfl, HW.out⟩
set_option maxHeartbeats 4000000 in
theorem same_ents (a : Option Addr) (c : Nat) (l : List En) (a2 : Option Addr) (c2 : Nat) (m : List En) (w : World) {A A2 : Nat} (h : Sl w A w.heap.size a c l) (h2 : Sl w A2 w.heap.size a2 c2 m) :
    Calls Try.prog 16 #[.slice a l.length c, .slice a2 m.length c2] w fun e w' => e = .returned (.bool (sameL l m)) ∧ Below w.heap.size w w' := by
  by_cases hn : l.length = m.length
  · have HD0 := Lib.hid (fun k hk hj => ents_ne (l := l) (m := m) k hk hj)
    have HD1 := Lib.hid (fun ht => ents_all (l := l) (m := m) hn ht)
    generalize sameL l m = r at *
    have hn1 : (l.length : Int) = (m.length : Int) := by omega
    have hn2 : ((l.length : Int) != (m.length : Int)) = false := by simp; omega
    have HN := Lib.hid hn
    have HLN := h.len
    have HS := Lib.hid h
    have HS2 := Lib.hid h2
    clear hn h h2
    go_enter Try.func16, Try.ntmps16
    go_wp2
    go_loopg [13] l.length (fun gg i wx => ∃ k : Nat, k + gg = l.length ∧ i = .int .i64 k ∧ Below w.heap.size w wx ∧ Aside (l.take k = m.take k))
    case atStart => exact ⟨0, by omega, rfl, Below.refl _ _, (by rw [List.take_zero, List.take_zero] : l.take 0 = m.take 0)⟩
    case round =>
      obtain ⟨k, hkg, rfl, hbx, HA⟩ := hrel
      cases gk with
      | zero =>
        obtain rfl : k = l.length := by omega
        clear hkg
        have HT := Lib.hid (HD1.out HA.out)
        go_wp2
        go_ret
        exact ⟨by rw [HT.out]; rfl, hbx⟩
      | succ gg =>
        have hk1 : k < l.length := by omega
        have hk2 : k < m.length := by have := HN.out; omega
        have hlt : (k : Int) < (l.length : Int) := by omega
        have hlt2 : (k : Int) < (m.length : Int) := by omega
        have hk0 : (0 : Int) ≤ (k : Int) := by omega
        obtain ⟨b, off, rfl, -, hb, u, hc⟩ := (HS.out.keep hbx).at k hk1
        obtain ⟨b2, off2, rfl, -, hb2, u2, hc2⟩ := (HS2.out.keep hbx).at k hk2
        have HB := Lib.hid hbx
        have HT := Lib.hid (show l[k] = m[k] → l.take (k + 1) = m.take (k + 1) from fun e => by rw [List.take_add_one, List.take_add_one, HA.out, List.getElem?_eq_getElem hk1, List.getElem?_eq_getElem hk2, e])
        have HF := Lib.hid (HD0.out k hk1 hk2)
        have hu1 := (HS.out.at k hk1)
        have hu2 := (HS2.out.at k hk2)
        have tk : IntKind.i64.wrap ((k : Int) + 1) = (k : Int) + 1 := by rw [IntKind.wrap_i64]; omega
        have HK := Lib.hid hkg
        clear HA hkg hu1 hu2
        generalize l[k] = e at *
        generalize m[k] = f at *
        rcases e with ⟨ei, et, ek, ed, es⟩
        rcases f with ⟨fi, ft, fk, fd, fs⟩
        obtain ⟨c0, c1, c2', c3, c4, iv, -, -⟩ := hc
        obtain ⟨d0, d1, d2, d3, d4, jv, -, -⟩ := hc2
        simp only at c0 c1 c2' c3 c4 d0 d1 d2 d3 d4 iv jv
        obtain ⟨ea, ec, rfl⟩ := iv.slice
        obtain ⟨fa, fc, rfl⟩ := jv.slice
        have HB1 := Lib.hid hb
        have HB2 := Lib.hid hb2
        have HZ := Lib.hid hbx.size
        have IV := Lib.hid iv
        have JV := Lib.hid jv
        have K1 : Hid (∀ z, Below wr.heap.size wr z → Calls Try.prog 38 #[.agg #[.int .u64 (ei : Nat), .int .u64 (et : Nat), .int .u8 (ek : Nat), .string ed, .slice ea es.length ec], .agg #[.int .u64 (fi : Nat), .int .u64 (ft : Nat), .int .u8 (fk : Nat), .string fd, .slice fa fs.length fc]] z fun e z' => e = .returned (.bool (sameE ⟨ei, et, ek, ed, es⟩ ⟨fi, ft, fk, fd, fs⟩)) ∧ Below z.heap.size z z') := fun z hz => same_entry _ _ _ _ _ _ _ _ _ _ _ _ z ((IV.out.keep (hz.mono HZ.out)).more (Nat.le_trans HZ.out hz.size) (Nat.le_refl _)) ((JV.out.keep (hz.mono HZ.out)).more (Nat.le_trans HZ.out hz.size) (Nat.le_refl _))
        have KD : Hid ((fun z => z.cell? ⟨b, off + k * 5, none⟩ = some (.int .u64 (ei : Nat)) ∧ z.cell? ⟨b, off + k * 5 + 1, none⟩ = some (.int .u64 (et : Nat)) ∧ z.cell? ⟨b, off + k * 5 + 2, none⟩ = some (.int .u8 (ek : Nat)) ∧ z.cell? ⟨b, off + k * 5 + 3, none⟩ = some (.string ed) ∧ z.cell? ⟨b, off + k * 5 + 4, none⟩ = some (.slice ea es.length ec) ∧ z.cell? ⟨b2, off2 + k * 5, none⟩ = some (.int .u64 (fi : Nat)) ∧ z.cell? ⟨b2, off2 + k * 5 + 1, none⟩ = some (.int .u64 (ft : Nat)) ∧ z.cell? ⟨b2, off2 + k * 5 + 2, none⟩ = some (.int .u8 (fk : Nat)) ∧ z.cell? ⟨b2, off2 + k * 5 + 3, none⟩ = some (.string fd) ∧ z.cell? ⟨b2, off2 + k * 5 + 4, none⟩ = some (.slice fa fs.length fc) ∧ Hid (Below wr.heap.size wr z)) wr.drew) := ⟨c0, c1, c2', c3, c4, d0, d1, d2, d3, d4, (Below.refl _ _).drew⟩
        have K2 : Hid (∀ z, (fun z => z.cell? ⟨b, off + k * 5, none⟩ = some (.int .u64 (ei : Nat)) ∧ z.cell? ⟨b, off + k * 5 + 1, none⟩ = some (.int .u64 (et : Nat)) ∧ z.cell? ⟨b, off + k * 5 + 2, none⟩ = some (.int .u8 (ek : Nat)) ∧ z.cell? ⟨b, off + k * 5 + 3, none⟩ = some (.string ed) ∧ z.cell? ⟨b, off + k * 5 + 4, none⟩ = some (.slice ea es.length ec) ∧ z.cell? ⟨b2, off2 + k * 5, none⟩ = some (.int .u64 (fi : Nat)) ∧ z.cell? ⟨b2, off2 + k * 5 + 1, none⟩ = some (.int .u64 (ft : Nat)) ∧ z.cell? ⟨b2, off2 + k * 5 + 2, none⟩ = some (.int .u8 (fk : Nat)) ∧ z.cell? ⟨b2, off2 + k * 5 + 3, none⟩ = some (.string fd) ∧ z.cell? ⟨b2, off2 + k * 5 + 4, none⟩ = some (.slice fa fs.length fc) ∧ Hid (Below wr.heap.size wr z)) z → Calls Try.prog 38 #[.agg #[.int .u64 (ei : Nat), .int .u64 (et : Nat), .int .u8 (ek : Nat), .string ed, .slice ea es.length ec], .agg #[.int .u64 (fi : Nat), .int .u64 (ft : Nat), .int .u8 (fk : Nat), .string fd, .slice fa fs.length fc]] z fun e z' => e = .returned (.bool (sameE ⟨ei, et, ek, ed, es⟩ ⟨fi, ft, fk, fd, fs⟩)) ∧ (fun z => z.cell? ⟨b, off + k * 5, none⟩ = some (.int .u64 (ei : Nat)) ∧ z.cell? ⟨b, off + k * 5 + 1, none⟩ = some (.int .u64 (et : Nat)) ∧ z.cell? ⟨b, off + k * 5 + 2, none⟩ = some (.int .u8 (ek : Nat)) ∧ z.cell? ⟨b, off + k * 5 + 3, none⟩ = some (.string ed) ∧ z.cell? ⟨b, off + k * 5 + 4, none⟩ = some (.slice ea es.length ec) ∧ z.cell? ⟨b2, off2 + k * 5, none⟩ = some (.int .u64 (fi : Nat)) ∧ z.cell? ⟨b2, off2 + k * 5 + 1, none⟩ = some (.int .u64 (ft : Nat)) ∧ z.cell? ⟨b2, off2 + k * 5 + 2, none⟩ = some (.int .u8 (fk : Nat)) ∧ z.cell? ⟨b2, off2 + k * 5 + 3, none⟩ = some (.string fd) ∧ z.cell? ⟨b2, off2 + k * 5 + 4, none⟩ = some (.slice fa fs.length fc) ∧ Hid (Below wr.heap.size wr z)) z') := by
          intro z ⟨a0, a1, a2, a3, a4, a5, a6, a7, a8, a9, hS⟩
          refine (K1.out z hS.out).mono ?_
          rintro e z' ⟨he, hb'⟩
          have h1 : b < z.heap.size := Nat.lt_of_lt_of_le HB1.out (Nat.le_trans HZ.out hS.out.size)
          have h2 : b2 < z.heap.size := Nat.lt_of_lt_of_le HB2.out (Nat.le_trans HZ.out hS.out.size)
          exact ⟨he, (hb'.cell (by exact h1)).trans a0, (hb'.cell (by exact h1)).trans a1, (hb'.cell (by exact h1)).trans a2, (hb'.cell (by exact h1)).trans a3, (hb'.cell (by exact h1)).trans a4, (hb'.cell (by exact h2)).trans a5, (hb'.cell (by exact h2)).trans a6, (hb'.cell (by exact h2)).trans a7, (hb'.cell (by exact h2)).trans a8, (hb'.cell (by exact h2)).trans a9, hS.out.trans (hb'.mono hS.out.size)⟩
        have KB : Hid (∀ z, (fun z => z.cell? ⟨b, off + k * 5, none⟩ = some (.int .u64 (ei : Nat)) ∧ z.cell? ⟨b, off + k * 5 + 1, none⟩ = some (.int .u64 (et : Nat)) ∧ z.cell? ⟨b, off + k * 5 + 2, none⟩ = some (.int .u8 (ek : Nat)) ∧ z.cell? ⟨b, off + k * 5 + 3, none⟩ = some (.string ed) ∧ z.cell? ⟨b, off + k * 5 + 4, none⟩ = some (.slice ea es.length ec) ∧ z.cell? ⟨b2, off2 + k * 5, none⟩ = some (.int .u64 (fi : Nat)) ∧ z.cell? ⟨b2, off2 + k * 5 + 1, none⟩ = some (.int .u64 (ft : Nat)) ∧ z.cell? ⟨b2, off2 + k * 5 + 2, none⟩ = some (.int .u8 (fk : Nat)) ∧ z.cell? ⟨b2, off2 + k * 5 + 3, none⟩ = some (.string fd) ∧ z.cell? ⟨b2, off2 + k * 5 + 4, none⟩ = some (.slice fa fs.length fc) ∧ Hid (Below wr.heap.size wr z)) z → Below w.heap.size w z) := fun z h => HB.out.trans (h.2.2.2.2.2.2.2.2.2.2.out.mono HZ.out)
        clear hbx iv jv K1 c0 c1 c2' c3 c4 d0 d1 d2 d3 d4
        cases hq : sameE ⟨ei, et, ek, ed, es⟩ ⟨fi, ft, fk, fd, fs⟩
        · rw [hq] at K2
          have HE := Lib.hid (HF.out hq)
          clear hq HT HF
          go_wp2
          go_region_held3 (fun z => z.cell? ⟨b, off + k * 5, none⟩ = some (.int .u64 (ei : Nat)) ∧ z.cell? ⟨b, off + k * 5 + 1, none⟩ = some (.int .u64 (et : Nat)) ∧ z.cell? ⟨b, off + k * 5 + 2, none⟩ = some (.int .u8 (ek : Nat)) ∧ z.cell? ⟨b, off + k * 5 + 3, none⟩ = some (.string ed) ∧ z.cell? ⟨b, off + k * 5 + 4, none⟩ = some (.slice ea es.length ec) ∧ z.cell? ⟨b2, off2 + k * 5, none⟩ = some (.int .u64 (fi : Nat)) ∧ z.cell? ⟨b2, off2 + k * 5 + 1, none⟩ = some (.int .u64 (ft : Nat)) ∧ z.cell? ⟨b2, off2 + k * 5 + 2, none⟩ = some (.int .u8 (fk : Nat)) ∧ z.cell? ⟨b2, off2 + k * 5 + 3, none⟩ = some (.string fd) ∧ z.cell? ⟨b2, off2 + k * 5 + 4, none⟩ = some (.slice fa fs.length fc) ∧ Hid (Below wr.heap.size wr z)) (first | assumption | exact KD.out)
            (first
              | (go_at_call 38; go_loud ((with_reducible refine (K2.out _ ?_).mono ?_); assumption; rintro e w7 ⟨rfl, hS⟩)))
          all_goals
            go_wp2
            go_ret
            exact ⟨by rw [HE.out]; rfl, KB.out _ hS⟩
        · rw [hq] at K2
          have HE := Lib.hid (HT.out (sameE_iff.1 hq))
          clear hq HT HF
          go_wp2
          go_region_held3 (fun z => z.cell? ⟨b, off + k * 5, none⟩ = some (.int .u64 (ei : Nat)) ∧ z.cell? ⟨b, off + k * 5 + 1, none⟩ = some (.int .u64 (et : Nat)) ∧ z.cell? ⟨b, off + k * 5 + 2, none⟩ = some (.int .u8 (ek : Nat)) ∧ z.cell? ⟨b, off + k * 5 + 3, none⟩ = some (.string ed) ∧ z.cell? ⟨b, off + k * 5 + 4, none⟩ = some (.slice ea es.length ec) ∧ z.cell? ⟨b2, off2 + k * 5, none⟩ = some (.int .u64 (fi : Nat)) ∧ z.cell? ⟨b2, off2 + k * 5 + 1, none⟩ = some (.int .u64 (ft : Nat)) ∧ z.cell? ⟨b2, off2 + k * 5 + 2, none⟩ = some (.int .u8 (fk : Nat)) ∧ z.cell? ⟨b2, off2 + k * 5 + 3, none⟩ = some (.string fd) ∧ z.cell? ⟨b2, off2 + k * 5 + 4, none⟩ = some (.slice fa fs.length fc) ∧ Hid (Below wr.heap.size wr z)) (first | assumption | exact KD.out)
            (first
              | (go_at_call 38; go_loud ((with_reducible refine (K2.out _ ?_).mono ?_); assumption; rintro e w7 ⟨rfl, hS⟩)))
          all_goals
            have HBF := Lib.hid (KB.out _ hS)
            clear hS
            go_wp2
            go_roundg gg
            case measure => omega
            case rel => exact ⟨k + 1, by have := HK.out; omega, by simp, HBF.out, HE.out⟩
  · have HF : Hid (sameL l m = false) := sameL_no (fun e => hn (by rw [e]))
    generalize sameL l m = r at *
    have hn1 : ¬ (l.length : Int) = (m.length : Int) := by omega
    have hn2 : ((l.length : Int) != (m.length : Int)) = true := by simp; omega
    clear hn
    go_enter Try.func16, Try.ntmps16
    go_wp2
    go_ret
    exact ⟨by rw [HF.out]; rfl, Below.refl _ _⟩
def sameG (b t : Nat) (l : List En) (b2 t2 : Nat) (m : List En) : Bool := decide (b = b2) && decide (t = t2) && sameL l m
theorem sameG_self (b t : Nat) (l : List En) : sameG b t l b t l = true := by unfold sameG; rw [sameL_self]; simp
set_option maxHeartbeats 2000000 in
theorem same_log (b t : Nat) (a : Option Addr) (c : Nat) (l : List En) (b2 t2 : Nat) (a2 : Option Addr) (c2 : Nat) (m : List En) (w : World) {A A2 : Nat} (h : Sl w A w.heap.size a c l) (h2 : Sl w A2 w.heap.size a2 c2 m) :
    Calls Try.prog 30 #[.agg #[.int .u64 (b : Nat), .int .u64 (t : Nat), .slice a l.length c], .agg #[.int .u64 (b2 : Nat), .int .u64 (t2 : Nat), .slice a2 m.length c2]] w fun e w' => e = .returned (.bool (sameG b t l b2 t2 m)) ∧ Below w.heap.size w w' := by
  have hW : Below w.heap.size w ((w.alloc (.cells #[.int .u64 (b : Nat), .int .u64 (t : Nat), .slice a l.length c] 25)).alloc (.cells #[.int .u64 (b2 : Nat), .int .u64 (t2 : Nat), .slice a2 m.length c2] 25)) := ((Below.refl _ _).alloc (Nat.le_refl _) _).alloc (by simp) _
  have HCI := Lib.hid (same_ents a c l a2 c2 m _ ((h.keep hW).more hW.size (Nat.le_refl _)) ((h2.keep hW).more hW.size (Nat.le_refl _)))
  have HR : Hid (sameG b t l b2 t2 m = (decide (b = b2) && decide (t = t2) && sameL l m)) := rfl
  generalize sameG b t l b2 t2 m = r at *
  generalize sameL l m = q at *
  have HW := Lib.hid hW
  clear hW h h2
  by_cases h1 : b = b2
  · subst h1
    by_cases h2 : t = t2
    · subst h2
      have HQ : Hid (r = q) := HR.out.trans (by simp)
      go_enter Try.func30, Try.ntmps30
      go_wp2_with (go_at_call 16; go_loud ((with_reducible refine HCI.out.mono ?_); rintro e w1 ⟨rfl, hb⟩; have HB := Lib.hid (HW.out.trans (hb.mono HW.out.size)); clear hb))
      go_wp2
      go_ret
      exact ⟨by rw [HQ.out]; rfl, HB.out⟩
    · have h21 : ¬ ((t : Int) = (t2 : Int)) := by omega
      have h22 : ((t : Int) == (t2 : Int)) = false := by simp; omega
      have HQ : Hid (r = false) := HR.out.trans (by simp [h2])
      clear h2
      go_enter Try.func30, Try.ntmps30
      go_wp2
      go_ret
      exact ⟨by rw [HQ.out]; rfl, HW.out⟩
  · have h11 : ¬ ((b : Int) = (b2 : Int)) := by omega
    have h12 : ((b : Int) == (b2 : Int)) = false := by simp; omega
    have HQ : Hid (r = false) := HR.out.trans (by simp [h1])
    clear h1
    go_enter Try.func30, Try.ntmps30
    go_wp2
    go_ret
    exact ⟨by rw [HQ.out]; rfl, HW.out⟩
end Lo
end Go.Proofs.Ytjalmciaaenmjaa
