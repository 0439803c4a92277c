/-
  WHICH LOGS ARE RIGHT: log.inRow, fall, Check.
-/
import Derived.Test.YtjalmciaaenmjaaLogChk
namespace Go.Proofs.Ytjalmciaaenmjaa
open Go.RowKit
namespace Lo
theorem wrap_nx (x : Nat) : IntKind.u64.wrap ((x : Int) + 1) = (nx x : Nat) := by rw [IntKind.wrap_u64]; unfold nx; omega
set_option maxHeartbeats 2000000 in
theorem in_row (x : Nat) (a : Option Addr) (c : Nat) (l : List En) (w : World) {A : Nat} (h : Sl w A w.heap.size a c l) :
    Calls Try.prog 41 #[.int .u64 (x : Nat), .slice a l.length c] w fun e w' => e = .returned (.bool (rowB x l)) ∧ Below w.heap.size w w' := by
  obtain ⟨r, hr⟩ : ∃ r, r = rowB x l := ⟨_, rfl⟩
  rw [← hr]
  have HR := Lib.hid hr
  have HS := Lib.hid h
  clear hr h
  go_enter Try.func41, Try.ntmps41
  go_wp2
  go_loopg [0, 9] l.length (fun gg xv i wx => ∃ (k : Nat) (y : Nat), k + gg = l.length ∧ xv = .int .u64 (y : Nat) ∧ i = .int .i64 k ∧ Aside (Below w.heap.size w wx) ∧ Aside (rowB x l = rowB y (l.drop k)))
  case atStart => exact ⟨0, x, by omega, rfl, rfl, Below.refl _ _, rfl⟩
  case round =>
    obtain ⟨k, y, hkg, rfl, rfl, HB, HA⟩ := hrel
    cases gk with
    | zero =>
      obtain rfl : k = l.length := by omega
      have HE : Hid (r = true) := HR.out.trans (by rw [HA.out, List.drop_length]; rfl)
      clear hkg HR HA
      go_wp2
      go_ret
      exact ⟨by rw [HE.out]; rfl, HB.out⟩
    | succ gg =>
      have hlt : k < l.length := by omega
      have hlt2 : (k : Int) < (l.length : Int) := by omega
      have hbx := HB.out
      obtain ⟨b, off, rfl, hA, hb, u, hc⟩ := (HS.out.keep hbx).at k hlt
      obtain ⟨c0, c1, c2, c3, c4, iv, i64, t64⟩ := hc
      obtain ⟨ua, uc, rfl⟩ := iv.slice
      have HK := Lib.hid hkg
      have HM := Lib.hid (rowB_at l k hlt y)
      have IV := Lib.hid iv
      have hz := hbx.size
      have tk2 : IntKind.i64.wrap ((k : Int) + 1) = (k : Int) + 1 := by have := HS.out.len; rw [IntKind.wrap_i64]; omega
      clear iv i64 t64 hkg hbx
      have HW := Lib.hid (wrap_nx y)
      have tk : IntKind.u64.wrap ((y : Int) + 1) = (nx y : Nat) := HW.out
      generalize hq : nx y = z at *
      clear hq HW
      generalize hq : l[k] = e at *
      clear hq
      rcases e with ⟨ei, et, ek, ed, eks⟩
      simp only at c0 c1 c2 c3 c4 HM IV
      have hB1 : Below wr.heap.size wr (wr.alloc (.cells #[.int .u64 (ei : Nat), .int .u64 (et : Nat), .int .u8 (ek : Nat), .string ed, .slice ua eks.length uc] 53)) := (Below.refl _ _).alloc (Nat.le_refl _) _
      have HC := Lib.hid (entry_check ei et ek ed eks (.slice ua eks.length uc) _ (((IV.out.more hz (Nat.zero_le _)).keep hB1).more hB1.size (Nat.le_refl _)))
      have HB1 := Lib.hid (HB.out.trans (hB1.mono hz))
      clear hB1
      by_cases h1 : ei = z
      · subst h1
        cases h2 : enB ⟨ei, et, ek, ed, eks⟩
        · have HE : Hid (r = false) := HR.out.trans (by rw [HA.out, HM.out, if_pos rfl, h2]; rfl)
          rw [h2] at HC
          clear h2 HM HR HA
          go_wp2_with (go_at_call 49; go_loud ((with_reducible refine HC.out.mono ?_); rintro e w1 ⟨rfl, hb1⟩; have HB2 := Lib.hid (HB1.out.trans (hb1.mono HB1.out.size)); clear hb1))
          go_wp2
          go_ret
          exact ⟨by rw [HE.out]; rfl, HB2.out⟩
        · have HE : Hid (rowB x l = rowB ei (l.drop (k + 1))) := by show _ = _; rw [HA.out, HM.out, if_pos rfl, h2]; rfl
          rw [h2] at HC
          clear h2 HM HR HA
          go_wp2_with (go_at_call 49; go_loud ((with_reducible refine HC.out.mono ?_); rintro e w1 ⟨rfl, hb1⟩; have HB2 := Lib.hid (HB1.out.trans (hb1.mono HB1.out.size)); clear hb1))
          go_wp2
          go_roundg gg
          case measure => omega
          case rel => exact ⟨k + 1, ei, by have := HK.out; omega, rfl, by simp, HB2.out, HE.out⟩
      · have HE : Hid (r = false) := HR.out.trans (by rw [HA.out, HM.out, if_neg h1])
        have h1' : ¬ (ei : Int) = (z : Int) := by omega
        have h1'' : ((ei : Int) != (z : Int)) = true := by simp; omega
        clear h1 HM HR HA HC
        go_wp2
        go_ret
        exact ⟨by rw [HE.out]; rfl, HB1.out⟩
set_option maxHeartbeats 2000000 in
theorem fall_any (x : Nat) (a : Option Addr) (c : Nat) (l : List En) (w : World) {A : Nat} (h : Sl w A w.heap.size a c l) :
    Calls Try.prog 42 #[.int .u64 (x : Nat), .slice a l.length c] w fun e w' => e = .returned (.bool (fallB x l)) ∧ Below w.heap.size w w' := by
  obtain ⟨r, hr⟩ : ∃ r, r = fallB x l := ⟨_, rfl⟩
  rw [← hr]
  have HR := Lib.hid hr
  have HS := Lib.hid h
  clear hr h
  go_enter Try.func42, Try.ntmps42
  go_wp2
  go_loopg [0, 9] l.length (fun gg xv i wx => ∃ (k : Nat) (y : Nat), k + gg = l.length ∧ xv = .int .u64 (y : Nat) ∧ i = .int .i64 k ∧ Aside (Below w.heap.size w wx) ∧ Aside (fallB x l = fallB y (l.drop k)))
  case atStart => exact ⟨0, x, by omega, rfl, rfl, Below.refl _ _, rfl⟩
  case round =>
    obtain ⟨k, y, hkg, rfl, rfl, HB, HA⟩ := hrel
    cases gk with
    | zero =>
      obtain rfl : k = l.length := by omega
      have HE : Hid (r = false) := HR.out.trans (by rw [HA.out, List.drop_length]; rfl)
      clear hkg HR HA
      go_wp2
      go_ret
      exact ⟨by rw [HE.out]; rfl, HB.out⟩
    | succ gg =>
      have hlt : k < l.length := by omega
      have hlt2 : (k : Int) < (l.length : Int) := by omega
      have hbx := HB.out
      obtain ⟨b, off, rfl, hA, hb, u, hc⟩ := (HS.out.keep hbx).at k hlt
      obtain ⟨c0, c1, c2, c3, c4, iv, i64, t64⟩ := hc
      obtain ⟨ua, uc, rfl⟩ := iv.slice
      have HK := Lib.hid hkg
      have HM := Lib.hid (fallB_at l k hlt y)
      have IV := Lib.hid iv
      have hz := hbx.size
      have tk2 : IntKind.i64.wrap ((k : Int) + 1) = (k : Int) + 1 := by have := HS.out.len; rw [IntKind.wrap_i64]; omega
      clear iv i64 t64 hkg hbx
      generalize hq : l[k] = e at *
      clear hq
      rcases e with ⟨ei, et, ek, ed, eks⟩
      simp only at c0 c1 c2 c3 c4 HM IV
      have HB1 := Lib.hid (HB.out.trans ((((Below.refl _ _).alloc (Nat.le_refl _) (.cells #[.int .u64 (ei : Nat), .int .u64 (et : Nat), .int .u8 (ek : Nat), .string ed, .slice ua eks.length uc] 53)) : Below wr.heap.size wr _).mono hz))
      by_cases h1 : et < y
      · have HE : Hid (r = true) := HR.out.trans (by rw [HA.out, HM.out, if_pos h1])
        have h1' : (et : Int) < (y : Int) := by omega
        clear HM HR HA
        go_wp2
        go_ret
        exact ⟨by rw [HE.out]; rfl, HB1.out⟩
      · have HE : Hid (fallB x l = fallB et (l.drop (k + 1))) := by show _ = _; rw [HA.out, HM.out, if_neg h1]
        have h1' : ¬ (et : Int) < (y : Int) := by omega
        have h1'' : decide (et < y) = false := by simpa using h1
        have h1x : decide ((et : Int) < (y : Int)) = false := by simpa using h1'
        clear HM HR HA
        go_wp2
        go_roundg gg
        case measure => omega
        case rel => exact ⟨k + 1, et, by have := HK.out; omega, rfl, by simp, HB1.out, HE.out⟩
set_option maxHeartbeats 4000000 in
theorem log_check (b t : Nat) (a : Option Addr) (c : Nat) (l : List En) (w : World) {A : Nat} (h : Sl w A w.heap.size a c l) :
    Calls Try.prog 22 #[.agg #[.int .u64 (b : Nat), .int .u64 (t : Nat), .slice a l.length c]] w fun e w' => e = .returned (.int .i64 (if okB b t l = true then 0 else 10)) ∧ Below w.heap.size w w' := by
  have hB : Below w.heap.size w (w.alloc (.cells #[.int .u64 (b : Nat), .int .u64 (t : Nat), .slice a l.length c] 25)) := (Below.refl _ _).alloc (Nat.le_refl _) _
  have HI := Lib.hid (in_row b a c l _ (h.on hB))
  have HF0 := Lib.hid (fun w1 (hb : Below _ _ w1) => fall_any t a c l w1 ((h.on hB).on hb))
  have HB := Lib.hid hB
  clear hB h
  by_cases h1 : b = 0
  · subst h1
    by_cases h2 : t = 0
    · subst h2
      simp only [show ((0 : Nat) : Int) = 0 from rfl] at HI HF0 HB ⊢
      cases h3 : rowB 0 l
      · rw [h3] at HI
        have HE : Hid (okB 0 0 l = false) := by show _ = _; unfold okB; rw [h3]; simp
        rw [HE.out]
        clear h3
        go_enter Try.func22, Try.ntmps22
        go_wp2_with (go_at_call 41; go_loud ((with_reducible refine HI.out.mono ?_); rintro e w1 ⟨rfl, hb1⟩; have hz1 := hb1.size; have d1 := hb1.cell (p := ⟨w.heap.size, 1, none⟩) (by simp); have d2 := hb1.cell (p := ⟨w.heap.size, 2, none⟩) (by simp); simp [go_sem] at d1 d2; have HF := Lib.hid (HF0.out w1 hb1); have HB1 := Lib.hid (HB.out.trans (hb1.mono HB.out.size)); clear hb1))
        go_wp2
        go_ret
        exact ⟨rfl, HB1.out⟩
      · rw [h3] at HI
        cases h4 : fallB 0 l
        · have HE : Hid (okB 0 0 l = true) := by show _ = _; unfold okB; rw [h3, h4]; simp []
          rw [HE.out]
          rw [h4] at HF0
          clear h3 h4
          go_enter Try.func22, Try.ntmps22
          go_wp2_with (go_at_call 41; go_loud ((with_reducible refine HI.out.mono ?_); rintro e w1 ⟨rfl, hb1⟩; have hz1 := hb1.size; have d1 := hb1.cell (p := ⟨w.heap.size, 1, none⟩) (by simp); have d2 := hb1.cell (p := ⟨w.heap.size, 2, none⟩) (by simp); simp [go_sem] at d1 d2; have HF := Lib.hid (HF0.out w1 hb1); have HB1 := Lib.hid (HB.out.trans (hb1.mono HB.out.size)); clear hb1))
          go_wp2_with (go_at_call 42; go_loud ((with_reducible refine HF.out.mono ?_); rintro e w2 ⟨rfl, hb2⟩; have HB2 := Lib.hid (HB1.out.trans (hb2.mono HB1.out.size)); clear hb2))
          go_wp2
          go_ret
          exact ⟨rfl, HB2.out⟩
        · have HE : Hid (okB 0 0 l = false) := by show _ = _; unfold okB; rw [h3, h4]; simp
          rw [HE.out]
          rw [h4] at HF0
          clear h3 h4
          go_enter Try.func22, Try.ntmps22
          go_wp2_with (go_at_call 41; go_loud ((with_reducible refine HI.out.mono ?_); rintro e w1 ⟨rfl, hb1⟩; have hz1 := hb1.size; have d1 := hb1.cell (p := ⟨w.heap.size, 1, none⟩) (by simp); have d2 := hb1.cell (p := ⟨w.heap.size, 2, none⟩) (by simp); simp [go_sem] at d1 d2; have HF := Lib.hid (HF0.out w1 hb1); have HB1 := Lib.hid (HB.out.trans (hb1.mono HB.out.size)); clear hb1))
          go_wp2_with (go_at_call 42; go_loud ((with_reducible refine HF.out.mono ?_); rintro e w2 ⟨rfl, hb2⟩; have HB2 := Lib.hid (HB1.out.trans (hb2.mono HB1.out.size)); clear hb2))
          go_wp2
          go_ret
          exact ⟨rfl, HB2.out⟩
    · have HE : Hid (okB 0 t l = false) := by show _ = _; unfold okB; simp [h2]
      rw [HE.out]
      have h2' : ¬ (t : Int) = 0 := by omega
      have h2'' : ((t : Int) != 0) = true := by simp; omega
      clear h2 HI HF0
      simp only [show ((0 : Nat) : Int) = 0 from rfl] at HB ⊢
      go_enter Try.func22, Try.ntmps22
      go_wp2
      go_ret
      exact ⟨rfl, HB.out⟩
  · have h1' : ¬ (b : Int) = 0 := by omega
    have h1'' : ((b : Int) == 0) = false := by simp; omega
    cases h3 : rowB b l
    · rw [h3] at HI
      have HE : Hid (okB b t l = false) := by show _ = _; unfold okB; rw [h3]; simp
      rw [HE.out]
      clear h3
      go_enter Try.func22, Try.ntmps22
      go_wp2_with (go_at_call 41; go_loud ((with_reducible refine HI.out.mono ?_); rintro e w1 ⟨rfl, hb1⟩; have hz1 := hb1.size; have d1 := hb1.cell (p := ⟨w.heap.size, 1, none⟩) (by simp); have d2 := hb1.cell (p := ⟨w.heap.size, 2, none⟩) (by simp); simp [go_sem] at d1 d2; have HF := Lib.hid (HF0.out w1 hb1); have HB1 := Lib.hid (HB.out.trans (hb1.mono HB.out.size)); clear hb1))
      go_wp2
      go_ret
      exact ⟨rfl, HB1.out⟩
    · rw [h3] at HI
      cases h4 : fallB t l
      · have HE : Hid (okB b t l = true) := by show _ = _; unfold okB; rw [h3, h4]; simp [h1]
        rw [HE.out]
        rw [h4] at HF0
        clear h3 h4
        go_enter Try.func22, Try.ntmps22
        go_wp2_with (go_at_call 41; go_loud ((with_reducible refine HI.out.mono ?_); rintro e w1 ⟨rfl, hb1⟩; have hz1 := hb1.size; have d1 := hb1.cell (p := ⟨w.heap.size, 1, none⟩) (by simp); have d2 := hb1.cell (p := ⟨w.heap.size, 2, none⟩) (by simp); simp [go_sem] at d1 d2; have HF := Lib.hid (HF0.out w1 hb1); have HB1 := Lib.hid (HB.out.trans (hb1.mono HB.out.size)); clear hb1))
        go_wp2_with (go_at_call 42; go_loud ((with_reducible refine HF.out.mono ?_); rintro e w2 ⟨rfl, hb2⟩; have HB2 := Lib.hid (HB1.out.trans (hb2.mono HB1.out.size)); clear hb2))
        go_wp2
        go_ret
        exact ⟨rfl, HB2.out⟩
      · have HE : Hid (okB b t l = false) := by show _ = _; unfold okB; rw [h3, h4]; simp
        rw [HE.out]
        rw [h4] at HF0
        clear h3 h4
        go_enter Try.func22, Try.ntmps22
        go_wp2_with (go_at_call 41; go_loud ((with_reducible refine HI.out.mono ?_); rintro e w1 ⟨rfl, hb1⟩; have hz1 := hb1.size; have d1 := hb1.cell (p := ⟨w.heap.size, 1, none⟩) (by simp); have d2 := hb1.cell (p := ⟨w.heap.size, 2, none⟩) (by simp); simp [go_sem] at d1 d2; have HF := Lib.hid (HF0.out w1 hb1); have HB1 := Lib.hid (HB.out.trans (hb1.mono HB.out.size)); clear hb1))
        go_wp2_with (go_at_call 42; go_loud ((with_reducible refine HF.out.mono ?_); rintro e w2 ⟨rfl, hb2⟩; have HB2 := Lib.hid (HB1.out.trans (hb2.mono HB1.out.size)); clear hb2))
        go_wp2
        go_ret
        exact ⟨rfl, HB2.out⟩
end Lo
end Go.Proofs.Ytjalmciaaenmjaa
