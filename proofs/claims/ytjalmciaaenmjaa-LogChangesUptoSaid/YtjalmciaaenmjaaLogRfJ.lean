/-
  ENTRIES JOINED TO A LOG, as the document says it: gafferref14.Join where it refuses at once.
-/
import Derived.Test.YtjalmciaaenmjaaLogRfT
import Derived.Test.YtjalmciaaenmjaaLogJn2
namespace Go.Proofs.Ytjalmciaaenmjaa
open Go.RowKit Go.Lib
namespace Lo
set_option linter.unusedVariables false
/-- What the document's Join answers. -/
def JO (q : Nat × Nat × List En × Nat × Nat) (e : Ending) (w' : World) : Prop :=
  ∃ a c, e = .returned (.tuple #[.agg #[.int .u64 (q.1 : Nat), .int .u64 (q.2.1 : Nat), .slice a q.2.2.1.length c], .int .u64 (q.2.2.2.1 : Nat), .int .i64 (q.2.2.2.2 : Nat)]) ∧ Sl w' 0 w'.heap.size a c q.2.2.1
theorem JO.of {w' : World} {q : Nat × Nat × List En × Nat × Nat} {B T F R n : Nat} {L : List En} {a : Option Addr} {c : Nat} (hq : q = (B, T, L, F, R)) (hn : n = L.length) (h : Sl w' 0 w'.heap.size a c L) :
    JO q (.returned (.tuple #[.agg #[.int .u64 (B : Nat), .int .u64 (T : Nat), .slice a n c], .int .u64 (F : Nat), .int .i64 (R : Nat)])) w' := by
  subst hq hn
  exact ⟨a, c, rfl, h⟩
theorem JO.no {q : Nat × Nat × List En × Nat × Nat} {R : Nat} (hq : q = (0, 0, [], 0, R)) (w' : World) : JO q (.returned (.tuple #[.agg #[.int .u64 0, .int .u64 0, .slice none 0 0], .int .u64 0, .int .i64 (R : Nat)])) w' := by
  subst hq
  exact ⟨none, 0, rfl, Sl.empty _ _ _ _ _ (fun _ => rfl)⟩
set_option maxHeartbeats 16000000 in
theorem ref_join_bad (b t x u : Nat) (a : Option Addr) (c : Nat) (l : List En) (a2 : Option Addr) (c2 : Nat) (s : List En) (w : World) {A A2 : Nat} (h : Sl w A w.heap.size a c l) (h2 : Sl w A2 w.heap.size a2 c2 s) (hb : Lt64 b) (hx : Lt64 x) (hs : l.length + s.length ≤ 2199023255551) (hk : okB b t l = false) :
    Calls Try.prog 27 #[.agg #[.int .u64 (b : Nat), .int .u64 (t : Nat), .slice a l.length c], .int .u64 (x : Nat), .int .u64 (u : Nat), .slice a2 s.length c2] w fun e w' => JO (jv b t l x u s) e w' ∧ Below w.heap.size w w' := by
  have hB : Below w.heap.size w ((w.alloc (.cells #[.int .u64 (b : Nat), .int .u64 (t : Nat), .slice a l.length c] 25)).alloc (.cells #[.int .u64 0, .int .u64 0, .slice none 0 0] 25)) := ((Below.refl _ _).alloc (Nat.le_refl _) _).alloc (by simp) _
  have HB0 := Lib.hid hB
  have C0 := Lib.hid ((Bx3.made w (.int .u64 (b : Nat)) (.int .u64 (t : Nat)) (.slice a l.length c) 25).al (.cells #[.int .u64 0, .int .u64 0, .slice none 0 0] 25))
  have R0 := Lib.hid (show Bx3 ((w.alloc (.cells #[.int .u64 (b : Nat), .int .u64 (t : Nat), .slice a l.length c] 25)).alloc (.cells #[.int .u64 0, .int .u64 0, .slice none 0 0] 25)) (w.heap.size + 1) (.int .u64 0) (.int .u64 0) (.slice none 0 0) by have h9 := Bx3.made (w.alloc (.cells #[.int .u64 (b : Nat), .int .u64 (t : Nat), .slice a l.length c] 25)) (.int .u64 0) (.int .u64 0) (.slice none 0 0) 25; rw [World.size_alloc] at h9; exact h9)
  have HC := Lib.hid (check_log b t a c l _ (h.on hB) hb)
  have HP := Lib.hid (fun w' => JO.no (q := jv b t l x u s) (R := 10) (by unfold jv; rw [if_pos hk]) w')
  rw [hk, lgE_f] at HC
  clear hB h h2 hb hx hs hk
  go_enter Try.func27, Try.ntmps27
  go_wp2_with (go_at_call 23; go_loud ((with_reducible refine HC.out.mono ?_); rintro e w1 ⟨rfl, hb⟩; have HB1 := Lib.hid (HB0.out.trans (hb.mono HB0.out.size)); have HL1 := Lib.hid hb; have C1 := Lib.hid (C0.out.below hb); have R1 := Lib.hid (R0.out.below hb); obtain ⟨d10, d11, d12⟩ := C1.out.cells; obtain ⟨f10, f11, f12⟩ := C1.out.fz; obtain ⟨e10, e11, e12⟩ := R1.out.cells; obtain ⟨g10, g11, g12⟩ := R1.out.fz; clear hb))
  go_wp2
  refine bodyPost_log3 rfl (w.heap.size + 1) 0 0 (.slice none 0 0) rfl rfl ?_ ?_
  case refine_1 => exact ((R1.out.set0 _).set1 _).set2 _
  case refine_2 => exact ⟨HP.out _, ((HB1.out.setCell (by exact Nat.le_succ _) _).setCell (by exact Nat.le_succ _) _).setCell (by exact Nat.le_succ _) _⟩
theorem row_step {s : List En} {x k : Nat} (hk : k < s.length) : rowB (x + k) (s.drop k) = if s[k].i = nx (x + k) then (if enB s[k] = true then rowB (nx (x + k)) (s.drop (k + 1)) else false) else false := rowB_at s k hk (x + k)
set_option maxHeartbeats 16000000 in
theorem ref_join_row (b t x u : Nat) (a : Option Addr) (c : Nat) (l : List En) (a2 : Option Addr) (c2 : Nat) (s : List En) (w : World) {A A2 : Nat} (h : Sl w A w.heap.size a c l) (h2 : Sl w A2 w.heap.size a2 c2 s) (hb : Lt64 b) (hx : Lt64 x) (hs : l.length + s.length ≤ 2199023255551) (hk : okB b t l = true) (hr : rowB x s = false) :
    Calls Try.prog 27 #[.agg #[.int .u64 (b : Nat), .int .u64 (t : Nat), .slice a l.length c], .int .u64 (x : Nat), .int .u64 (u : Nat), .slice a2 s.length c2] w fun e w' => JO (jv b t l x u s) e w' ∧ Below w.heap.size w w' := by
  have hB : Below w.heap.size w ((w.alloc (.cells #[.int .u64 (b : Nat), .int .u64 (t : Nat), .slice a l.length c] 25)).alloc (.cells #[.int .u64 0, .int .u64 0, .slice none 0 0] 25)) := ((Below.refl _ _).alloc (Nat.le_refl _) _).alloc (by simp) _
  have HB0 := Lib.hid hB
  have C0 := Lib.hid ((Bx3.made w (.int .u64 (b : Nat)) (.int .u64 (t : Nat)) (.slice a l.length c) 25).al (.cells #[.int .u64 0, .int .u64 0, .slice none 0 0] 25))
  have R0 := Lib.hid (show Bx3 ((w.alloc (.cells #[.int .u64 (b : Nat), .int .u64 (t : Nat), .slice a l.length c] 25)).alloc (.cells #[.int .u64 0, .int .u64 0, .slice none 0 0] 25)) (w.heap.size + 1) (.int .u64 0) (.int .u64 0) (.slice none 0 0) by have h9 := Bx3.made (w.alloc (.cells #[.int .u64 (b : Nat), .int .u64 (t : Nat), .slice a l.length c] 25)) (.int .u64 0) (.int .u64 0) (.slice none 0 0) 25; rw [World.size_alloc] at h9; exact h9)
  have HC := Lib.hid (check_log b t a c l _ (h.on hB) hb)
  have HP := Lib.hid (fun w' => JO.no (q := jv b t l x u s) (R := 4) (by unfold jv; rw [if_neg (by rw [hk]; simp), if_pos hr]) w')
  have HS2 := Lib.hid (fun z (hz : Below w.heap.size w z) => h2.keep hz)
  have HLN := Lib.hid h2.len
  have HRW := Lib.hid hr
  have HX := Lib.hid hx
  rw [hk, lgE_t] at HC
  clear hB h h2 hb hx hs hk hr
  go_enter Try.func27, Try.ntmps27
  go_wp2_with (go_at_call 23; go_loud ((with_reducible refine HC.out.mono ?_); rintro e w1 ⟨rfl, hb⟩; have HB1 := Lib.hid (HB0.out.trans (hb.mono HB0.out.size)); have HL1 := Lib.hid hb; have C1 := Lib.hid (C0.out.below hb); have R1 := Lib.hid (R0.out.below hb); obtain ⟨d10, d11, d12⟩ := C1.out.cells; obtain ⟨f10, f11, f12⟩ := C1.out.fz; obtain ⟨e10, e11, e12⟩ := R1.out.cells; obtain ⟨g10, g11, g12⟩ := R1.out.fz; clear hb))
  go_wp2
  go_loopg [23] s.length (fun gg i wx => ∃ k : Nat, k + gg = s.length ∧ i = .int .i64 k ∧ Aside (Below w1.heap.size w1 wx) ∧ Aside (rowB (x + k) (s.drop k) = false ∧ x + k < 18446744073709551616))
  case atStart => exact ⟨0, by omega, rfl, Below.refl _ _, (by simpa using HRW.out), HX.out⟩
  case round =>
    obtain ⟨k, hkg, rfl, HBW, HA⟩ := hrel
    cases gk with
    | zero =>
      obtain rfl : k = s.length := by omega
      exfalso
      have := HA.out.1
      rw [List.drop_length] at this
      cases this
    | succ gg =>
      have hlt : k < s.length := by omega
      have hlt2 : (k : Int) < (s.length : Int) := by omega
      have hbx := HBW.out
      obtain ⟨blk, off, rfl, -, hbk, ue, hc⟩ := (HS2.out _ (HB1.out.trans (hbx.mono HB1.out.size))).at k hlt
      obtain ⟨c0, c1, c2', c3', c4, iv, i64, t64⟩ := hc
      obtain ⟨ua, uc, rfl⟩ := iv.slice
      have HK := Lib.hid hkg
      have IV := Lib.hid iv
      have I64 := Lib.hid i64
      have tk : IntKind.i64.wrap ((k : Int) + 1) = (k : Int) + 1 := by have := HLN.out; rw [IntKind.wrap_i64]; omega
      have tku : IntKind.u64.wrap (k : Int) = (k : Int) := by have := HLN.out; rw [IntKind.wrap_u64]; omega
      have HM := Lib.hid (row_step (x := x) hlt)
      clear hkg hbx iv i64 t64
      generalize s[k] = e at *
      rcases e with ⟨ei, et, ek, ed, eks⟩
      simp only at c0 c1 c2' c3' c4 HM IV I64
      have ha : Below wr.heap.size wr (wr.alloc (.cells #[.int .u64 (ei : Nat), .int .u64 (et : Nat), .int .u8 (ek : Nat), .string ed, .slice ua eks.length uc] 53)) := ((Below.refl _ _).alloc (Nat.le_refl _) _)
      have HZ := HBW.out.size
      have HWZ : w.heap.size ≤ wr.heap.size := Nat.le_trans HB1.out.size HZ
      have HCE := Lib.hid (check_ref ei et ek ed eks (.slice ua eks.length uc) (wr.alloc (.cells #[.int .u64 (ei : Nat), .int .u64 (et : Nat), .int .u8 (ek : Nat), .string ed, .slice ua eks.length uc] 53)) (A := 0) ((IV.out.keep (ha.mono HWZ)).more (Nat.le_trans HWZ ha.size) (Nat.zero_le _)))
      have HNE : Hid (Eb (wr.alloc (.cells #[.int .u64 (ei : Nat), .int .u64 (et : Nat), .int .u8 (ek : Nat), .string ed, .slice ua eks.length uc] 53)) wr.heap.size ⟨ei, et, ek, ed, eks⟩ (.slice ua eks.length uc)) := heap_alloc_new wr _
      have HA1 := Lib.hid (HBW.out.trans (ha.mono HZ))
      have HAS := Lib.hid ha.size
      clear ha
      cases h1 : enB ⟨ei, et, ek, ed, eks⟩
      · rw [h1] at HCE
        clear h1 HM
        go_wp2_with (go_at_call 43; go_loud ((with_reducible refine HCE.out.mono ?_); rintro e w2 ⟨rfl, hb⟩; have HB2 := Lib.hid (HA1.out.trans (hb.mono (Nat.le_trans HZ HAS.out))); have E1 : Eb w2 wr.heap.size ⟨ei, et, ek, ed, eks⟩ (.slice ua eks.length uc) := heap_oldR hb HNE.out; obtain ⟨g0, g1, -⟩ := E1.cells; have HBA := Lib.hid (HB1.out.trans (HB2.out.mono HB1.out.size)); have R2 := Lib.hid (R1.out.below HB2.out); obtain ⟨e20, e21, e22⟩ := R2.out.cells; obtain ⟨g20, g21, g22⟩ := R2.out.fz; clear hb E1))
        go_wp2
        refine bodyPost_log3 rfl (w.heap.size + 1) 0 0 (.slice none 0 0) rfl rfl ?_ ?_
        case refine_1 => exact ((R2.out.set0 _).set1 _).set2 _
        case refine_2 => exact ⟨HP.out _, ((HBA.out.setCell (by exact Nat.le_succ _) _).setCell (by exact Nat.le_succ _) _).setCell (by exact Nat.le_succ _) _⟩
      · rw [h1] at HCE
        have hi0 := en_pos h1
        simp only at hi0
        have hi64 := I64.out
        unfold Lt64 at hi64
        have hk41 := HLN.out
        obtain ⟨y, hy⟩ : ∃ y : Nat, IntKind.u64.wrap ((ei : Int) - (k : Int)) = (y : Int) := ⟨((ei + 18446744073709551616 - k) % 18446744073709551616), by rw [IntKind.wrap_u64]; omega⟩
        obtain ⟨z, hz⟩ : ∃ z : Nat, IntKind.u64.wrap ((y : Int) - 1) = (z : Int) := ⟨((y + 18446744073709551616 - 1) % 18446744073709551616), by rw [IntKind.wrap_u64]; omega⟩
        have hzz : z < 18446744073709551616 ∧ ((z : Int) = (ei : Int) - k - 1 ∨ (z : Int) = (ei : Int) - k - 1 + 18446744073709551616 ∧ (ei : Int) - k - 1 < 0) := by
          rw [IntKind.wrap_u64] at hy hz
          omega
        by_cases h2 : ei = x + k + 1
        · have hzx : z = x := by omega
          subst hzx
          have y1 : ((z : Int) != (z : Int)) = false := by simp
          have y2 : ¬ (ei : Int) ≤ (z : Int) := by omega
          have y3 : decide ((ei : Int) ≤ (z : Int)) = false := by simp; omega
          have y4 : decide (ei ≤ z) = false := by simp; omega
          have HN : Hid (rowB (z + (k + 1)) (s.drop (k + 1)) = false ∧ z + (k + 1) < 18446744073709551616) := by
            have hn : nx (z + k) = z + k + 1 := by unfold nx; omega
            have h3 := HA.out.1
            rw [HM.out, hn, if_pos (by omega), if_pos h1] at h3
            exact ⟨h3, by omega⟩
          clear h1 h2 HM hi0 hzz hi64 hk41 HA
          go_wp2_with (go_at_call 43; go_loud ((with_reducible refine HCE.out.mono ?_); rintro e w2 ⟨rfl, hb⟩; have HB2 := Lib.hid (HA1.out.trans (hb.mono (Nat.le_trans HZ HAS.out))); have E1 : Eb w2 wr.heap.size ⟨ei, et, ek, ed, eks⟩ (.slice ua eks.length uc) := heap_oldR hb HNE.out; obtain ⟨g0, g1, -⟩ := E1.cells; have HBA := Lib.hid (HB1.out.trans (HB2.out.mono HB1.out.size)); have R2 := Lib.hid (R1.out.below HB2.out); obtain ⟨e20, e21, e22⟩ := R2.out.cells; obtain ⟨g20, g21, g22⟩ := R2.out.fz; clear hb E1))
          go_wp2
          go_roundg gg
          case measure => have := HK.out; omega
          case rel => exact ⟨k + 1, by have := HK.out; omega, by simp, HB2.out, HN.out⟩
        · by_cases h3 : z = x
          · subst h3
            have y1 : ((z : Int) != (z : Int)) = false := by simp
            have y2 : (ei : Int) ≤ (z : Int) := by omega
            have y4 : decide (ei ≤ z) = true := by simp; omega
            clear h1 h2 HM hi0 hzz hi64 hk41 HA
            go_wp2_with (go_at_call 43; go_loud ((with_reducible refine HCE.out.mono ?_); rintro e w2 ⟨rfl, hb⟩; have HB2 := Lib.hid (HA1.out.trans (hb.mono (Nat.le_trans HZ HAS.out))); have E1 : Eb w2 wr.heap.size ⟨ei, et, ek, ed, eks⟩ (.slice ua eks.length uc) := heap_oldR hb HNE.out; obtain ⟨g0, g1, -⟩ := E1.cells; have HBA := Lib.hid (HB1.out.trans (HB2.out.mono HB1.out.size)); have R2 := Lib.hid (R1.out.below HB2.out); obtain ⟨e20, e21, e22⟩ := R2.out.cells; obtain ⟨g20, g21, g22⟩ := R2.out.fz; clear hb E1))
            go_wp2
            refine bodyPost_log3 rfl (w.heap.size + 1) 0 0 (.slice none 0 0) rfl rfl ?_ ?_
            case refine_1 => exact ((R2.out.set0 _).set1 _).set2 _
            case refine_2 => exact ⟨HP.out _, ((HBA.out.setCell (by exact Nat.le_succ _) _).setCell (by exact Nat.le_succ _) _).setCell (by exact Nat.le_succ _) _⟩
          · have y1 : ((z : Int) != (x : Int)) = true := by simp; omega
            have y2 : ¬ (z : Int) = (x : Int) := by omega
            have y3 : (z == x) = false := by simp; omega
            have y5 : (z != x) = true := by simp; omega
            clear h1 h2 h3 HM hi0 hzz hi64 hk41 HA
            go_wp2_with (go_at_call 43; go_loud ((with_reducible refine HCE.out.mono ?_); rintro e w2 ⟨rfl, hb⟩; have HB2 := Lib.hid (HA1.out.trans (hb.mono (Nat.le_trans HZ HAS.out))); have E1 : Eb w2 wr.heap.size ⟨ei, et, ek, ed, eks⟩ (.slice ua eks.length uc) := heap_oldR hb HNE.out; obtain ⟨g0, g1, -⟩ := E1.cells; have HBA := Lib.hid (HB1.out.trans (HB2.out.mono HB1.out.size)); have R2 := Lib.hid (R1.out.below HB2.out); obtain ⟨e20, e21, e22⟩ := R2.out.cells; obtain ⟨g20, g21, g22⟩ := R2.out.fz; clear hb E1))
            go_wp2
            refine bodyPost_log3 rfl (w.heap.size + 1) 0 0 (.slice none 0 0) rfl rfl ?_ ?_
            case refine_1 => exact ((R2.out.set0 _).set1 _).set2 _
            case refine_2 => exact ⟨HP.out _, ((HBA.out.setCell (by exact Nat.le_succ _) _).setCell (by exact Nat.le_succ _) _).setCell (by exact Nat.le_succ _) _⟩
end Lo
end Go.Proofs.Ytjalmciaaenmjaa
