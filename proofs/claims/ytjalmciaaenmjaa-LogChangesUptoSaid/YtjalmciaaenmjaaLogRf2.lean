/-
  THE DOCUMENT's ANSWERS OF A LOG: gafferref14.Check, Last, At, End, Term, Newer.
-/
import Derived.Test.YtjalmciaaenmjaaLogRf1
namespace Go.Proofs.Ytjalmciaaenmjaa
open Go.RowKit Go.Lib
namespace Lo
set_option linter.unusedVariables false
/-- The document's way to look at a log. -/
def rkB : Nat → Nat → List En → Bool
  | _, _, [] => true
  | p, t, e :: r => if enB e = true then (if e.i = p + 1 then (if e.t < t then false else rkB e.i e.t r) else false) else false
def lgE (r : Bool) : Int := if r = true then 0 else 10
theorem rkB_at (l : List En) (k : Nat) (h : k < l.length) (p t : Nat) : rkB p t (l.drop k) = if enB l[k] = true then (if l[k].i = p + 1 then (if l[k].t < t then false else rkB l[k].i l[k].t (l.drop (k + 1))) else false) else false := by
  rw [List.drop_eq_getElem_cons h, rkB]
theorem rk_is : ∀ (l : List En) (p t : Nat), Lt64 p → (∀ e ∈ l, Lt64 e.i) → rkB p t l = (rowB p l && !fallB t l)
  | [], _, _, _, _ => rfl
  | e :: r, p, t, hp, he => by
    have ih := rk_is r e.i e.t (he e List.mem_cons_self) (fun x hx => he x (List.mem_cons_of_mem _ hx))
    unfold rkB rowB fallB
    by_cases h1 : enB e = true
    · rw [if_pos h1]
      by_cases h2 : e.i = p + 1
      · have h3 : nx p = p + 1 := nx_eq hp (by
          have h9 := he e List.mem_cons_self
          rw [h2] at h9
          unfold Lt64 at h9
          unfold nx
          omega)
        rw [if_pos h2, if_pos (show e.i = nx p by rw [h3]; exact h2), if_pos h1]
        by_cases h4 : e.t < t
        · rw [if_pos h4, if_pos h4]; simp
        · rw [if_neg h4, if_neg h4, ih, h3, ← h2]
      · rw [if_neg h2]
        by_cases h3 : e.i = nx p
        · have := en_pos h1
          have h5 := nx_eq hp (by omega)
          omega
        · rw [if_neg h3]; rfl
    · rw [if_neg h1]
      by_cases h3 : e.i = nx p
      · rw [if_pos h3, if_neg h1]; rfl
      · rw [if_neg h3]; rfl
theorem ok_rk {b t : Nat} {l : List En} (hb : Lt64 b) (he : ∀ e ∈ l, Lt64 e.i) : okB b t l = (!(decide (b = 0) && !decide (t = 0)) && rkB b t l) := by
  unfold okB
  rw [rk_is l b t hb he, Bool.and_assoc]
theorem Sl.e64 {w : World} {A B : Nat} {a : Option Addr} {c : Nat} {l : List En} (h : Sl w A B a c l) : ∀ e ∈ l, Lt64 e.i := by
  intro e he
  obtain ⟨i, hi, rfl⟩ := List.getElem_of_mem he
  obtain ⟨b, off, -, -, -, u, hc⟩ := h.at i hi
  exact hc.i64
theorem heap_oldR {w w' : World} {B : Nat} {o : Obj} (hb : Below w.heap.size w w') (h : w.heap[B]? = some o) : w'.heap[B]? = some o := (hb.block B (Array.getElem?_eq_some_iff.1 h).1).trans h
set_option maxHeartbeats 8000000 in
theorem check_log (b t : Nat) (a : Option Addr) (c : Nat) (l : List En) (w : World) {A : Nat} (h : Sl w A w.heap.size a c l) (hb : Lt64 b) :
    Calls Try.prog 23 #[.agg #[.int .u64 (b : Nat), .int .u64 (t : Nat), .slice a l.length c]] w fun e w' => e = .returned (.int .i64 (lgE (okB b t l))) ∧ Below w.heap.size w w' := by
  have hB : Below w.heap.size w (w.alloc (.cells #[.int .u64 (b : Nat), .int .u64 (t : Nat), .slice a l.length c] 25)) := (Below.refl _ _).alloc (Nat.le_refl _) _
  have HB0 := Lib.hid hB
  have HS0 := Lib.hid (h.on hB)
  have HLN := Lib.hid h.len
  have C0 := Lib.hid (Bx3.made w (.int .u64 (b : Nat)) (.int .u64 (t : Nat)) (.slice a l.length c) 25)
  have HR := Lib.hid (ok_rk (t := t) hb h.e64)
  clear hB h
  generalize okB b t l = r at *
  by_cases h1 : b = 0 ∧ ¬ t = 0
  · obtain ⟨rfl, h2⟩ := h1
    have HE : Hid (r = false) := HR.out.trans (by simp [h2])
    have h2' : ¬ (t : Int) = 0 := by omega
    have h2'' : ((t : Int) != 0) = true := by simp; omega
    rw [show ((0 : Nat) : Int) = 0 from rfl] at *
    clear h2 HR
    go_enter Try.func23, Try.ntmps23
    go_upto_region 1 with fail
    go_quiet (fail)
    go_wp2
    go_ret
    exact ⟨by rw [HE.out]; rfl, bdN HB0.out _⟩
  · have HR2 : Hid (r = rkB b t l) := HR.out.trans (by
      have : (!(decide (b = 0) && !decide (t = 0))) = true := by
        by_cases hb0 : b = 0
        · have : t = 0 := Classical.byContradiction fun ht => h1 ⟨hb0, ht⟩
          simp [hb0, this]
        · simp [hb0]
      rw [this, Bool.true_and])
    clear HR
    by_cases hb0 : b = 0
    · obtain rfl : t = 0 := Classical.byContradiction fun ht => h1 ⟨hb0, ht⟩
      subst hb0
      rw [show ((0 : Nat) : Int) = 0 from rfl] at HB0 HS0 C0 ⊢
      clear h1
      go_enter Try.func23, Try.ntmps23
      go_upto_region 1 with fail
      generalize (w.alloc (.cells #[.int .u64 0, .int .u64 0, .slice a l.length c] 25)) = W0 at *
      obtain ⟨d0, d1, d2⟩ := C0.out.cells
      go_quiet (fail)
      have HBN := Lib.hid (bdN (Below.refl W0.heap.size W0) nq)
      go_wp2
      go_loopg [3, 4, 20] l.length (fun gg pv tv i wx => ∃ (k p q : Nat), k + gg = l.length ∧ i = .int .i64 k ∧ pv = .int .u64 (p : Nat) ∧ tv = .int .u64 (q : Nat) ∧ Aside (Below W0.heap.size W0 wx) ∧ Aside (rkB 0 0 l = rkB p q (l.drop k)))
      case atStart => exact ⟨0, 0, 0, by omega, rfl, rfl, rfl, HBN.out, rfl⟩
      case round =>
        obtain ⟨k, p, q, hkg, rfl, rfl, rfl, HBW, HA⟩ := hrel
        cases gk with
        | zero =>
          obtain rfl : k = l.length := by omega
          have HE : Hid (r = true) := HR2.out.trans (by rw [HA.out, List.drop_length]; rfl)
          clear hkg
          go_wp2
          go_ret
          exact ⟨by rw [HE.out]; rfl, HB0.out.trans (HBW.out.mono HB0.out.size)⟩
        | succ gg =>
          have hlt : k < l.length := by omega
          have hlt2 : (k : Int) < (l.length : Int) := by omega
          have hbx := HBW.out
          obtain ⟨blk, off, rfl, -, hbk, u, hc⟩ := (HS0.out.on hbx).at k hlt
          obtain ⟨c0, c1, c2', c3', c4, iv, i64, t64⟩ := hc
          obtain ⟨ua, uc, rfl⟩ := iv.slice
          have HK := Lib.hid hkg
          have IV := Lib.hid iv
          have I64 := Lib.hid i64
          have tk : IntKind.i64.wrap ((k : Int) + 1) = (k : Int) + 1 := by have := HLN.out; rw [IntKind.wrap_i64]; omega
          have HM := Lib.hid (rkB_at l k hlt p q)
          clear hkg hbx iv i64 t64
          generalize l[k] = e at *
          rcases e with ⟨ei, et, ek, ed, eks⟩
          simp only at c0 c1 c2' c3' c4 HM IV I64
          have ha : Below wr.heap.size wr (wr.alloc (.cells #[.int .u64 (ei : Nat), .int .u64 (et : Nat), .int .u8 (ek : Nat), .string ed, .slice ua eks.length uc] 53)) := ((Below.refl _ _).alloc (Nat.le_refl _) _)
          have HZ := HBW.out.size
          have HC := Lib.hid (check_ref ei et ek ed eks (.slice ua eks.length uc) (wr.alloc (.cells #[.int .u64 (ei : Nat), .int .u64 (et : Nat), .int .u8 (ek : Nat), .string ed, .slice ua eks.length uc] 53)) (A := 0) ((IV.out.keep ha).more ha.size (Nat.zero_le _)))
          have HNE : Hid (Eb (wr.alloc (.cells #[.int .u64 (ei : Nat), .int .u64 (et : Nat), .int .u8 (ek : Nat), .string ed, .slice ua eks.length uc] 53)) wr.heap.size ⟨ei, et, ek, ed, eks⟩ (.slice ua eks.length uc)) := heap_alloc_new wr _
          have HA1 := Lib.hid (HBW.out.trans (ha.mono HZ))
          have HAS := Lib.hid ha.size
          clear ha
          cases h1 : enB ⟨ei, et, ek, ed, eks⟩
          · have HE : Hid (r = false) := HR2.out.trans (by rw [HA.out, HM.out, h1]; rfl)
            rw [h1] at HC
            clear h1 HM
            go_wp2_with (go_at_call 43; go_loud ((with_reducible refine HC.out.mono ?_); rintro e w1 ⟨rfl, hb⟩; have HB2 := Lib.hid (HA1.out.trans (hb.mono (Nat.le_trans HZ HAS.out))); have E1 : Eb w1 wr.heap.size ⟨ei, et, ek, ed, eks⟩ (.slice ua eks.length uc) := heap_oldR hb HNE.out; obtain ⟨g0, g1, -⟩ := E1.cells; clear hb E1))
            go_wp2
            go_ret
            exact ⟨by rw [HE.out]; rfl, HB0.out.trans (HB2.out.mono HB0.out.size)⟩
          · rw [h1] at HC
            have hi0 := en_pos h1
            simp only at hi0
            have x1 : IntKind.u64.wrap ((ei : Int) - 1) = ((ei - 1 : Nat) : Int) := by have := I64.out; unfold Lt64 at this; rw [IntKind.wrap_u64]; omega
            obtain ⟨m, hm⟩ : ∃ m, ei - 1 = m := ⟨_, rfl⟩
            rw [hm] at x1
            by_cases h2 : ei = p + 1
            · obtain rfl : m = p := by omega
              have y1 : ((m : Int) != (m : Int)) = false := by simp
              by_cases h3 : et < q
              · have HE : Hid (r = false) := HR2.out.trans (by rw [HA.out, HM.out, if_pos h1, if_pos h2, if_pos h3])
                have y2 : (et : Int) < (q : Int) := by omega
                clear h1 h2 h3 HM hm hi0
                go_wp2_with (go_at_call 43; go_loud ((with_reducible refine HC.out.mono ?_); rintro e w1 ⟨rfl, hb⟩; have HB2 := Lib.hid (HA1.out.trans (hb.mono (Nat.le_trans HZ HAS.out))); have E1 : Eb w1 wr.heap.size ⟨ei, et, ek, ed, eks⟩ (.slice ua eks.length uc) := heap_oldR hb HNE.out; obtain ⟨g0, g1, -⟩ := E1.cells; clear hb E1))
                go_wp2
                go_ret
                exact ⟨by rw [HE.out]; rfl, HB0.out.trans (HB2.out.mono HB0.out.size)⟩
              · have HE : Hid (rkB 0 0 l = rkB ei et (l.drop (k + 1))) := HA.out.trans (by rw [HM.out, if_pos h1, if_pos h2, if_neg h3])
                have y2 : ¬ (et : Int) < (q : Int) := by omega
                have y3 : decide ((et : Int) < (q : Int)) = false := by simp; omega
                clear h1 h2 h3 HM hm hi0
                go_wp2_with (go_at_call 43; go_loud ((with_reducible refine HC.out.mono ?_); rintro e w1 ⟨rfl, hb⟩; have HB2 := Lib.hid (HA1.out.trans (hb.mono (Nat.le_trans HZ HAS.out))); have E1 : Eb w1 wr.heap.size ⟨ei, et, ek, ed, eks⟩ (.slice ua eks.length uc) := heap_oldR hb HNE.out; obtain ⟨g0, g1, -⟩ := E1.cells; clear hb E1))
                go_wp2
                go_quiet (fail)
                go_wp2
                go_roundg gg
                case measure => omega
                case rel => exact ⟨k + 1, ei, et, by have := HK.out; omega, by simp, rfl, rfl, bdN HB2.out _, HE.out⟩
            · have HE : Hid (r = false) := HR2.out.trans (by rw [HA.out, HM.out, if_pos h1, if_neg h2])
              have y1 : ¬ (m : Int) = (p : Int) := by omega
              have y2 : ((m : Int) != (p : Int)) = true := by simp; omega
              clear h1 h2 HM hm hi0
              go_wp2_with (go_at_call 43; go_loud ((with_reducible refine HC.out.mono ?_); rintro e w1 ⟨rfl, hb⟩; have HB2 := Lib.hid (HA1.out.trans (hb.mono (Nat.le_trans HZ HAS.out))); have E1 : Eb w1 wr.heap.size ⟨ei, et, ek, ed, eks⟩ (.slice ua eks.length uc) := heap_oldR hb HNE.out; obtain ⟨g0, g1, -⟩ := E1.cells; clear hb E1))
              go_wp2
              go_ret
              exact ⟨by rw [HE.out]; rfl, HB0.out.trans (HB2.out.mono HB0.out.size)⟩
    · have b1 : ¬ (b : Int) = 0 := by omega
      have b2 : ((b : Int) == 0) = false := by simp; omega
      clear h1 hb0
      go_enter Try.func23, Try.ntmps23
      go_upto_region 1 with fail
      generalize (w.alloc (.cells #[.int .u64 (b : Nat), .int .u64 (t : Nat), .slice a l.length c] 25)) = W0 at *
      obtain ⟨d0, d1, d2⟩ := C0.out.cells
      go_quiet (fail)
      have HBN := Lib.hid (bdN (Below.refl W0.heap.size W0) nq)
      go_wp2
      go_loopg [3, 4, 20] l.length (fun gg pv tv i wx => ∃ (k p q : Nat), k + gg = l.length ∧ i = .int .i64 k ∧ pv = .int .u64 (p : Nat) ∧ tv = .int .u64 (q : Nat) ∧ Aside (Below W0.heap.size W0 wx) ∧ Aside (rkB b t l = rkB p q (l.drop k)))
      case atStart => exact ⟨0, b, t, by omega, rfl, rfl, rfl, HBN.out, rfl⟩
      case round =>
        obtain ⟨k, p, q, hkg, rfl, rfl, rfl, HBW, HA⟩ := hrel
        cases gk with
        | zero =>
          obtain rfl : k = l.length := by omega
          have HE : Hid (r = true) := HR2.out.trans (by rw [HA.out, List.drop_length]; rfl)
          clear hkg
          go_wp2
          go_ret
          exact ⟨by rw [HE.out]; rfl, HB0.out.trans (HBW.out.mono HB0.out.size)⟩
        | succ gg =>
          have hlt : k < l.length := by omega
          have hlt2 : (k : Int) < (l.length : Int) := by omega
          have hbx := HBW.out
          obtain ⟨blk, off, rfl, -, hbk, u, hc⟩ := (HS0.out.on hbx).at k hlt
          obtain ⟨c0, c1, c2', c3', c4, iv, i64, t64⟩ := hc
          obtain ⟨ua, uc, rfl⟩ := iv.slice
          have HK := Lib.hid hkg
          have IV := Lib.hid iv
          have I64 := Lib.hid i64
          have tk : IntKind.i64.wrap ((k : Int) + 1) = (k : Int) + 1 := by have := HLN.out; rw [IntKind.wrap_i64]; omega
          have HM := Lib.hid (rkB_at l k hlt p q)
          clear hkg hbx iv i64 t64
          generalize l[k] = e at *
          rcases e with ⟨ei, et, ek, ed, eks⟩
          simp only at c0 c1 c2' c3' c4 HM IV I64
          have ha : Below wr.heap.size wr (wr.alloc (.cells #[.int .u64 (ei : Nat), .int .u64 (et : Nat), .int .u8 (ek : Nat), .string ed, .slice ua eks.length uc] 53)) := ((Below.refl _ _).alloc (Nat.le_refl _) _)
          have HZ := HBW.out.size
          have HC := Lib.hid (check_ref ei et ek ed eks (.slice ua eks.length uc) (wr.alloc (.cells #[.int .u64 (ei : Nat), .int .u64 (et : Nat), .int .u8 (ek : Nat), .string ed, .slice ua eks.length uc] 53)) (A := 0) ((IV.out.keep ha).more ha.size (Nat.zero_le _)))
          have HNE : Hid (Eb (wr.alloc (.cells #[.int .u64 (ei : Nat), .int .u64 (et : Nat), .int .u8 (ek : Nat), .string ed, .slice ua eks.length uc] 53)) wr.heap.size ⟨ei, et, ek, ed, eks⟩ (.slice ua eks.length uc)) := heap_alloc_new wr _
          have HA1 := Lib.hid (HBW.out.trans (ha.mono HZ))
          have HAS := Lib.hid ha.size
          clear ha
          cases h1 : enB ⟨ei, et, ek, ed, eks⟩
          · have HE : Hid (r = false) := HR2.out.trans (by rw [HA.out, HM.out, h1]; rfl)
            rw [h1] at HC
            clear h1 HM
            go_wp2_with (go_at_call 43; go_loud ((with_reducible refine HC.out.mono ?_); rintro e w1 ⟨rfl, hb⟩; have HB2 := Lib.hid (HA1.out.trans (hb.mono (Nat.le_trans HZ HAS.out))); have E1 : Eb w1 wr.heap.size ⟨ei, et, ek, ed, eks⟩ (.slice ua eks.length uc) := heap_oldR hb HNE.out; obtain ⟨g0, g1, -⟩ := E1.cells; clear hb E1))
            go_wp2
            go_ret
            exact ⟨by rw [HE.out]; rfl, HB0.out.trans (HB2.out.mono HB0.out.size)⟩
          · rw [h1] at HC
            have hi0 := en_pos h1
            simp only at hi0
            have x1 : IntKind.u64.wrap ((ei : Int) - 1) = ((ei - 1 : Nat) : Int) := by have := I64.out; unfold Lt64 at this; rw [IntKind.wrap_u64]; omega
            obtain ⟨m, hm⟩ : ∃ m, ei - 1 = m := ⟨_, rfl⟩
            rw [hm] at x1
            by_cases h2 : ei = p + 1
            · obtain rfl : m = p := by omega
              have y1 : ((m : Int) != (m : Int)) = false := by simp
              by_cases h3 : et < q
              · have HE : Hid (r = false) := HR2.out.trans (by rw [HA.out, HM.out, if_pos h1, if_pos h2, if_pos h3])
                have y2 : (et : Int) < (q : Int) := by omega
                clear h1 h2 h3 HM hm hi0
                go_wp2_with (go_at_call 43; go_loud ((with_reducible refine HC.out.mono ?_); rintro e w1 ⟨rfl, hb⟩; have HB2 := Lib.hid (HA1.out.trans (hb.mono (Nat.le_trans HZ HAS.out))); have E1 : Eb w1 wr.heap.size ⟨ei, et, ek, ed, eks⟩ (.slice ua eks.length uc) := heap_oldR hb HNE.out; obtain ⟨g0, g1, -⟩ := E1.cells; clear hb E1))
                go_wp2
                go_ret
                exact ⟨by rw [HE.out]; rfl, HB0.out.trans (HB2.out.mono HB0.out.size)⟩
              · have HE : Hid (rkB b t l = rkB ei et (l.drop (k + 1))) := HA.out.trans (by rw [HM.out, if_pos h1, if_pos h2, if_neg h3])
                have y2 : ¬ (et : Int) < (q : Int) := by omega
                have y3 : decide ((et : Int) < (q : Int)) = false := by simp; omega
                clear h1 h2 h3 HM hm hi0
                go_wp2_with (go_at_call 43; go_loud ((with_reducible refine HC.out.mono ?_); rintro e w1 ⟨rfl, hb⟩; have HB2 := Lib.hid (HA1.out.trans (hb.mono (Nat.le_trans HZ HAS.out))); have E1 : Eb w1 wr.heap.size ⟨ei, et, ek, ed, eks⟩ (.slice ua eks.length uc) := heap_oldR hb HNE.out; obtain ⟨g0, g1, -⟩ := E1.cells; clear hb E1))
                go_wp2
                go_quiet (fail)
                go_wp2
                go_roundg gg
                case measure => omega
                case rel => exact ⟨k + 1, ei, et, by have := HK.out; omega, by simp, rfl, rfl, bdN HB2.out _, HE.out⟩
            · have HE : Hid (r = false) := HR2.out.trans (by rw [HA.out, HM.out, if_pos h1, if_neg h2])
              have y1 : ¬ (m : Int) = (p : Int) := by omega
              have y2 : ((m : Int) != (p : Int)) = true := by simp; omega
              clear h1 h2 HM hm hi0
              go_wp2_with (go_at_call 43; go_loud ((with_reducible refine HC.out.mono ?_); rintro e w1 ⟨rfl, hb⟩; have HB2 := Lib.hid (HA1.out.trans (hb.mono (Nat.le_trans HZ HAS.out))); have E1 : Eb w1 wr.heap.size ⟨ei, et, ek, ed, eks⟩ (.slice ua eks.length uc) := heap_oldR hb HNE.out; obtain ⟨g0, g1, -⟩ := E1.cells; clear hb E1))
              go_wp2
              go_ret
              exact ⟨by rw [HE.out]; rfl, HB0.out.trans (HB2.out.mono HB0.out.size)⟩
end Lo
end Go.Proofs.Ytjalmciaaenmjaa
