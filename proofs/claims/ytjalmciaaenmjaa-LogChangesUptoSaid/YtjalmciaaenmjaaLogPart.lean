/-
  WHERE ENTRIES PART FROM A LOG: log.parting.
-/
import Derived.Test.YtjalmciaaenmjaaLogTrim
namespace Go.Proofs.Ytjalmciaaenmjaa
open Go.RowKit Go.Lib
namespace Lo
set_option linter.unusedVariables false
/-- Whether the log has an entry of that Index and Term. -/
def ptB (b t : Nat) (l : List En) (e : En) : Bool := decide (tmE b l.length e.i = 0) && decide (tmV b t l e.i = e.t)
/-- Those from the first on that the log has not. -/
def pt (b t : Nat) (l : List En) : List En → List En
  | [] => []
  | e :: r => if ptB b t l e = true then pt b t l r else e :: r
theorem pt_at (b t : Nat) (l s : List En) (k : Nat) (h : k < s.length) : pt b t l (s.drop k) = if ptB b t l s[k] = true then pt b t l (s.drop (k + 1)) else s.drop k := by
  rw [List.drop_eq_getElem_cons h, pt]
theorem pt_suffix (b t : Nat) (l : List En) : ∀ s, ∃ k, k ≤ s.length ∧ pt b t l s = s.drop k
  | [] => ⟨0, by simp, rfl⟩
  | e :: r => by
    unfold pt
    by_cases h : ptB b t l e = true
    · rw [if_pos h]
      obtain ⟨k, hk, e⟩ := pt_suffix b t l r
      exact ⟨k + 1, by simp; omega, by rw [e]; rfl⟩
    · rw [if_neg h]; exact ⟨0, by simp, rfl⟩
/-- One entry less of a slice. -/
theorem Sl.tail {w : World} {A B : Nat} {b off : Nat} {c k : Nat} {s : List En} (h : Sl w A B (some ⟨b, off, none⟩) c (s.drop k)) (hk : k < s.length) (hc : ¬ c = 1) : Sl w A B (some ⟨b, off + 5, none⟩) (c - 1) (s.drop (k + 1)) := by
  have h1 := h.cap
  rw [List.length_drop] at h1
  have := h.drop 1 (c - 1) (by rw [List.length_drop, List.length_drop]; omega)
  rw [List.drop_drop, Nat.one_mul] at this
  exact this
theorem Sl.tail1 {w : World} {A B : Nat} {a : Option Addr} {k : Nat} {s : List En} (h : Sl w A B a 1 (s.drop k)) (hk : k < s.length) : Sl w A B a 0 (s.drop (k + 1)) := by
  have h1 := h.cap
  rw [List.length_drop] at h1
  rw [List.drop_eq_nil_of_le (by omega)]
  exact Sl.empty _ _ _ _ _ (fun _ => rfl)
set_option maxHeartbeats 8000000 in
theorem parting_of (b t : Nat) (a : Option Addr) (c : Nat) (l : List En) (a2 : Option Addr) (c2 : Nat) (s : List En) (w : World) {A B A2 : Nat} (h : Sl w A B a c l) (h2 : Sl w A2 B a2 c2 s) (hB : B ≤ w.heap.size) (he : eI b l = b + l.length) :
    Calls Try.prog 51 #[.agg #[.int .u64 (b : Nat), .int .u64 (t : Nat), .slice a l.length c], .slice a2 s.length c2] w fun e w' => (∃ a' c', e = .returned (.slice a' (pt b t l s).length c') ∧ Sl w' A2 B a' c' (pt b t l s)) ∧ Below w.heap.size w w' := by
  have hB1 : Below w.heap.size w (w.alloc (.cells #[.int .u64 (b : Nat), .int .u64 (t : Nat), .slice a l.length c] 25)) := (Below.refl _ _).alloc (Nat.le_refl _) _
  have HB1 := Lib.hid hB1
  have C1 := Lib.hid (Bx3.made w (.int .u64 (b : Nat)) (.int .u64 (t : Nat)) (.slice a l.length c) 25)
  have HBz := Lib.hid hB
  have HS := Lib.hid h
  have HS2 := Lib.hid h2
  have HTM := Lib.hid (fun (z : World) (hz : Below w.heap.size w z) (x : Nat) (hx : Lt64 x) => term_at b t x a c l z ((h.keep (hz.mono hB)).more (Nat.le_trans hB hz.size) (Nat.le_refl _)) he hx)
  have HR : Hid (∀ k (h : k < s.length), ptB b t l s[k] = false → pt b t l (s.drop k) = s.drop k) := fun k h h1 => by rw [pt_at b t l s k h, if_neg (by rw [h1]; simp)]
  have HR2 : Hid (∀ k (h : k < s.length), ptB b t l s[k] = true → pt b t l (s.drop k) = pt b t l (s.drop (k + 1))) := fun k h h1 => by rw [pt_at b t l s k h, if_pos h1]
  have HPB : Hid (∀ e, ptB b t l e = (decide (tmE b l.length e.i = 0) && decide (tmV b t l e.i = e.t))) := fun e => rfl
  have hPost : ∀ (r : List En) (ar : Option Addr) (cr n : Nat) (wx : World), pt b t l s = r → r.length = n → Sl w A2 B ar cr r → Below w.heap.size w wx → (∃ a' c', Ending.returned (.slice ar n cr) = .returned (.slice a' (pt b t l s).length c') ∧ Sl wx A2 B a' c' (pt b t l s)) ∧ Below w.heap.size w wx := by
    intro r ar cr n wx e1 e2 h3 h4
    rw [e1, ← e2]
    exact ⟨⟨ar, cr, rfl, h3.keep (h4.mono hB)⟩, h4⟩
  have HPost := Lib.hid hPost
  have HCN := Lib.hid h.len
  have HSN := Lib.hid h2.len
  clear hB1 h h2 he hPost hB
  obtain ⟨n, hn⟩ : ∃ n, s.length = n := ⟨_, rfl⟩
  rw [hn]
  rw [hn] at HSN
  have HN := Lib.hid hn
  have hln : n ≤ 2199023255551 := HSN.out
  clear hn
  go_enter Try.func51, Try.ntmps51
  go_wp2
  go_step3
  go_wp2
  go_step3
  go_wp2
  go_loopg [5, 13] n (fun gg rv i wx => ∃ (k : Nat) (ar : Option Addr) (cr : Nat), k + gg = n ∧ rv = .slice ar gg cr ∧ i = .int .i64 k ∧ Aside (Below (w.heap.size + 1) (w.alloc (.cells #[.int .u64 (b : Nat), .int .u64 (t : Nat), .slice a l.length c] 25)) wx) ∧ Aside (Sl w A2 B ar cr (s.drop k)) ∧ Aside (pt b t l s = pt b t l (s.drop k)))
  case atStart => exact ⟨0, a2, c2, by omega, rfl, rfl, Below.refl _ _, HS2.out, rfl⟩
  case round =>
    obtain ⟨k, ar, cr, hkg, rfl, rfl, HBW, HSR, HA⟩ := hrel
    have HBL := Lib.hid (HB1.out.trans (HBW.out.mono (Nat.le_succ _)))
    cases gk with
    | zero =>
      obtain rfl : k = n := by omega
      have HX := Lib.hid (HPost.out (s.drop k) ar cr 0 wr (by rw [HA.out, List.drop_eq_nil_of_le (by rw [HN.out]; exact Nat.le_refl _)]; rfl) (by rw [List.length_drop, HN.out]; omega) HSR.out HBL.out)
      clear hkg
      go_wp2
      try rw [Exit.noGoto_ret]
      trace_state
      go_ret
      exact HX.out
    | succ gg =>
      have hlt : k < s.length := by rw [HN.out]; omega
      have hlt2 : (k : Int) < (n : Int) := by omega
      have hlen : (s.drop k).length = gg + 1 := by rw [List.length_drop, HN.out]; omega
      obtain ⟨blk, off, rfl, -, hb, u, hc⟩ := (HS2.out.keep (HBL.out.mono HBz.out)).at k hlt
      obtain ⟨c0, c1, c2, c3, c4, iv, i64, t64⟩ := hc
      obtain ⟨ua, uc, rfl⟩ := iv.slice
      have HK := Lib.hid hkg
      have HL := Lib.hid hlt
      have HLE := Lib.hid hlen
      have tk2 : IntKind.i64.wrap ((k : Int) + 1) = (k : Int) + 1 := by rw [IntKind.wrap_i64]; omega
      have HR1 := Lib.hid (HR.out k hlt)
      have HR3 := Lib.hid (HR2.out k hlt)
      have HP1 := Lib.hid (HPB.out s[k])
      have hC := C1.out.below (w' := wr) (by have := HBW.out; simpa using this)
      obtain ⟨d0, d1, d2⟩ := hC.cells
      have hP := hC.lt
      clear iv t64 hkg hC hlen
      generalize hq : s[k] = e at *
      clear hq
      rcases e with ⟨ei, et, ek, ed, eks⟩
      simp only at c0 c1 c2 c3 c4 HR1 HR3 HP1 i64
      have hB2 : Below w.heap.size w (wr.alloc (.cells #[.int .u64 (ei : Nat), .int .u64 (et : Nat), .int .u8 (ek : Nat), .string ed, .slice ua eks.length uc] 53)) := HBL.out.alloc HBL.out.size _
      have HC := Lib.hid (HTM.out _ hB2 ei i64)
      have HBW2 := Lib.hid (HBW.out.alloc (by have := HBW.out.size; simpa using this) (.cells #[.int .u64 (ei : Nat), .int .u64 (et : Nat), .int .u8 (ek : Nat), .string ed, .slice ua eks.length uc] 53))
      have hP2 : w.heap.size ≠ wr.heap.size := by omega
      generalize tmE b l.length ei = q at *
      generalize tmV b t l ei = v at *
      clear hB2 i64
      by_cases h1 : q = 0
      · subst h1
        by_cases h2 : v = et
        · subst h2
          have HF : Hid (pt b t l s = pt b t l (s.drop (k + 1))) := HA.out.trans (HR3.out (by rw [HP1.out]; simp))
          clear HR1 HR3 HP1
          by_cases h3 : cr = 1
          · subst h3
            have HT := Lib.hid (HSR.out.tail1 HL.out)
            go_wp2_with (go_at_call 33; go_loud ((with_reducible refine HC.out.mono ?_); rintro e w1 ⟨rfl, hb1⟩; have x1 := hb1.cell (p := ⟨wr.heap.size, 1, none⟩) (by simp); simp [go_sem] at x1; have HBW3 := Lib.hid (HBW2.out.trans (hb1.mono (by have := HBW2.out.size; simpa using this))); clear hb1))
            go_wp2
            go_roundg gg
            case measure => omega
            case rel => exact ⟨k + 1, ar, 0, by have := HK.out; omega, rfl, by simp, HBW3.out, HT.out, HF.out⟩
          · obtain ⟨rb, ro, rfl, -⟩ := HSR.out.at 0 (by rw [HLE.out]; omega)
            have HT := Lib.hid (HSR.out.tail HL.out h3)
            have hcr : gg + 1 ≤ cr := by have := HSR.out.cap; rw [HLE.out] at this; exact this
            have hcr1 : (1 : Int) ≤ (gg : Int) + 1 := by omega
            have hcr2 : (gg : Int) + 1 ≤ (cr : Int) := by omega
            go_wp2_with (go_at_call 33; go_loud ((with_reducible refine HC.out.mono ?_); rintro e w1 ⟨rfl, hb1⟩; have x1 := hb1.cell (p := ⟨wr.heap.size, 1, none⟩) (by simp); simp [go_sem] at x1; have HBW3 := Lib.hid (HBW2.out.trans (hb1.mono (by have := HBW2.out.size; simpa using this))); clear hb1))
            go_wp2
            go_roundg gg
            case measure => omega
            case rel => exact ⟨k + 1, some ⟨rb, ro + 5, none⟩, cr - 1, by have := HK.out; omega, by simp, by simp, HBW3.out, HT.out, HF.out⟩
        · have HF : Hid (ptB b t l ⟨ei, et, ek, ed, eks⟩ = false) := HP1.out.trans (by simp [h2])
          have h2' : ¬ (v : Int) = (et : Int) := by omega
          have h2x : ((v : Int) != (et : Int)) = true := by simp; omega
          clear h2 HR3 HP1
          have HX := Lib.hid (fun wx hb => HPost.out (s.drop k) ar cr (gg + 1) wx (HA.out.trans (HR1.out HF.out)) HLE.out HSR.out hb)
          go_wp2_with (go_at_call 33; go_loud ((with_reducible refine HC.out.mono ?_); rintro e w1 ⟨rfl, hb1⟩; have x1 := hb1.cell (p := ⟨wr.heap.size, 1, none⟩) (by simp); simp [go_sem] at x1; have HBW3 := Lib.hid (HBW2.out.trans (hb1.mono (by have := HBW2.out.size; simpa using this))); clear hb1))
          go_wp2
          try rw [Exit.noGoto_ret]
          go_ret
          exact HX.out _ (HB1.out.trans (HBW3.out.mono (Nat.le_succ _)))
      · have HF : Hid (ptB b t l ⟨ei, et, ek, ed, eks⟩ = false) := HP1.out.trans (by simp [h1])
        have h1' : ¬ (q : Int) = 0 := by omega
        have h1x : ((q : Int) != 0) = true := by simp; omega
        clear h1 HR3 HP1
        have HX := Lib.hid (fun wx hb => HPost.out (s.drop k) ar cr (gg + 1) wx (HA.out.trans (HR1.out HF.out)) HLE.out HSR.out hb)
        go_wp2_with (go_at_call 33; go_loud ((with_reducible refine HC.out.mono ?_); rintro e w1 ⟨rfl, hb1⟩; have x1 := hb1.cell (p := ⟨wr.heap.size, 1, none⟩) (by simp); simp [go_sem] at x1; have HBW3 := Lib.hid (HBW2.out.trans (hb1.mono (by have := HBW2.out.size; simpa using this))); clear hb1))
        go_wp2
        try rw [Exit.noGoto_ret]
        go_ret
        exact HX.out _ (HB1.out.trans (HBW3.out.mono (Nat.le_succ _)))
end Lo
end Go.Proofs.Ytjalmciaaenmjaa
