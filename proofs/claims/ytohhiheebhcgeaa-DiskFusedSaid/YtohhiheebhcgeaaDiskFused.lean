/-
  DiskFused.
-/
import Derived.Test.YtohhiheebhcgeaaDiskNames
namespace Go.Proofs.Ytohhiheebhcgeaa
open Go.RowKit Go.Lib Go.Sort
namespace Dk
def xx : Nat → ByteArray
  | 0 => ⟨#[120]⟩
  | n + 1 => xx n ++ ⟨#[120]⟩
theorem xx_size : ∀ n, (xx n).size = n + 1
  | 0 => rfl
  | n + 1 => by rw [xx, ByteArray.size_append, xx_size n]; rfl
def fl : Nat → List Fl
  | 0 => []
  | n + 1 => [⟨⟨#[97]⟩, xx n, 0⟩]
theorem fl_len (n : Nat) : (fl n).length ≤ 1 := by cases n <;> simp [fl]
theorem fl_fine (n : Nat) (h : n ≤ 1000) : Fine (fl n) := by
  cases n with
  | zero => intro f h; simp [fl] at h
  | succ n => exact fine_one _ ⟨by show (xx n).size ≤ _; rw [xx_size]; simp only [maxLen]; omega, by show (-9223372036854775808 : Int) ≤ 0; omega, by show (0 : Int) ≤ _; omega⟩
theorem fl_chk (n : Nat) : chkN (fl n) = 0 := by
  cases n with
  | zero => exact chk_nil
  | succ n => exact chk_one _ ⟨by show (0 : Int) ≤ 0; omega, by show (0 : Int) ≤ ((xx n).size : Int); omega⟩
theorem ref_fl (n : Nat) : Refuses (fl n) 0 ⟨#[97]⟩ ⟨#[120]⟩ 0 ByteArray.empty 0 := by
  intro w2 v2 hf2
  have hc := chk_fine _ (fl_chk n)
  have := refuse_add v2 (fl n) ⟨#[97]⟩ ⟨#[120]⟩ ByteArray.empty 0 w2 hf2 hc.1 hc.2
  have e : raN (fl n).length ⟨#[97]⟩ (hasN (fl n) ⟨#[97]⟩) = 0 := by
    unfold raN
    rw [ok_a, if_pos rfl]
    have := fl_len n
    split
    · rfl
    · rw [if_neg (by omega)]
  rw [e] at this
  exact this
theorem chg_fl (n : Nat) (h : n ≤ 1000) : Changes (fl n) (fl (n + 1)) 0 ⟨#[97]⟩ ⟨#[120]⟩ 0 ByteArray.empty := by
  intro base w2 v2 hb ho
  have hc := chk_fine _ (fl_chk n)
  cases n with
  | zero => exact changed_add_end v2 [] ⟨#[97]⟩ ⟨#[120]⟩ ByteArray.empty 0 base w2 hb ho (by intro f h; simp at h) (by simp) (by decide) (by simp) rfl (by decide)
  | succ n =>
    have hi : idxN (fl (n + 1)) ⟨#[97]⟩ = 0 := idx_one _ _ rfl
    have := changed_add_hit v2 (fl (n + 1)) ⟨#[97]⟩ ⟨#[120]⟩ ByteArray.empty 0 base w2 hb ho (fl_fine _ h) hc.1 hc.2 (by rw [hi]; simp [fl]) (by simp only [hi]; show (xx n).size + _ ≤ _; rw [xx_size]; show n + 1 + 1 ≤ _; omega)
    simp only [hi] at this
    exact this.mono fun e w' ⟨h1, h2, h3⟩ => ⟨v2, h1, h2, h3⟩
def nI (f i : Nat) : Nat := if i ≤ f then i else f + 1
def dnI (f i : Nat) : Bool := decide (f < i)
def fuI (f i : Nat) : Int := if i ≤ f then (f : Int) - i else 0
def rI (f i : Nat) : Nat := if i < f then 0 else 8
theorem ax (f i : Nat) (hf : f ≤ 255) (v : Value) (w : World) (hv : Files w w.heap.size v (fl (nI f i))) :
    Calls Try.prog 12 #[.agg #[v, .bool (dnI f i), .int .i64 (fuI f i)], .string ⟨#[97]⟩, .string ⟨#[120]⟩] w (DoIs w (fl (nI f (i + 1))) (dnI f (i + 1)) (fuI f (i + 1)) (rI f i)) := by
  refine add_of v _ _ _ _ _ _ _ ⟨#[97]⟩ ⟨#[120]⟩ ?_ w hv
  intro w1 hf1
  by_cases h1 : i < f
  · have e1 : nI f i = i := by unfold nI; rw [if_pos (by omega)]
    have e2 : nI f (i + 1) = i + 1 := by unfold nI; rw [if_pos (by omega)]
    have e3 : dnI f i = false := by unfold dnI; simp; omega
    have e4 : dnI f (i + 1) = false := by unfold dnI; simp; omega
    have e5 : fuI f i = (f : Int) - i := by unfold fuI; rw [if_pos (by omega)]
    have e6 : fuI f (i + 1) = (f : Int) - i - 1 := by unfold fuI; rw [if_pos (by omega)]; omega
    have e7 : rI f i = 0 := by unfold rI; rw [if_pos h1]
    rw [e1] at hf1
    rw [e2, e3, e4, e5, e6, e7]
    have := do_ok v (fl i) (fl (i + 1)) ((f : Int) - i) 0 ⟨#[97]⟩ ⟨#[120]⟩ 0 ByteArray.empty (fl_fine i (by omega)) (fl_chk i) (by omega) (by omega) (by omega) (ref_fl i) (chg_fl i (by omega)) w1 hf1
    rw [if_pos (by omega)] at this
    exact this
  · have e7 : rI f i = 8 := by unfold rI; rw [if_neg h1]
    have e4 : dnI f (i + 1) = true := by unfold dnI; simp; omega
    have e6 : fuI f (i + 1) = 0 := by unfold fuI; rw [if_neg (by omega)]
    have e2 : nI f (i + 1) = f + 1 := by unfold nI; rw [if_neg (by omega)]
    by_cases h2 : i = f
    · have e1 : nI f i = f := by unfold nI; rw [if_pos (by omega)]; exact h2
      have e3 : dnI f i = false := by unfold dnI; simp; omega
      have e5 : fuI f i = 0 := by unfold fuI; rw [if_pos (by omega)]; omega
      rw [e1] at hf1
      rw [e2, e3, e4, e5, e6, e7]
      exact do_fused_add v (fl f) (fl (f + 1)) ⟨#[97]⟩ ⟨#[120]⟩ 0 ByteArray.empty (fl_fine f (by omega)) (fl_chk f) (ref_fl f) (chg_fl f (by omega)) w1 hf1
    · have e1 : nI f i = f + 1 := by unfold nI; rw [if_neg (by omega)]
      have e3 : dnI f i = true := by unfold dnI; simp; omega
      have e5 : fuI f i = 0 := by unfold fuI; rw [if_neg (by omega)]
      rw [e1] at hf1
      rw [e2, e3, e4, e5, e6, e7]
      exact do_down v (fl (f + 1)) 0 0 ⟨#[97]⟩ ⟨#[120]⟩ 0 ByteArray.empty (fl_chk (f + 1)) w1 hf1
theorem St.step2 {w x x' : World} {B : Nat} {v : Value} {dn dn2 : Bool} {fu fu2 : Int} {fs fs2 : List Fl} {r : Nat} {e : Ending} (h : St w B x v dn fu fs) (hd : DoIs x fs2 dn2 fu2 r e x') (hf : Fine fs2) (hl : fs2.length ≤ 4611686018427387904) :
    ∃ v', e = .returned (.tuple #[.agg #[v', .bool dn2, .int .i64 fu2], .int .i64 (r : Nat)]) ∧ (∃ a c, v' = .slice a fs2.length c) ∧ St w B x' v dn fu fs ∧ ∀ o, St w B (st3 (x'.alloc o) B v' dn2 fu2) v' dn2 fu2 fs2 := by
  obtain ⟨v', rfl, ho, hb⟩ := hd
  have h' := h.keep hb
  refine ⟨v', rfl, ho.slice, h', fun o => ?_⟩
  have h2 := h'.keep ((Below.refl _ _).alloc (Nat.le_refl _) o)
  refine ⟨h.lo, by unfold st3; simpa using h2.hi, bset (bset (bset h2.below h.lo _) h.lo _) h.lo _, h2.dx.st, ?_⟩
  exact Own.files ((((ho.keep ((Below.refl _ _).alloc (Nat.le_refl _) o)).sb h.hi _).sb h.hi _).sb h.hi _) hf hl
theorem fl_nfine (f i : Nat) (hf : f ≤ 255) : Fine (fl (nI f i)) := fl_fine _ (by unfold nI; split <;> omega)
theorem fl_nlen (f i : Nat) : (fl (nI f i)).length ≤ 4611686018427387904 := Nat.le_trans (fl_len _) (by omega)
theorem rd_fl (n : Nat) (dn : Bool) : rdN (fl n) dn = if dn then 8 else 0 := by unfold rdN; rw [if_pos (fl_chk n)]

set_option maxRecDepth 100000 in
set_option maxHeartbeats 4000000 in
theorem diskFused (f : Nat) (many : Int) (hf : f ≤ 255) (w : World) :
    Calls Try.prog 10 #[.int .u8 f, .int .i64 many] w fun e w' => e = .returned (.bool true) ∧ Below w.heap.size w w' := by
  have hlv := lives w
  have t0 : IntKind.i64.wrap (f : Int) = (f : Int) := by rw [IntKind.wrap_i64]; omega
  go_enter Try.func10, Try.ntmps10
  go_wp2_with (go_at_call 18; go_loud (refine hlv.mono ?_; rintro e w1 ⟨rfl, hb⟩; have HB1 := Lib.hid hb; clear hb))
  have HR0 : Hid (∃ v, St w w1.heap.size (w1.alloc (.cells #[.slice none 0 0, .bool false, .int .i64 f] 24)) v (dnI f 0) (fuI f 0) (fl (nI f 0))) := by
    have e1 : dnI f 0 = false := by simp [dnI]
    have e2 : fuI f 0 = f := by simp [fuI]
    have e3 : fl (nI f 0) = [] := by simp [nI, fl]
    rw [e1, e2, e3]
    exact ⟨_, HB1.out.size, by simp, HB1.out.alloc HB1.out.size _, Dx.made _ _ _ _, nil_files _⟩
  go_loopg [6] 300 (fun g i wx => ∃ k : Nat, k + g = 300 ∧ i = .int .i64 k ∧ Aside (∃ v, St w w1.heap.size wx v (dnI f k) (fuI f k) (fl (nI f k))))
  case atStart => exact ⟨0, by omega, rfl, HR0.out⟩
  case round =>
    obtain ⟨k, hkg, rfl, HO⟩ := hrel
    obtain ⟨v, hst⟩ := HO.out
    have HST := Lib.hid hst
    obtain ⟨d0, d1, d2, d3, d4, d5⟩ := hst.dx
    obtain ⟨a2, c2, rfl, -⟩ := hst.files
    have hlt := hst.hi
    clear hst
    have HEND : Hid (∀ wx, Below wr.heap.size wr wx → Below w.heap.size w wx) := fun wx hb => (HST.out.keep hb).below
    have HNM := Lib.hid (names_own (.slice a2 (fl (nI f k)).length c2) (dnI f k) (fuI f k) (fl (nI f k)) ⟨#[]⟩ wr HST.out.files)
    have HCK : Hid (∀ wx, Below wr.heap.size wr wx → Calls Try.prog 29 #[.agg #[.slice a2 (fl (nI f k)).length c2, .bool (dnI f k), .int .i64 (fuI f k)]] wx fun e w' => e = .returned (.int .i64 0) ∧ Below wx.heap.size wx w') := fun wx hb => ref_ok _ _ _ _ wx (HST.out.keep hb).files (fl_chk _)
    have HDX : Hid (∀ wx, Below wr.heap.size wr wx → Dx w1.heap.size wx (.slice a2 (fl (nI f k)).length c2) (dnI f k) (fuI f k)) := fun wx hb => (HST.out.keep hb).dx
    have HRD := Lib.hid (rd_fl (nI f k) (dnI f k))
    have HAX := Lib.hid (ax f k hf (.slice a2 (fl (nI f k)).length c2) wr HST.out.files)
    by_cases hgo : (k : Int) < many ∧ (k : Int) < 300
    · obtain ⟨hk1, hk2⟩ := hgo
      cases gk with
      | zero => omega
      | succ g =>
        have HG := Lib.hid hkg
        have HFI := Lib.hid (fl_nfine f (k + 1) hf)
        have HLE := Lib.hid (fl_nlen f (k + 1))
        clear hkg
        by_cases hif : k < f
        · rw [show rI f k = 0 by unfold rI; rw [if_pos hif], show dnI f (k + 1) = false by unfold dnI; simp; omega] at HAX
          have HNX : Hid (∀ {wx}, (∃ v, St w w1.heap.size wx v false (fuI f (k + 1)) (fl (nI f (k + 1)))) → Aside (∃ v, St w w1.heap.size wx v (dnI f (k + 1)) (fuI f (k + 1)) (fl (nI f (k + 1))))) := by
            intro wx h
            rw [show dnI f (k + 1) = false by unfold dnI; simp; omega]
            exact h
          have t1 : (k : Int) < (f : Int) := by omega
          have t2 : ¬ ((f : Int) ≤ (k : Int)) := by omega
          have t3 : ¬ (f ≤ k) := by omega
          clear HNM HCK HDX HRD HEND HO
          generalize dnI f k = dv at *
          generalize fuI f k = fv at *
          generalize fl (nI f k) = G at *
          go_wp2_with (go_at_call 12; go_loud (refine HAX.out.mono ?_; intro e x' hd; obtain ⟨v', rfl, ⟨a5, c5, rfl⟩, hs, hS, _⟩ := HST.out.step hd HFI.out HLE.out; obtain ⟨d0, d1, d2, d3, d4, d5⟩ := hs.dx; have hlt2 := hs.hi; have HS := Lib.hid hS; clear hS hs hd))
          go_roundg g
          case measure => omega
          case rel => exact ⟨k + 1, by have := HG.out; omega, by go_num, HNX.out ⟨_, HS.out.keep ((Below.refl _ _).alloc (Nat.le_refl _) _)⟩⟩
        · rw [show rI f k = 8 by unfold rI; rw [if_neg hif], show dnI f (k + 1) = true by unfold dnI; simp; omega] at HAX
          have HNX : Hid (∀ {wx}, (∃ v, St w w1.heap.size wx v true (fuI f (k + 1)) (fl (nI f (k + 1)))) → Aside (∃ v, St w w1.heap.size wx v (dnI f (k + 1)) (fuI f (k + 1)) (fl (nI f (k + 1))))) := by
            intro wx h
            rw [show dnI f (k + 1) = true by unfold dnI; simp; omega]
            exact h
          have t1 : ¬ ((k : Int) < (f : Int)) := by omega
          have t2 : (f : Int) ≤ (k : Int) := by omega
          have t3 : f ≤ k := by omega
          clear HNM HCK HDX HRD HEND HO
          generalize dnI f k = dv at *
          generalize fuI f k = fv at *
          generalize fl (nI f k) = G at *
          go_wp2_with (go_at_call 12; go_loud (refine HAX.out.mono ?_; intro e x' hd; obtain ⟨v', rfl, ⟨a5, c5, rfl⟩, hs, hS, _⟩ := HST.out.step hd HFI.out HLE.out; obtain ⟨d0, d1, d2, d3, d4, d5⟩ := hs.dx; have hlt2 := hs.hi; have HS := Lib.hid hS; clear hS hs hd))
          go_roundg g
          case measure => omega
          case rel => exact ⟨k + 1, by have := HG.out; omega, by go_num, HNX.out ⟨_, HS.out.keep ((Below.refl _ _).alloc (Nat.le_refl _) _)⟩⟩
    · by_cases hk1 : (k : Int) < many
      · have hk2 : decide ((k : Int) < 300) = false := by simp; omega
        clear hkg hgo
        clear HAX HO
        generalize dnI f k = dv at *
        generalize fuI f k = fv at *
        generalize fl (nI f k) = G at *
        cases dv
        · have e : rdN G false = 0 := HRD.out
          rw [e] at HNM
          go_wp2_with (first | (go_at_call 26; refine HNM.out.mono ?_; rintro e w2 ⟨⟨v', rfl⟩, hb⟩; obtain ⟨d0, d1, d2, d3, d4, d5⟩ := HDX.out w2 hb; have HB2 := Lib.hid hb; clear hb) | (go_at_call 29; refine (HCK.out _ HB2.out).mono ?_; rintro e w3 ⟨rfl, hb⟩; have HB3 := Lib.hid hb; clear hb))
          go_ret
          exact ⟨rfl, HEND.out _ (HB2.out.trans (HB3.out.mono HB2.out.size))⟩
        · have e : rdN G true = 8 := HRD.out
          rw [e] at HNM
          go_wp2_with (go_at_call 26; refine HNM.out.mono ?_; rintro e w2 ⟨⟨v', rfl⟩, hb⟩; obtain ⟨d0, d1, d2, d3, d4, d5⟩ := HDX.out w2 hb; have HB2 := Lib.hid hb; clear hb)
          go_ret
          exact ⟨rfl, HEND.out _ HB2.out⟩
      · clear hkg hgo
        clear HAX HO
        generalize dnI f k = dv at *
        generalize fuI f k = fv at *
        generalize fl (nI f k) = G at *
        cases dv
        · have e : rdN G false = 0 := HRD.out
          rw [e] at HNM
          go_wp2_with (first | (go_at_call 26; refine HNM.out.mono ?_; rintro e w2 ⟨⟨v', rfl⟩, hb⟩; obtain ⟨d0, d1, d2, d3, d4, d5⟩ := HDX.out w2 hb; have HB2 := Lib.hid hb; clear hb) | (go_at_call 29; refine (HCK.out _ HB2.out).mono ?_; rintro e w3 ⟨rfl, hb⟩; have HB3 := Lib.hid hb; clear hb))
          go_ret
          exact ⟨rfl, HEND.out _ (HB2.out.trans (HB3.out.mono HB2.out.size))⟩
        · have e : rdN G true = 8 := HRD.out
          rw [e] at HNM
          go_wp2_with (go_at_call 26; refine HNM.out.mono ?_; rintro e w2 ⟨⟨v', rfl⟩, hb⟩; obtain ⟨d0, d1, d2, d3, d4, d5⟩ := HDX.out w2 hb; have HB2 := Lib.hid hb; clear hb)
          go_ret
          exact ⟨rfl, HEND.out _ HB2.out⟩
theorem diskFusedI (x many : Int) (hx : (Lit.int .u8 x).wf = true) (w : World) :
    Calls Try.prog 10 #[.int .u8 x, .int .i64 many] w fun e w' => e = .returned (.bool true) ∧ Below w.heap.size w w' := by
  have hx2 : 0 ≤ x ∧ x ≤ 255 := by simpa [Lit.wf, IntKind.min, IntKind.max, IntKind.signed, IntKind.bits] using hx
  obtain ⟨f, rfl⟩ : ∃ f : Nat, x = f := ⟨x.toNat, by omega⟩
  exact diskFused f many (by omega) w
end Dk
end Go.Proofs.Ytohhiheebhcgeaa
