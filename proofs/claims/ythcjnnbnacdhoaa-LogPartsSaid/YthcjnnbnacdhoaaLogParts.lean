/-
  LogParts: a log's entries, taken in parts, are all of them.
-/
import Derived.Test.YthcjnnbnacdhoaaLogGrow
import Derived.Test.YthcjnnbnacdhoaaLogLive
import Derived.Test.YthcjnnbnacdhoaaLogSame
import Derived.Test.YthcjnnbnacdhoaaLogArg
namespace Go.Proofs.Ythcjnnbnacdhoaa
open Go.RowKit Go.Lib
namespace Lo
theorem same_self (a1 : Option Addr) (c1 n : Nat) (a : Option Addr) (c : Nat) (l : List En) (w : World) (hn : n = l.length) (h1 : Sl w 0 w.heap.size a1 c1 l) (h2 : Sl w 0 w.heap.size a c l) :
    Calls Try.prog 16 #[.slice a1 n c1, .slice a l.length c] w fun e w' => e = .returned (.bool true) ∧ Below w.heap.size w w' := by
  subst hn
  have := same_ents a1 c1 l a c l w h1 h2
  rw [sameL_self] at this
  exact this
theorem fr_at {b t : Nat} {l : List En} {k : Nat} (s : Nat) (h : okB b t l = true) (hk : k ≤ l.length) : frL b t l (b + k + 1) (s : Nat) = (l.drop k).take (min s (l.length - k)) ∧ frE b t l (b + k + 1) = 0 := by
  unfold frL frE
  rw [if_pos h, if_neg (by omega), if_pos h, if_neg (by omega)]
  have hm : mny b l.length (b + k + 1 - 1) = k := by unfold mny; split <;> omega
  rw [hm, List.length_drop]
  unfold frN
  rw [if_neg (by omega), Int.toNat_natCast]
  exact ⟨rfl, rfl⟩
theorem fr_call (b t : Nat) (a : Option Addr) (c : Nat) (l : List En) (k s : Nat) (w : World) (hk : okB b t l = true) (hkl : k < l.length) (hs : 0 < s) (hb : Lt64 b) (h : Sl w 0 w.heap.size a c l) :
    Calls Try.prog 13 #[.agg #[.int .u64 (b : Nat), .int .u64 (t : Nat), .slice a l.length c], .int .u64 ((b + k + 1 : Nat) : Int), .int .i64 (s : Nat)] w fun e w' =>
      (∃ g c', e = .returned (.tuple #[.slice (some ⟨g, 0, none⟩) (min s (l.length - k)) c', .int .i64 0]) ∧ OwnS w' w.heap.size (some ⟨g, 0, none⟩) c' ((l.drop k).take (min s (l.length - k)))) ∧ Below w.heap.size w w' := by
  have hr := (row_is l b (ok_is hk).2.1 hb).1
  obtain ⟨e1, e2⟩ := fr_at s hk (Nat.le_of_lt hkl)
  refine Calls.mono (the_from b t (b + k + 1) (s : Nat) a c l w h hb (by unfold Lt64 at hr ⊢; omega)) ?_
  rintro e w' ⟨⟨a', c', he, ho⟩, hbe⟩
  rw [e1, e2] at he
  rw [e1] at ho
  have hlen : ((l.drop k).take (min s (l.length - k))).length = min s (l.length - k) := by rw [List.length_take, List.length_drop]; omega
  rw [hlen] at he
  obtain ⟨g, rfl, -⟩ := ho.row (by rw [hlen]; omega)
  exact ⟨⟨g, c', he, ho⟩, hbe⟩
set_option maxHeartbeats 16000000 in
theorem logParts (v : Value) (x : Lg) (z : Int) (w : World) (hx : LogA w v x) (hz : (Lit.int .u8 z).wf = true) :
    Calls Try.prog 8 #[v, .int .u8 z] w fun e w' => e = .returned (.bool true) ∧ Below w.heap.size w w' := by
  obtain ⟨q, rfl, hq⟩ := u8_of hz
  obtain ⟨b, t, a, c, l⟩ := x
  obtain ⟨rfl, hs, hb, ht⟩ := hx
  simp only at hs hb ht ⊢
  have hB : Below w.heap.size w (w.alloc (.cells #[.int .u64 (b : Nat), .int .u64 (t : Nat), .slice a l.length c] 25)) := (Below.refl _ _).alloc (Nat.le_refl _) _
  have HB0 := Lib.hid hB
  have C0 := Lib.hid (Bx3.made w (.int .u64 (b : Nat)) (.int .u64 (t : Nat)) (.slice a l.length c) 25)
  have HS0 := Lib.hid (hs.on hB)
  have HLT := Lib.hid hs.len
  have KL := Lib.hid lives_true
  have HCK := Lib.hid (fun z h => log_check b t a c l z (A := 0) h)
  have HSM := Lib.hid (fun a1 c1 n z hn h1 h2 => same_self a1 c1 n a c l z hn h1 h2)
  have HFR := Lib.hid (fun (k : Nat) (hk : okB b t l = true) (hkl : k < l.length) (z : World) (hz : Sl z 0 z.heap.size a c l) => fr_call b t a c l k (q % 4 + 1) z hk hkl (Nat.succ_pos _) hb hz)
  have HRI := Lib.hid (fun (hk : okB b t l = true) => (row_is l b (ok_is hk).2.1 hb).1)
  clear hB hs
  go_enter Try.func8, Try.ntmps8
  go_upto_region 1 with fail
  generalize (w.alloc (.cells #[.int .u64 (b : Nat), .int .u64 (t : Nat), .slice a l.length c] 25)) = W0 at *
  cases hk : okB b t l
  · rw [hk] at HCK
    clear hk HSM HFR HRI
    go_wp2_with (go_at_call 15; go_loud ((with_reducible refine (KL.out _).mono ?_); rintro e w1 ⟨rfl, hb1⟩; have HV1 := Lib.hid hb1; have HB1 := Lib.hid (HB0.out.trans (hb1.mono HB0.out.size)); have HS1 := Lib.hid (HS0.out.on hb1); have C1 := Lib.hid (C0.out.below hb1); obtain ⟨d10, d11, d12⟩ := C1.out.cells; clear hb1))
    go_wp2_with (go_at_call 22; go_loud ((with_reducible refine (HCK.out _ HS1.out).mono ?_); rintro e w2 ⟨rfl, hb1⟩; have HB2 := Lib.hid (HB1.out.trans (hb1.mono HB1.out.size)); clear hb1))
    go_wp2
    go_ret
    exact ⟨rfl, HB2.out⟩
  · rw [hk] at HCK
    have HK := Lib.hid hk
    have hri := HRI.out hk
    unfold Lt64 at hri
    clear hk
    have HQ := Lib.hid hq
    obtain ⟨s, hs⟩ : ∃ s, s = q % 4 + 1 := ⟨_, rfl⟩
    have s1 : (q : Int).tmod 4 = ((q % 4 : Nat) : Int) := rfl
    have s2 : IntKind.u8.wrap ((q % 4 : Nat) : Int) = ((q % 4 : Nat) : Int) := by rw [IntKind.wrap_u8]; omega
    have s3 : IntKind.i64.wrap ((q % 4 : Nat) : Int) = ((q % 4 : Nat) : Int) := by rw [IntKind.wrap_i64]; omega
    have s4 : IntKind.i64.wrap (((q % 4 : Nat) : Int) + 1) = (s : Int) := by rw [IntKind.wrap_i64]; omega
    rw [← hs] at HFR
    go_wp2_with (go_at_call 15; go_loud ((with_reducible refine (KL.out _).mono ?_); rintro e w1 ⟨rfl, hb1⟩; have HV1 := Lib.hid hb1; have HB1 := Lib.hid (HB0.out.trans (hb1.mono HB0.out.size)); have HS1 := Lib.hid (HS0.out.on hb1); have C1 := Lib.hid (C0.out.below hb1); obtain ⟨d10, d11, d12⟩ := C1.out.cells; clear hb1))
    go_wp2_with (go_at_call 22; go_loud ((with_reducible refine (HCK.out _ HS1.out).mono ?_); rintro e w2 ⟨rfl, hb1⟩; have HV2 := Lib.hid (HV1.out.trans (hb1.mono HV1.out.size)); have HS2 := Lib.hid (HS1.out.on hb1); have C2 := Lib.hid (C1.out.below hb1); obtain ⟨d20, d21, d22⟩ := C2.out.cells; clear hb1))
    go_wp2
    clear hq
    have hsp : 0 < s := by omega
    have hs4 : s ≤ 4 := by have := HQ.out; omega
    have HSP := Lib.hid hsp
    clear hsp HCK KL
    obtain ⟨i0, hi, hz0, hz1, hz2⟩ := info_parts info_entry
    go_loopg [5, 6, 20] l.length (fun gg rv at' i wx => ∃ (j k at0 : Nat), j + gg = l.length ∧ i = .int .i64 j ∧ at' = .int .u64 at0 ∧ Aside (j ≤ k) ∧ Aside (k < l.length ∨ l.length = 0) ∧ Aside (0 < l.length → at0 = b + k + 1) ∧ Aside (Gr wx W0.heap.size rv (l.take k)) ∧ Aside (Below W0.heap.size W0 wx))
    case atStart =>
      refine ⟨0, 0, nx b, by omega, rfl, by rw [wrap_nx], Nat.le_refl _, (Nat.eq_zero_or_pos l.length).symm, fun hp => ?_, ?_, HV2.out⟩
      · unfold nx; omega
      · rw [List.take_zero]; exact Gr.nil _ _
    case round =>
      obtain ⟨j, k, at0, hjg, rfl, rfl, HJK, HKL, HAT, HGR, HBW⟩ := hrel
      have C := Lib.hid (C0.out.below HBW.out)
      have HS := Lib.hid (HS0.out.on HBW.out)
      obtain ⟨d0, d1, d2⟩ := C.out.cells
      cases gk with
      | zero =>
        have hl0 : l.length = 0 := by
          rcases HKL.out with h | h
          · have := HJK.out; omega
          · exact h
        have hnil : l = [] := List.eq_nil_of_length_eq_zero hl0
        have hG := HGR.out
        rw [hnil, List.take_nil] at hG
        obtain ⟨a1, c1, rfl⟩ := hG.slice
        have HS1 := Lib.hid (hG.sl (by simp))
        have HSA := Lib.hid (HSM.out a1 c1 l.length _ rfl (by rw [hnil]; exact HS1.out) HS.out)
        rw [hl0] at HSA d2 hjg ⊢
        rw [List.length_nil]
        obtain rfl : j = 0 := by omega
        clear hjg hl0 hnil hG HFR HRI
        go_wp2_with (go_at_call 16; go_loud ((with_reducible refine HSA.out.mono ?_); rintro e w5 ⟨rfl, hb⟩; have HBF := Lib.hid (HB0.out.trans ((HBW.out.trans (hb.mono HBW.out.size)).mono HB0.out.size)); clear hb))
        go_wp2
        go_ret
        exact ⟨rfl, HBF.out⟩
      | succ gg =>
        have hlt : k < l.length := by
          rcases HKL.out with h | h
          · exact h
          · omega
        have hjl : (j : Int) < (l.length : Int) := by omega
        have tk : IntKind.i64.wrap ((j : Int) + 1) = (j : Int) + 1 := by have := HLT.out; rw [IntKind.wrap_i64]; omega
        have hat0 : at0 = b + k + 1 := HAT.out (by omega)
        have hlk : (l.take k).length = k := by rw [List.length_take]; omega
        obtain ⟨a1, c1, rfl⟩ := HGR.out.slice
        rw [hlk] at HGR
        obtain ⟨m, hm⟩ : ∃ m, min s (l.length - k) = m := ⟨_, rfl⟩
        have hm1 : 1 ≤ m := by omega
        have hm4 : m ≤ 4 := by omega
        have hmk : k + m ≤ l.length := by omega
        have hrl : ((l.drop k).take m).length = m := by rw [List.length_take, List.length_drop]; omega
        have hcat : l.take k ++ (l.drop k).take m = l.take (k + m) := List.take_add.symm
        obtain ⟨k2, hk2⟩ : ∃ k2, k + m = k2 := ⟨_, rfl⟩
        have hk2l : (l.take k2).length = k2 := by rw [List.length_take]; omega
        have HF := Lib.hid (HFR.out k HK.out hlt _ HS.out)
        rw [hm, ← hat0, show ((s : Nat) : Int) = (q : Int) % 4 + 1 by omega] at HF
        have w1 : IntKind.u64.wrap (m : Int) = (m : Int) := by rw [IntKind.wrap_u64]; omega
        obtain ⟨at1, hat1⟩ : ∃ z, z = b + k2 + 1 := ⟨_, rfl⟩
        have w2' : IntKind.u64.wrap ((at0 : Int) + (m : Int)) = (at1 : Int) ∨ l.length ≤ k2 := by rw [IntKind.wrap_u64]; omega
        have HAT1 := Lib.hid hat1
        have HM1 := Lib.hid (show k + m ≤ maxLen by have := HLT.out; simp only [maxLen]; omega)
        have HM2 := Lib.hid (show (k + m) * 64 ≤ 140737488355328 by have := HLT.out; omega)
        have HRL := Lib.hid hrl
        have HCAT := Lib.hid hcat
        have HK2 := Lib.hid hk2
        have HK2L := Lib.hid hk2l
        have HLK := Lib.hid hlk
        have HJG := Lib.hid hjg
        have HM := Lib.hid (show k < k2 by omega)
        have HGS := Lib.hid HBW.out.size
        have e2 : ¬ (m : Int) < 0 := by omega
        clear hat0 hat1 s1 s2 s3 s4 hs hm hm1 hm4 hmk hrl hcat hk2 hjg hri HFR HRI HAT HKL
        rw [hlk]
        clear hlk
        by_cases hge : l.length ≤ k2
        · have f1 : (l.length : Int) ≤ (k2 : Int) := by omega
          have f2 : ¬ (k2 : Int) < (l.length : Int) := by omega
          have hall : l.take k2 = l := List.take_of_length_le hge
          have HALL := Lib.hid hall
          have HKE := Lib.hid (show k2 = l.length by have := HK2L.out; rw [hall] at this; omega)
          clear hall hge w2'
          go_wp2_with (first
            | (go_at_call 13; go_loud ((with_reducible refine HF.out.mono ?_); rintro e w3 ⟨⟨g, c3, rfl, ho⟩, hb⟩; have HBV := Lib.hid (HBW.out.trans (hb.mono HBW.out.size)); have HV3 := Lib.hid (HBW.out.trans (hb.mono HBW.out.size)); have C3 := Lib.hid (C.out.below hb); obtain ⟨xs, news, O1, L1, CN, H1, FIN⟩ := (HGR.out.below hb).app ho (fun g hg => (HGR.out.lt g hg).2); rw [HLK.out] at O1; rw [HRL.out] at L1; rw [HLK.out, HRL.out, HCAT.out] at FIN; have O1 := Lib.hid O1; have L1 := Lib.hid L1; have CN := Lib.hid CN; have H1 := Lib.hid H1; have FIN := Lib.hid FIN; obtain ⟨d30, d31, d32⟩ := C3.out.cells; clear hb ho))
            | (at_builtin; go_loud (refine wpList_append_own_at _ rfl _ _ 23 rfl W0.heap.size 53 i0 _ 5 64 Try.underlying23 hi hz0 hz1 hz2 rfl (by omega) (.slice a1 k c1) k xs rfl O1.out ⟨g, 0, none⟩ m c3 news rfl L1.out (CN.out _ rfl) H1.out HM1.out HM2.out HV3.out.size ?_; intro v' w4 hown hgrow hnil hat; have HG4 := Lib.hid (FIN.out v' w4 hown hgrow hat); have HV4 := Lib.hid (HV3.out.grown hgrow HV3.out.size (fun k hk => ((HGR.out.lt k hk).1))); rw [HK2.out] at HG4; obtain ⟨a5, c5, rfl⟩ := HG4.out.slice; rw [HK2L.out] at HG4 ⊢; have C4 := Lib.hid (C0.out.below HV4.out); obtain ⟨d40, d41, d42⟩ := C4.out.cells; clear hown hgrow hnil hat)))
          have HG5 := HG4
          rw [HALL.out] at HG5
          have HSA := Lib.hid (HSM.out a5 c5 k2 _ HKE.out (HG5.out.sl HLT.out) (HS0.out.on HV4.out))
          go_wp2_with (go_at_call 16; go_loud ((with_reducible refine HSA.out.mono ?_); rintro e w5 ⟨rfl, hb⟩; have HBF := Lib.hid (HB0.out.trans ((HV4.out.trans (hb.mono HV4.out.size)).mono HB0.out.size)); clear hb))
          go_wp2
          go_ret
          exact ⟨rfl, HBF.out⟩
        · have f1 : ¬ (l.length : Int) ≤ (k2 : Int) := by omega
          have f2 : (k2 : Int) < (l.length : Int) := by omega
          have f3 := w2'.resolve_right hge
          have HGE := Lib.hid (show k2 < l.length by omega)
          clear hge w2'
          go_wp2_with (first
            | (go_at_call 13; go_loud ((with_reducible refine HF.out.mono ?_); rintro e w3 ⟨⟨g, c3, rfl, ho⟩, hb⟩; have HBV := Lib.hid (HBW.out.trans (hb.mono HBW.out.size)); have HV3 := Lib.hid (HBW.out.trans (hb.mono HBW.out.size)); have C3 := Lib.hid (C.out.below hb); obtain ⟨xs, news, O1, L1, CN, H1, FIN⟩ := (HGR.out.below hb).app ho (fun g hg => (HGR.out.lt g hg).2); rw [HLK.out] at O1; rw [HRL.out] at L1; rw [HLK.out, HRL.out, HCAT.out] at FIN; have O1 := Lib.hid O1; have L1 := Lib.hid L1; have CN := Lib.hid CN; have H1 := Lib.hid H1; have FIN := Lib.hid FIN; obtain ⟨d30, d31, d32⟩ := C3.out.cells; clear hb ho))
            | (at_builtin; go_loud (refine wpList_append_own_at _ rfl _ _ 23 rfl W0.heap.size 53 i0 _ 5 64 Try.underlying23 hi hz0 hz1 hz2 rfl (by omega) (.slice a1 k c1) k xs rfl O1.out ⟨g, 0, none⟩ m c3 news rfl L1.out (CN.out _ rfl) H1.out HM1.out HM2.out HV3.out.size ?_; intro v' w4 hown hgrow hnil hat; have HG4 := Lib.hid (FIN.out v' w4 hown hgrow hat); have HV4 := Lib.hid (HV3.out.grown hgrow HV3.out.size (fun k hk => ((HGR.out.lt k hk).1))); rw [HK2.out] at HG4; obtain ⟨a5, c5, rfl⟩ := HG4.out.slice; rw [HK2L.out] at HG4 ⊢; have C4 := Lib.hid (C0.out.below HV4.out); obtain ⟨d40, d41, d42⟩ := C4.out.cells; clear hown hgrow hnil hat)))
          go_wp2
          go_roundg gg
          case measure => omega
          case rel => exact ⟨j + 1, k2, at1, by have := HJG.out; omega, by simp, rfl, by have := HJK.out; have := HM.out; exact Nat.le_trans (Nat.succ_le_succ HJK.out) HM.out, .inl HGE.out, fun _ => HAT1.out, HG4.out, HV4.out⟩
end Lo
end Go.Proofs.Ythcjnnbnacdhoaa
