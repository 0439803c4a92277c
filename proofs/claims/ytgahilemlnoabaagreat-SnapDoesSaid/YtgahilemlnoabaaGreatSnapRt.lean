/-
  THE DOCUMENT'S ANSWER for snapshots: gafferref03.TakeInts; gafferref05.nothing, Check, Bytes, Encode, Take, Decode.
-/
import Derived.Test.YtgahilemlnoabaaGreatSnapRf
namespace Go.Proofs.YtgahilemlnoabaaGreat
open Go.RowKit
namespace Hd
open PM
def tiB (l : List UInt8) : Nat → Bool
  | 0 => decide (tnW l = 0) && decide (tnN l ≤ 7)
  | k + 1 => tiB l k && (decide (tnW (mbR l k) = 0) && decide (tnN (mbR l k) ≤ 7))
def tiO (l : List UInt8) : Bool := tiB l (upV 7 l)
theorem tiB_less (l : List UInt8) (k : Nat) (h : tiB l k = false) : ∀ j, tiB l (k + j) = false
  | 0 => h
  | j + 1 => by
    show (tiB l (k + j) && _) = false
    rw [tiB_less l k h j]; rfl
theorem up_ok {l : List UInt8} (_h : tnW l = 0) (h7 : tnN l ≤ 7) : upV 7 l = tnN l ∧ upR 7 l = tnR l := by
  unfold upV upR
  rw [if_neg (by omega), if_neg (by omega)]
  exact ⟨rfl, rfl⟩
/-- What TakeInts comes to. -/
def TiIs (w : World) (l : List UInt8) (e : Ending) (w' : World) : Prop :=
  ∃ v', e = .returned (.tuple #[v', .string (bs (if tiO l = true then mbR l (upV 7 l) else [])), .bool (tiO l)]) ∧ OwnI w' w.heap.size v' (if tiO l = true then mbL l (upV 7 l) else [])
theorem TiIs.no {w w' : World} {l : List UInt8} (h : tiO l = false) : TiIs w l (.returned (.tuple #[.slice none 0 0, .string ⟨#[]⟩, .bool false])) w' := by
  refine ⟨.slice none 0 0, ?_, ?_⟩
  · rw [h]; rfl
  · rw [h]; exact OwnI.nil _ _
theorem TiIs.yes {w w' : World} {l : List UInt8} (h : tiO l = true) {v : Value} (ho : OwnI w' w.heap.size v (mbL l (upV 7 l))) : TiIs w l (.returned (.tuple #[v, .string (bs (mbR l (upV 7 l))), .bool true])) w' := by
  refine ⟨v, ?_, ?_⟩
  · rw [h]; rfl
  · rw [h]; exact ho
set_option maxRecDepth 100000 in
set_option maxHeartbeats 4000000 in
theorem takeints_ref (l : List UInt8) (w : World) (hl : l.length ≤ maxLen) :
    Calls Tryz.prog 80 #[.string (bs l)] w fun e w' => TiIs w l e w' ∧ Below w.heap.size w w' := by
  have hto := fun (m : List UInt8) (hm : m.length ≤ maxLen) w => PackTakeRef.take_ref (bs m) w (by rw [bs_size]; exact hm)
  unfold PackTakeNum.Took at hto
  simp only [bs_data] at hto
  have HTO := Lib.hid hto
  have HT0 := Lib.hid (fun w => hto l hl w)
  have HNO := Lib.hid (fun (h : tiO l = false) w' => TiIs.no (w := w) (w' := w') h)
  have HYE := Lib.hid (fun (h : tiO l = true) w' v ho => TiIs.yes (w := w) (w' := w') h (v := v) ho)
  have HLR : Hid (∀ k, (mbR l k).length ≤ maxLen) := fun k => Nat.le_trans (mbR_length l k) hl
  have hb0 : tiB l 0 = (decide (tnW l = 0) && decide (tnN l ≤ 7)) := rfl
  have HO : Hid (tiO l = tiB l (upV 7 l)) := rfl
  have HLS := Lib.hid (fun k h j => tiB_less l k h j)
  have HST : Hid (∀ k, tiB l (k + 1) = (tiB l k && (decide (tnW (mbR l k) = 0) && decide (tnN (mbR l k) ≤ 7)))) := fun _ => rfl
  clear hto hl
  by_cases h0 : tnW l = 0
  · by_cases h7 : tnN l ≤ 7
    · have hup := up_ok h0 h7
      have h7' : ¬ 7 < tnN l := by omega
      have h7'' : decide ((7 : Int) < (tnN l : Nat)) = false := by simp; omega
      have HB0 : Hid (tiB l 0 = true) := by show _ = _; rw [hb0, decide_eq_true h0, decide_eq_true h7]; rfl
      have er : mbR l 0 = tnR l := hup.2
      rw [hup.1] at HYE HO
      have ER := Lib.hid er
      rw [h0] at HT0
      clear hup h0 hb0 h7'
      have h7i : ((tnN l : Nat) : Int) ≤ 7 := by omega
      have h7n : ¬ (7 : Int) < (tnN l : Nat) := by omega
      have EX : Hid (.string (bs (tnR l)) = (.string (bs (mbR l 0)) : Value)) := by show _ = _; rw [er]
      clear er
      generalize hqn : tnN l = n at *
      generalize bs (tnR l) = r0 at *
      generalize bs l = s at *
      go_enter Tryz.func80, Tryz.ntmps80
      go_wp2_with (go_at_call 79; go_loud ((with_reducible refine (HT0.out _).mono ?_); rintro e w1 ⟨rfl, hb⟩; have HB1 := Lib.hid hb; clear hb))
      go_wp2
      go_loopg [6, 8, 9] n (fun gg rest out i wx => ∃ (k : Nat) (v : Value), k + gg = n ∧ i = .int .u64 k ∧ rest = .string (bs (mbR l k)) ∧ out = v ∧ Aside (tiB l k = true) ∧ Aside (Below w.heap.size w wx) ∧ Aside (OwnI wx w.heap.size v (mbL l k)))
      case atStart => exact ⟨0, .slice none 0 0, by omega, rfl, EX.out, rfl, HB0.out, HB1.out, OwnI.nil _ _⟩
      case round =>
        obtain ⟨k, v, hkg, rfl, rfl, rfl, HK, HW, HV⟩ := hrel
        have hov := HV.out
        obtain ⟨av, cv, rfl⟩ := hov.slice
        cases gk with
        | zero =>
          obtain rfl : k = n := by omega
          clear hkg
          have HF := Lib.hid (HYE.out (HO.out.trans HK.out) wr _ hov)
          clear hov
          generalize bs (mbR l k) = rr at *
          generalize tiO l = oo at *
          go_wp2
          go_ret3
          exact ⟨HF.out, HW.out⟩
        | succ gg =>
          have hkn : k < n := by omega
          have hkn2 : (k : Int) < (n : Int) := by omega
          have tk : IntKind.u64.wrap ((k : Int) + 1) = (k : Int) + 1 := by rw [IntKind.wrap_u64]; omega
          have HTK := Lib.hid (fun w => HTO.out (mbR l k) (HLR.out k) w)
          have HSK := Lib.hid (HST.out k)
          have HLK : Hid (tiB l (k + 1) = false → tiO l = false) := by
            intro h
            have := HLS.out (k + 1) h (n - (k + 1))
            rw [show k + 1 + (n - (k + 1)) = n by omega] at this
            exact HO.out.trans this
          by_cases g0 : tnW (mbR l k) = 0
          · rw [g0] at HTK
            by_cases g7 : tnN (mbR l k) ≤ 7
            · have hup := up_ok g0 g7
              have g7'' : decide ((7 : Int) < (tnN (mbR l k) : Nat)) = false := by simp; omega
              have g7n : ¬ (7 : Int) < (tnN (mbR l k) : Nat) := by omega
              have HB2 : Hid (tiB l (k + 1) = true) := by show _ = _; rw [HSK.out, HK.out, decide_eq_true g0, decide_eq_true g7]; rfl
              have eL : mbL l (k + 1) = mbL l k ++ [tnN (mbR l k)] := by show mbL l k ++ [upV 7 (mbR l k)] = _; rw [hup.1]
              have eR : mbR l (k + 1) = tnR (mbR l k) := hup.2
              have hlen : (mbL l k).length ≤ 7 := by rw [mbL_length]; omega
              have tv : IntKind.i64.wrap ((tnN (mbR l k) : Nat) : Int) = ((tnN (mbR l k) : Nat) : Int) := by rw [IntKind.wrap_i64]; omega
              have EL := Lib.hid eL
              have ER2 : Hid (.string (bs (tnR (mbR l k))) = (.string (bs (mbR l (k + 1))) : Value)) := by show _ = _; rw [eR]
              clear hup g0 g7 eL eR HSK HLK
              generalize bs (tnR (mbR l k)) = r2 at *
              generalize bs (mbR l k) = r1 at *
              generalize tnN (mbR l k) = m at *
              generalize mbL l k = ml at *
              obtain ⟨i0, hi, hq0, hq1, hq2⟩ := info_parts info_int
              have HOV := Lib.hid hov
              clear hov
              have HMX := Lib.hid (show ml.length + 1 ≤ maxLen by unfold maxLen; omega)
              have HBY := Lib.hid (show (ml.length + 1) * 8 ≤ 140737488355328 by omega)
              have HON : Hid (∀ u ∈ [Value.int .i64 (m : Nat)], u.oneCell' = true) := by intro u hu; simp at hu; subst hu; rfl
              have HNW : Hid (∀ (w2 : World) j u, [Value.int .i64 (m : Nat)][j]? = some u → (w2.alloc (.cells #[.int .i64 (m : Nat)] 3)).cell? ((⟨w2.heap.size, 0, none⟩ : Addr).add j) = some u) := by
                intro w2 j u hj
                match j, hj with
                | 0, hj => simp at hj; subst hj; simp [go_sem, Addr.add]
                | j + 1, hj => simp at hj
              have HAL : Hid (∀ (w2 : World), w.heap.size ≤ w2.heap.size → w.heap.size ≤ (w2.alloc (.cells #[.int .i64 (m : Nat)] 3)).heap.size) := by intro w2 h; simp; omega
              clear hlen
              go_wp2_with (first | (go_at_call 79; go_loud ((with_reducible refine (HTK.out _).mono ?_); rintro e w2 ⟨rfl, hb⟩; have HW2 := Lib.hid (HW.out.trans (hb.mono HW.out.size)); have HV2 := Lib.hid (HOV.out.below hb); have HA2 := Lib.hid (HV2.out.al (.cells #[.int .i64 (m : Nat)] 3)); have HN2 := Lib.hid (HNW.out w2); have HS2 := Lib.hid (HAL.out w2 HW2.out.size); clear hb)) | (at_builtin; go_loud (refine wpList_append_own _ rfl _ _ 26 rfl w.heap.size 3 i0 _ 1 8 Tryz.underlying26 hi hq0 hq1 hq2 rfl (by omega) _ _ _ rfl HA2.out ⟨w2.heap.size, 0, none⟩ 1 1 [.int .i64 (m : Nat)] rfl rfl HN2.out HON.out HMX.out HBY.out HS2.out ?_; intro v' w3 hown' hg hnil; clear hnil)))
              have HO3 : Hid (OwnI w3 w.heap.size v' (ml ++ [m])) := by
                show World.ownsRow _ _ _ _ _ _ _
                rw [List.length_append]
                simpa [encI] using hown'
              have HW3 := Lib.hid ((HW2.out.alloc HW2.out.size (.cells #[.int .i64 (m : Nat)] 3)).grown hg HS2.out (fun k hk => (World.ownsRow.lt HA2.out k hk).1))
              clear hown' hg
              obtain ⟨a3, c3, rfl⟩ := HO3.out.slice
              go_wp2
              go_roundg gg
              case measure => omega
              case rel => exact ⟨k + 1, _, by omega, by simp, ER2.out, rfl, HB2.out, HW3.out, by rw [EL.out]; exact HO3.out⟩
            · have g7'' : decide ((7 : Int) < (tnN (mbR l k) : Nat)) = true := by simp; omega
              have g7n : (7 : Int) < (tnN (mbR l k) : Nat) := by omega
              have HF : Hid (∀ w', TiIs w l (.returned (.tuple #[.slice none 0 0, .string ⟨#[]⟩, .bool false])) w') := fun w' => HNO.out (HLK.out (by rw [HSK.out, HK.out, decide_eq_true g0, decide_eq_false g7]; rfl)) w'
              clear g0 g7 HSK HLK hov
              generalize bs (tnR (mbR l k)) = r2 at *
              generalize bs (mbR l k) = r1 at *
              generalize tnN (mbR l k) = m at *
              go_wp2_with (go_at_call 79; go_loud ((with_reducible refine (HTK.out _).mono ?_); rintro e w2 ⟨rfl, hb⟩; have HW2 := Lib.hid (HW.out.trans (hb.mono HW.out.size)); clear hb))
              go_wp2
              go_ret3
              exact ⟨HF.out _, HW2.out⟩
          · have HF : Hid (∀ w', TiIs w l (.returned (.tuple #[.slice none 0 0, .string ⟨#[]⟩, .bool false])) w') := fun w' => HNO.out (HLK.out (by rw [HSK.out, HK.out, decide_eq_false g0]; rfl)) w'
            have g1 : (((tnW (mbR l k) : Nat) : Int) != 0) = true := by simp; omega
            have g2 : ¬ ((tnW (mbR l k) : Nat) : Int) = 0 := by omega
            clear g0 HSK HLK hov
            generalize bs (tnR (mbR l k)) = r2 at *
            generalize bs (mbR l k) = r1 at *
            generalize tnN (mbR l k) = m at *
            generalize tnW (mbR l k) = wy at *
            go_wp2_with (go_at_call 79; go_loud ((with_reducible refine (HTK.out _).mono ?_); rintro e w2 ⟨rfl, hb⟩; have HW2 := Lib.hid (HW.out.trans (hb.mono HW.out.size)); clear hb))
            go_wp2
            go_ret3
            exact ⟨HF.out _, HW2.out⟩
    · have h7n : (7 : Int) < (tnN l : Nat) := by omega
      have HF : Hid (∀ w', TiIs w l (.returned (.tuple #[.slice none 0 0, .string ⟨#[]⟩, .bool false])) w') := fun w' => HNO.out (by
        have := HLS.out 0 (by rw [hb0, decide_eq_true h0, decide_eq_false h7]; rfl) (upV 7 l)
        rw [Nat.zero_add] at this
        exact HO.out.trans this) w'
      rw [h0] at HT0
      clear h0 h7 hb0
      generalize tnN l = n at *
      generalize bs (tnR l) = r0 at *
      generalize bs l = s at *
      go_enter Tryz.func80, Tryz.ntmps80
      go_wp2_with (go_at_call 79; go_loud ((with_reducible refine (HT0.out _).mono ?_); rintro e w1 ⟨rfl, hb⟩; have HB1 := Lib.hid hb; clear hb))
      go_wp2
      go_ret3
      exact ⟨HF.out _, HB1.out⟩
  · have HF : Hid (∀ w', TiIs w l (.returned (.tuple #[.slice none 0 0, .string ⟨#[]⟩, .bool false])) w') := fun w' => HNO.out (by
      have := HLS.out 0 (by rw [hb0, decide_eq_false h0]; rfl) (upV 7 l)
      rw [Nat.zero_add] at this
      exact HO.out.trans this) w'
    have g1 : (((tnW l : Nat) : Int) != 0) = true := by simp; omega
    have g2 : ¬ ((tnW l : Nat) : Int) = 0 := by omega
    clear h0 hb0
    generalize tnW l = wy at *
    generalize tnN l = n at *
    generalize bs (tnR l) = r0 at *
    generalize bs l = s at *
    go_enter Tryz.func80, Tryz.ntmps80
    go_wp2_with (go_at_call 79; go_loud ((with_reducible refine (HT0.out _).mono ?_); rintro e w1 ⟨rfl, hb⟩; have HB1 := Lib.hid hb; clear hb))
    go_wp2
    go_ret3
    exact ⟨HF.out _, HB1.out⟩
end Hd
end Go.Proofs.YtgahilemlnoabaaGreat
