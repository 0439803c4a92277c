/-
  THE DOCUMENT'S ANSWER: gafferref05.Take, Decode; the walk of SnapCodes.
-/
import Derived.Test.YtgahilemlnoabaaGreatSnapRc
namespace Go.Proofs.YtgahilemlnoabaaGreat
open Go.RowKit
namespace Hd
open PM
set_option maxRecDepth 100000 in
set_option maxHeartbeats 4000000 in
theorem take_ref5 (l : List UInt8) (w : World) (hl : l.length ≤ maxLen) :
    Calls Tryz.prog 41 #[.string (bs l)] w fun e w' => RtIs w l e w' ∧ Below w.heap.size w w' := by
  have ht1 := fun w => PackTakeRef.take_ref (bs l) w (by rw [bs_size]; exact hl)
  have ht2 := fun w => PackTakeRef.take_ref (bs (tnR l)) w (by rw [bs_size]; exact Nat.le_trans (tnR_length l) hl)
  have hsm : (sm l).length ≤ maxLen := Nat.le_trans (tnR_length _) (Nat.le_trans (tnR_length l) hl)
  have hti := fun w => takeints_ref (sm l) w hsm
  unfold PackTakeNum.Took at ht1 ht2
  simp only [bs_data] at ht1 ht2
  unfold TiIs at hti
  have eS : tnR (tnR l) = sm l := rfl
  rw [eS] at ht2
  obtain ⟨r3, hr3⟩ : ∃ r3, r3 = if tiO (sm l) = true then mbR (sm l) (upV 7 (sm l)) else [] := ⟨_, rfl⟩
  obtain ⟨ml, hml⟩ : ∃ ml, ml = if tiO (sm l) = true then mbL (sm l) (upV 7 (sm l)) else [] := ⟨_, rfl⟩
  rw [← hr3, ← hml] at hti
  have hrl : r3.length ≤ maxLen := by
    rw [hr3]
    split
    · exact Nat.le_trans (mbR_length _ _) hsm
    · exact Nat.zero_le _
  have htt := fun w => PackText.takeText_ref (bs r3) w (by rw [bs_size]; exact hrl)
  unfold PackText.TookT at htt
  simp only [bs_data] at htt
  have HML : Hid (ml.length ≤ 1000 ∧ ∀ k ∈ ml, k ≤ 9223372036854775807) := by
    show _ ∧ _
    rw [hml]
    split
    · exact ⟨by rw [mbL_length]; have := upV_le 7 (sm l); omega, fun k hk => by have := mbL_le _ _ k hk; omega⟩
    · simp
  have HCK := Lib.hid (fun v z hz => check_ref5 (tnN l) (tnN (tnR l)) v (ml.map fun (k : Nat) => (k : Int)) (bs (ttT r3)) z hz)
  have hno := fun (h : rfO l = false) w' => RtIs.no (w := w) (w' := w') h
  have hye := fun (h : rfO l = true) w' v ho => RtIs.yes (w := w) (w' := w') h (v := v) ho
  have hrf : rfO l = (decide (tnW l = 0) && (decide (tnW (tnR l) = 0) && (tiO (sm l) && (decide (ttW r3 = 0) && decide (chkS (tnN l) (tnN (tnR l)) (ml.map fun (k : Nat) => (k : Int)) (bs (ttT r3)) = 0))))) := by
    unfold rfO
    cases hq : tiO (sm l)
    · simp
    · rw [hq, if_pos rfl] at hr3 hml
      subst hr3 hml
      rfl
  have hye2 : tiO (sm l) = true → rfO l = true → ∀ w' v, OwnI w' w.heap.size v ml → RtIs w l (.returned (.tuple #[.agg #[.int .u64 (tnN l : Nat), .int .u64 (tnN (tnR l) : Nat), v, .string (bs (ttT r3))], .string (bs (ttR r3)), .bool true])) w' := by
    intro hq h w' v ho
    rw [hq, if_pos rfl] at hr3 hml
    subst hr3 hml
    exact hye h w' v ho
  have HRB : Hid (∀ z, Below (w.alloc (.cells #[.int .u64 0, .int .u64 0, .slice none 0 0, .string ⟨#[]⟩] 28)).heap.size (w.alloc (.cells #[.int .u64 0, .int .u64 0, .slice none 0 0, .string ⟨#[]⟩] 28)) z → Bx4 z w.heap.size (.int .u64 0) (.int .u64 0) (.slice none 0 0) (.string ⟨#[]⟩) ∧ Below w.heap.size w z) := by
    intro z hb
    exact ⟨(Bx4.made w _ _ _ _ _).below hb, ((Below.refl w.heap.size w).alloc (Nat.le_refl _) _).trans (hb.mono (by simp))⟩
  clear hr3 hml hrl hsm eS hye hl
  generalize bs (tnR l) = s1 at *
  generalize bs (sm l) = s2 at *
  generalize bs r3 = s3 at *
  generalize bs (ttT r3) = st at *
  generalize bs (ttR r3) = s4 at *
  generalize bs l = sb at *
  generalize tnN (tnR l) = n2 at *
  generalize tnN l = n1 at *
  generalize tnW (tnR l) = W2 at *
  generalize tnW l = W1 at *
  generalize ttW r3 = W4 at *
  generalize tiO (sm l) = o3 at *
  generalize chkS n1 n2 (ml.map fun (k : Nat) => (k : Int)) st = ck at *
  by_cases h1 : W1 = 0
  · subst h1
    by_cases h2 : W2 = 0
    · subst h2
      cases o3
      · have HNO := Lib.hid (hno (by rw [hrf]; rfl))
        have HT1 := Lib.hid ht1
        have HT2 := Lib.hid ht2
        have HTI := Lib.hid hti
        have HTT := Lib.hid htt
        clear ht1 ht2 hti htt hno hye2 hrf
        go_enter Tryz.func41, Tryz.ntmps41
        go_wp2_with fail
        refine (HT1.out _).mono ?_
        rintro e w1 ⟨rfl, hb⟩
        have HB1 := Lib.hid (HRB.out _ hb)
        clear hb
        go_wp2_with fail
        refine (HT2.out _).mono ?_
        rintro e w2 ⟨rfl, hb⟩
        have HB2 := Lib.hid (And.intro (HB1.out.1.below hb) (HB1.out.2.trans (hb.mono HB1.out.2.size)))
        clear hb
        go_wp2_with fail
        refine (HTI.out _).mono ?_
        rintro e w3 ⟨⟨v3, rfl, ho⟩, hb⟩
        obtain ⟨a3, c3, rfl⟩ := ho.slice
        have HB3 := Lib.hid (And.intro (HB2.out.1.below hb) (HB2.out.2.trans (hb.mono HB2.out.2.size)))
        have HO3 := Lib.hid (ho.less (b2 := w.heap.size + 1) (by have := HB2.out.1.lt; omega))
        clear hb ho
        go_wp2_with fail
        refine (HTT.out _).mono ?_
        rintro e w4 ⟨rfl, hb⟩
        have hb4 := hb.alloc hb.size (.cells #[.int .u64 (n1 : Nat), .int .u64 (n2 : Nat), .slice a3 ml.length c3, .string st] 28)
        have HB4 := Lib.hid (And.intro (HB3.out.1.below hb4) (HB3.out.2.trans (hb4.mono HB3.out.2.size)))
        have HO4 := Lib.hid (HO3.out.below hb4)
        have HS4 := Lib.hid (Bx4.made w4 (.int .u64 (n1 : Nat)) (.int .u64 (n2 : Nat)) (.slice a3 ml.length c3) (.string st) 28)
        clear hb hb4
        obtain ⟨r0, r1, r2, r3⟩ := HB4.out.1.cells
        obtain ⟨f0, f1, f2, f3⟩ := HB4.out.1.fz
        go_wp2
        refine bodyPost_snap3 rfl w.heap.size 0 0 (.slice none 0 0) ⟨#[]⟩ rfl rfl ?_ ?_
        case refine_1 => exact (((HB4.out.1.set0 _).set1 _).set2 _).set3 _
        case refine_2 => exact ⟨HNO.out _, (((HB4.out.2.setCell (Nat.le_refl _) _).setCell (Nat.le_refl _) _).setCell (Nat.le_refl _) _).setCell (Nat.le_refl _) _⟩
      · by_cases h4 : W4 = 0
        · subst h4
          by_cases h5 : ck = 0
          · subst h5
            have HYE := Lib.hid (hye2 rfl (by rw [hrf]; rfl))
            have HT1 := Lib.hid ht1
            have HT2 := Lib.hid ht2
            have HTI := Lib.hid hti
            have HTT := Lib.hid htt
            clear ht1 ht2 hti htt hno hye2 hrf
            go_enter Tryz.func41, Tryz.ntmps41
            go_wp2_with fail
            refine (HT1.out _).mono ?_
            rintro e w1 ⟨rfl, hb⟩
            have HB1 := Lib.hid (HRB.out _ hb)
            clear hb
            go_wp2_with fail
            refine (HT2.out _).mono ?_
            rintro e w2 ⟨rfl, hb⟩
            have HB2 := Lib.hid (And.intro (HB1.out.1.below hb) (HB1.out.2.trans (hb.mono HB1.out.2.size)))
            clear hb
            go_wp2_with fail
            refine (HTI.out _).mono ?_
            rintro e w3 ⟨⟨v3, rfl, ho⟩, hb⟩
            obtain ⟨a3, c3, rfl⟩ := ho.slice
            have HB3 := Lib.hid (And.intro (HB2.out.1.below hb) (HB2.out.2.trans (hb.mono HB2.out.2.size)))
            have HO3 := Lib.hid (ho.less (b2 := w.heap.size + 1) (by have := HB2.out.1.lt; omega))
            clear hb ho
            go_wp2_with fail
            refine (HTT.out _).mono ?_
            rintro e w4 ⟨rfl, hb⟩
            have hb4 := hb.alloc hb.size (.cells #[.int .u64 (n1 : Nat), .int .u64 (n2 : Nat), .slice a3 ml.length c3, .string st] 28)
            have HB4 := Lib.hid (And.intro (HB3.out.1.below hb4) (HB3.out.2.trans (hb4.mono HB3.out.2.size)))
            have HO4 := Lib.hid (HO3.out.below hb4)
            have HS4 := Lib.hid (Bx4.made w4 (.int .u64 (n1 : Nat)) (.int .u64 (n2 : Nat)) (.slice a3 ml.length c3) (.string st) 28)
            clear hb hb4
            obtain ⟨s0', s1', s2', s3'⟩ := HS4.out.cells
            go_wp2_with fail
            refine (HCK.out _ _ (HO4.out.ints (Nat.le_trans HML.out.1 (by omega)) HML.out.2)).mono ?_
            rintro e w5 ⟨rfl, hb⟩
            have HB5 := Lib.hid (And.intro (HB4.out.1.below hb) (HB4.out.2.trans (hb.mono HB4.out.2.size)))
            have HO5 := Lib.hid (HO4.out.below hb)
            have HS5 := Lib.hid (HS4.out.below hb)
            clear hb s0' s1' s2' s3'
            obtain ⟨s0', s1', s2', s3'⟩ := HS5.out.cells
            obtain ⟨r0, r1, r2, r3⟩ := HB5.out.1.cells
            obtain ⟨f0, f1, f2, f3⟩ := HB5.out.1.fz
            go_wp2
            refine bodyPost_snap3 rfl w.heap.size n1 n2 (.slice a3 ml.length c3) st rfl rfl ?_ ?_
            case refine_1 => exact (((HB5.out.1.set0 _).set1 _).set2 _).set3 _
            case refine_2 => exact ⟨HYE.out _ _ (((((HO5.out.put (p := w.heap.size) (by omega) 0 _).put (p := w.heap.size) (by omega) 1 _).put (p := w.heap.size) (by omega) 2 _).put (p := w.heap.size) (by omega) 3 _).less (by omega)), (((HB5.out.2.setCell (Nat.le_refl _) _).setCell (Nat.le_refl _) _).setCell (Nat.le_refl _) _).setCell (Nat.le_refl _) _⟩
          · have HNO := Lib.hid (hno (by rw [hrf, decide_eq_false h5]; rfl))
            have h5' : (((ck : Nat) : Int) != 0) = true := by simp; omega
            have h5'' : ¬ ((ck : Nat) : Int) = 0 := by omega
            have HT1 := Lib.hid ht1
            have HT2 := Lib.hid ht2
            have HTI := Lib.hid hti
            have HTT := Lib.hid htt
            clear ht1 ht2 hti htt hno hye2 hrf h5
            go_enter Tryz.func41, Tryz.ntmps41
            go_wp2_with fail
            refine (HT1.out _).mono ?_
            rintro e w1 ⟨rfl, hb⟩
            have HB1 := Lib.hid (HRB.out _ hb)
            clear hb
            go_wp2_with fail
            refine (HT2.out _).mono ?_
            rintro e w2 ⟨rfl, hb⟩
            have HB2 := Lib.hid (And.intro (HB1.out.1.below hb) (HB1.out.2.trans (hb.mono HB1.out.2.size)))
            clear hb
            go_wp2_with fail
            refine (HTI.out _).mono ?_
            rintro e w3 ⟨⟨v3, rfl, ho⟩, hb⟩
            obtain ⟨a3, c3, rfl⟩ := ho.slice
            have HB3 := Lib.hid (And.intro (HB2.out.1.below hb) (HB2.out.2.trans (hb.mono HB2.out.2.size)))
            have HO3 := Lib.hid (ho.less (b2 := w.heap.size + 1) (by have := HB2.out.1.lt; omega))
            clear hb ho
            go_wp2_with fail
            refine (HTT.out _).mono ?_
            rintro e w4 ⟨rfl, hb⟩
            have hb4 := hb.alloc hb.size (.cells #[.int .u64 (n1 : Nat), .int .u64 (n2 : Nat), .slice a3 ml.length c3, .string st] 28)
            have HB4 := Lib.hid (And.intro (HB3.out.1.below hb4) (HB3.out.2.trans (hb4.mono HB3.out.2.size)))
            have HO4 := Lib.hid (HO3.out.below hb4)
            have HS4 := Lib.hid (Bx4.made w4 (.int .u64 (n1 : Nat)) (.int .u64 (n2 : Nat)) (.slice a3 ml.length c3) (.string st) 28)
            clear hb hb4
            obtain ⟨s0', s1', s2', s3'⟩ := HS4.out.cells
            go_wp2_with fail
            refine (HCK.out _ _ (HO4.out.ints (Nat.le_trans HML.out.1 (by omega)) HML.out.2)).mono ?_
            rintro e w5 ⟨rfl, hb⟩
            have HB5 := Lib.hid (And.intro (HB4.out.1.below hb) (HB4.out.2.trans (hb.mono HB4.out.2.size)))
            have HO5 := Lib.hid (HO4.out.below hb)
            have HS5 := Lib.hid (HS4.out.below hb)
            clear hb s0' s1' s2' s3'
            obtain ⟨s0', s1', s2', s3'⟩ := HS5.out.cells
            obtain ⟨r0, r1, r2, r3⟩ := HB5.out.1.cells
            obtain ⟨f0, f1, f2, f3⟩ := HB5.out.1.fz
            go_wp2
            refine bodyPost_snap3 rfl w.heap.size 0 0 (.slice none 0 0) ⟨#[]⟩ rfl rfl ?_ ?_
            case refine_1 => exact (((HB5.out.1.set0 _).set1 _).set2 _).set3 _
            case refine_2 => exact ⟨HNO.out _, (((HB5.out.2.setCell (Nat.le_refl _) _).setCell (Nat.le_refl _) _).setCell (Nat.le_refl _) _).setCell (Nat.le_refl _) _⟩
        · have HNO := Lib.hid (hno (by rw [hrf, decide_eq_false h4]; rfl))
          have h4' : (((W4 : Nat) : Int) != 0) = true := by simp; omega
          have h4'' : ¬ ((W4 : Nat) : Int) = 0 := by omega
          have HT1 := Lib.hid ht1
          have HT2 := Lib.hid ht2
          have HTI := Lib.hid hti
          have HTT := Lib.hid htt
          clear ht1 ht2 hti htt hno hye2 hrf h4
          go_enter Tryz.func41, Tryz.ntmps41
          go_wp2_with fail
          refine (HT1.out _).mono ?_
          rintro e w1 ⟨rfl, hb⟩
          have HB1 := Lib.hid (HRB.out _ hb)
          clear hb
          go_wp2_with fail
          refine (HT2.out _).mono ?_
          rintro e w2 ⟨rfl, hb⟩
          have HB2 := Lib.hid (And.intro (HB1.out.1.below hb) (HB1.out.2.trans (hb.mono HB1.out.2.size)))
          clear hb
          go_wp2_with fail
          refine (HTI.out _).mono ?_
          rintro e w3 ⟨⟨v3, rfl, ho⟩, hb⟩
          obtain ⟨a3, c3, rfl⟩ := ho.slice
          have HB3 := Lib.hid (And.intro (HB2.out.1.below hb) (HB2.out.2.trans (hb.mono HB2.out.2.size)))
          have HO3 := Lib.hid (ho.less (b2 := w.heap.size + 1) (by have := HB2.out.1.lt; omega))
          clear hb ho
          go_wp2_with fail
          refine (HTT.out _).mono ?_
          rintro e w4 ⟨rfl, hb⟩
          have hb4 := hb.alloc hb.size (.cells #[.int .u64 (n1 : Nat), .int .u64 (n2 : Nat), .slice a3 ml.length c3, .string st] 28)
          have HB4 := Lib.hid (And.intro (HB3.out.1.below hb4) (HB3.out.2.trans (hb4.mono HB3.out.2.size)))
          have HO4 := Lib.hid (HO3.out.below hb4)
          have HS4 := Lib.hid (Bx4.made w4 (.int .u64 (n1 : Nat)) (.int .u64 (n2 : Nat)) (.slice a3 ml.length c3) (.string st) 28)
          clear hb hb4
          obtain ⟨r0, r1, r2, r3⟩ := HB4.out.1.cells
          obtain ⟨f0, f1, f2, f3⟩ := HB4.out.1.fz
          go_wp2
          refine bodyPost_snap3 rfl w.heap.size 0 0 (.slice none 0 0) ⟨#[]⟩ rfl rfl ?_ ?_
          case refine_1 => exact (((HB4.out.1.set0 _).set1 _).set2 _).set3 _
          case refine_2 => exact ⟨HNO.out _, (((HB4.out.2.setCell (Nat.le_refl _) _).setCell (Nat.le_refl _) _).setCell (Nat.le_refl _) _).setCell (Nat.le_refl _) _⟩
    · have HNO := Lib.hid (hno (by rw [hrf, decide_eq_false h2]; rfl))
      have h2' : (((W2 : Nat) : Int) != 0) = true := by simp; omega
      have h2'' : ¬ ((W2 : Nat) : Int) = 0 := by omega
      have HT1 := Lib.hid ht1
      have HT2 := Lib.hid ht2
      have HTI := Lib.hid hti
      have HTT := Lib.hid htt
      clear ht1 ht2 hti htt hno hye2 hrf h2
      go_enter Tryz.func41, Tryz.ntmps41
      go_wp2_with fail
      refine (HT1.out _).mono ?_
      rintro e w1 ⟨rfl, hb⟩
      have HB1 := Lib.hid (HRB.out _ hb)
      clear hb
      go_wp2_with fail
      refine (HT2.out _).mono ?_
      rintro e w2 ⟨rfl, hb⟩
      have HB2 := Lib.hid (And.intro (HB1.out.1.below hb) (HB1.out.2.trans (hb.mono HB1.out.2.size)))
      clear hb
      go_wp2_with fail
      refine (HTI.out _).mono ?_
      rintro e w3 ⟨⟨v3, rfl, ho⟩, hb⟩
      obtain ⟨a3, c3, rfl⟩ := ho.slice
      have HB3 := Lib.hid (And.intro (HB2.out.1.below hb) (HB2.out.2.trans (hb.mono HB2.out.2.size)))
      have HO3 := Lib.hid (ho.less (b2 := w.heap.size + 1) (by have := HB2.out.1.lt; omega))
      clear hb ho
      go_wp2_with fail
      refine (HTT.out _).mono ?_
      rintro e w4 ⟨rfl, hb⟩
      have hb4 := hb.alloc hb.size (.cells #[.int .u64 (n1 : Nat), .int .u64 (n2 : Nat), .slice a3 ml.length c3, .string st] 28)
      have HB4 := Lib.hid (And.intro (HB3.out.1.below hb4) (HB3.out.2.trans (hb4.mono HB3.out.2.size)))
      have HO4 := Lib.hid (HO3.out.below hb4)
      have HS4 := Lib.hid (Bx4.made w4 (.int .u64 (n1 : Nat)) (.int .u64 (n2 : Nat)) (.slice a3 ml.length c3) (.string st) 28)
      clear hb hb4
      obtain ⟨r0, r1, r2, r3⟩ := HB4.out.1.cells
      obtain ⟨f0, f1, f2, f3⟩ := HB4.out.1.fz
      go_wp2
      refine bodyPost_snap3 rfl w.heap.size 0 0 (.slice none 0 0) ⟨#[]⟩ rfl rfl ?_ ?_
      case refine_1 => exact (((HB4.out.1.set0 _).set1 _).set2 _).set3 _
      case refine_2 => exact ⟨HNO.out _, (((HB4.out.2.setCell (Nat.le_refl _) _).setCell (Nat.le_refl _) _).setCell (Nat.le_refl _) _).setCell (Nat.le_refl _) _⟩
  · have HNO := Lib.hid (hno (by rw [hrf, decide_eq_false h1]; rfl))
    have h1' : (((W1 : Nat) : Int) != 0) = true := by simp; omega
    have h1'' : ¬ ((W1 : Nat) : Int) = 0 := by omega
    have HT1 := Lib.hid ht1
    have HT2 := Lib.hid ht2
    have HTI := Lib.hid hti
    have HTT := Lib.hid htt
    clear ht1 ht2 hti htt hno hye2 hrf h1
    go_enter Tryz.func41, Tryz.ntmps41
    go_wp2_with fail
    refine (HT1.out _).mono ?_
    rintro e w1 ⟨rfl, hb⟩
    have HB1 := Lib.hid (HRB.out _ hb)
    clear hb
    go_wp2_with fail
    refine (HT2.out _).mono ?_
    rintro e w2 ⟨rfl, hb⟩
    have HB2 := Lib.hid (And.intro (HB1.out.1.below hb) (HB1.out.2.trans (hb.mono HB1.out.2.size)))
    clear hb
    go_wp2_with fail
    refine (HTI.out _).mono ?_
    rintro e w3 ⟨⟨v3, rfl, ho⟩, hb⟩
    obtain ⟨a3, c3, rfl⟩ := ho.slice
    have HB3 := Lib.hid (And.intro (HB2.out.1.below hb) (HB2.out.2.trans (hb.mono HB2.out.2.size)))
    have HO3 := Lib.hid (ho.less (b2 := w.heap.size + 1) (by have := HB2.out.1.lt; omega))
    clear hb ho
    go_wp2_with fail
    refine (HTT.out _).mono ?_
    rintro e w4 ⟨rfl, hb⟩
    have hb4 := hb.alloc hb.size (.cells #[.int .u64 (n1 : Nat), .int .u64 (n2 : Nat), .slice a3 ml.length c3, .string st] 28)
    have HB4 := Lib.hid (And.intro (HB3.out.1.below hb4) (HB3.out.2.trans (hb4.mono HB3.out.2.size)))
    have HO4 := Lib.hid (HO3.out.below hb4)
    have HS4 := Lib.hid (Bx4.made w4 (.int .u64 (n1 : Nat)) (.int .u64 (n2 : Nat)) (.slice a3 ml.length c3) (.string st) 28)
    clear hb hb4
    obtain ⟨r0, r1, r2, r3⟩ := HB4.out.1.cells
    obtain ⟨f0, f1, f2, f3⟩ := HB4.out.1.fz
    go_wp2
    refine bodyPost_snap3 rfl w.heap.size 0 0 (.slice none 0 0) ⟨#[]⟩ rfl rfl ?_ ?_
    case refine_1 => exact (((HB4.out.1.set0 _).set1 _).set2 _).set3 _
    case refine_2 => exact ⟨HNO.out _, (((HB4.out.2.setCell (Nat.le_refl _) _).setCell (Nat.le_refl _) _).setCell (Nat.le_refl _) _).setCell (Nat.le_refl _) _⟩
end Hd
end Go.Proofs.YtgahilemlnoabaaGreat
