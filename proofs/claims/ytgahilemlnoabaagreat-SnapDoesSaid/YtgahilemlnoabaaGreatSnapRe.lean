/-
  THE DOCUMENT'S ANSWER: gafferref05.Decode.
-/
import Derived.Test.YtgahilemlnoabaaGreatSnapRd
namespace Go.Proofs.YtgahilemlnoabaaGreat
open Go.RowKit
namespace Hd
open PM
set_option maxRecDepth 100000 in
set_option maxHeartbeats 4000000 in
theorem decode_ref (l : List UInt8) (w : World) (hl : l.length ≤ maxLen) :
    Calls Tryz.prog 17 #[.string (bs l)] w fun e w' => SnIs w l e w' ∧ Below w.heap.size w w' := by
  have ht := fun w => take_ref5 l w hl
  unfold RtIs at ht
  have hno := fun (h : sdOk l = false) w' => SnIs.bad (w := w) (w' := w') h
  have hye := fun (h : sdOk l = true) w' v' ho => SnIs.ok (w := w) (w' := w') h (v' := v') ho
  have hrs := rf_sd l
  have hle : (ttR (sx l)).isEmpty = (bs (ttR (sx l))).toList.isEmpty := by rw [ByteArray.toList_eq, bs_data]
  obtain ⟨I, hI⟩ : ∃ I, I = if rfO l = true then tnN l else 0 := ⟨_, rfl⟩
  obtain ⟨U, hU⟩ : ∃ U, U = if rfO l = true then tnN (tnR l) else 0 := ⟨_, rfl⟩
  obtain ⟨st, hst⟩ : ∃ st, st = bs (if rfO l = true then ttT (sx l) else []) := ⟨_, rfl⟩
  obtain ⟨s4, hs4⟩ : ∃ s4, s4 = bs (if rfO l = true then ttR (sx l) else []) := ⟨_, rfl⟩
  obtain ⟨ml, hml⟩ : ∃ ml, ml = if rfO l = true then sdMs l else [] := ⟨_, rfl⟩
  rw [← hI, ← hU, ← hst, ← hs4, ← hml] at ht
  have HT := Lib.hid ht
  have HRB : Hid (∀ z, Below (w.alloc (.cells #[.int .u64 0, .int .u64 0, .slice none 0 0, .string ⟨#[]⟩] 28)).heap.size (w.alloc (.cells #[.int .u64 0, .int .u64 0, .slice none 0 0, .string ⟨#[]⟩] 28)) z → Bx4 z w.heap.size (.int .u64 0) (.int .u64 0) (.slice none 0 0) (.string ⟨#[]⟩) ∧ Below w.heap.size w z) := by
    intro z hb
    exact ⟨(Bx4.made w _ _ _ _ _).below hb, ((Below.refl w.heap.size w).alloc (Nat.le_refl _) _).trans (hb.mono (by simp))⟩
  rw [hle] at hrs
  clear ht hl hle
  cases hq : rfO l with
  | false =>
    rw [hq] at hrs HT
    have HNO := Lib.hid (hno (by rw [← hrs]; rfl))
    clear hno hye hrs hI hU hst hs4 hml hq
    generalize bs l = sb at *
    go_enter Tryz.func17, Tryz.ntmps17
    go_wp2_with fail
    refine (HT.out _).mono ?_
    rintro e w1 ⟨⟨v1, rfl, ho⟩, hb⟩
    obtain ⟨a1, c1, rfl⟩ := ho.slice
    have HB1 := Lib.hid (HRB.out _ hb)
    have hb4 := ((Below.refl w1.heap.size w1).alloc (Nat.le_refl _) (.cells #[.int .u64 (I : Nat), .int .u64 (U : Nat), .slice a1 ml.length c1, .string st] 28))
    have HB4 := Lib.hid (And.intro (HB1.out.1.below hb4) (HB1.out.2.trans (hb4.mono HB1.out.2.size)))
    have HO4 := Lib.hid ((ho.less (b2 := w.heap.size + 1) (by simp)).below hb4)
    have HS4 := Lib.hid (Bx4.made w1 (.int .u64 (I : Nat)) (.int .u64 (U : Nat)) (.slice a1 ml.length c1) (.string st) 28)
    clear hb hb4 ho
    obtain ⟨s0', s1', s2', s3'⟩ := HS4.out.cells
    obtain ⟨r0, r1, r2, r3⟩ := HB4.out.1.cells
    obtain ⟨f0, f1, f2, f3⟩ := HB4.out.1.fz
    go_wp2
    refine bodyPost_snap rfl w.heap.size 0 0 (.slice none 0 0) ⟨#[]⟩ rfl rfl ?_ ?_
    case refine_1 => exact (((HB4.out.1.set0 _).set1 _).set2 _).set3 _
    case refine_2 => exact ⟨HNO.out _, (((HB4.out.2.setCell (Nat.le_refl _) _).setCell (Nat.le_refl _) _).setCell (Nat.le_refl _) _).setCell (Nat.le_refl _) _⟩
  | true =>
    rw [hq, if_pos rfl] at hs4
    rw [← hs4, hq, Bool.true_and] at hrs
    rw [hq] at HT
    by_cases h4 : s4.toList = []
    · have HYE := Lib.hid (by
        have := hye (by rw [← hrs, h4]; rfl)
        rw [hq, if_pos rfl] at hI hU hst hml
        rw [← hI, ← hU, ← hst, ← hml] at this
        exact this)
      clear hno hye hrs hI hU hst hs4 hml hq
      generalize bs l = sb at *
      go_enter Tryz.func17, Tryz.ntmps17
      go_wp2_with fail
      refine (HT.out _).mono ?_
      rintro e w1 ⟨⟨v1, rfl, ho⟩, hb⟩
      obtain ⟨a1, c1, rfl⟩ := ho.slice
      have HB1 := Lib.hid (HRB.out _ hb)
      have hb4 := ((Below.refl w1.heap.size w1).alloc (Nat.le_refl _) (.cells #[.int .u64 (I : Nat), .int .u64 (U : Nat), .slice a1 ml.length c1, .string st] 28))
      have HB4 := Lib.hid (And.intro (HB1.out.1.below hb4) (HB1.out.2.trans (hb4.mono HB1.out.2.size)))
      have HO4 := Lib.hid ((ho.less (b2 := w.heap.size + 1) (by simp)).below hb4)
      have HS4 := Lib.hid (Bx4.made w1 (.int .u64 (I : Nat)) (.int .u64 (U : Nat)) (.slice a1 ml.length c1) (.string st) 28)
      clear hb hb4 ho
      obtain ⟨s0', s1', s2', s3'⟩ := HS4.out.cells
      obtain ⟨r0, r1, r2, r3⟩ := HB4.out.1.cells
      obtain ⟨f0, f1, f2, f3⟩ := HB4.out.1.fz
      go_wp2
      refine bodyPost_snap rfl w.heap.size I U (.slice a1 ml.length c1) st rfl rfl ?_ ?_
      case refine_1 => exact (((HB4.out.1.set0 _).set1 _).set2 _).set3 _
      case refine_2 => exact ⟨HYE.out _ _ (((((HO4.out.put (p := w.heap.size) (by omega) 0 _).put (p := w.heap.size) (by omega) 1 _).put (p := w.heap.size) (by omega) 2 _).put (p := w.heap.size) (by omega) 3 _).less (by omega)), (((HB4.out.2.setCell (Nat.le_refl _) _).setCell (Nat.le_refl _) _).setCell (Nat.le_refl _) _).setCell (Nat.le_refl _) _⟩
    · have h4' : s4.toList.isEmpty = false := by rw [← Bool.not_eq_true, List.isEmpty_iff]; exact h4
      have HNO := Lib.hid (hno (by rw [← hrs]; exact h4'))
      clear hno hye hrs hI hU hst hs4 hml hq
      generalize bs l = sb at *
      go_enter Tryz.func17, Tryz.ntmps17
      go_wp2_with fail
      refine (HT.out _).mono ?_
      rintro e w1 ⟨⟨v1, rfl, ho⟩, hb⟩
      obtain ⟨a1, c1, rfl⟩ := ho.slice
      have HB1 := Lib.hid (HRB.out _ hb)
      have hb4 := ((Below.refl w1.heap.size w1).alloc (Nat.le_refl _) (.cells #[.int .u64 (I : Nat), .int .u64 (U : Nat), .slice a1 ml.length c1, .string st] 28))
      have HB4 := Lib.hid (And.intro (HB1.out.1.below hb4) (HB1.out.2.trans (hb4.mono HB1.out.2.size)))
      have HO4 := Lib.hid ((ho.less (b2 := w.heap.size + 1) (by simp)).below hb4)
      have HS4 := Lib.hid (Bx4.made w1 (.int .u64 (I : Nat)) (.int .u64 (U : Nat)) (.slice a1 ml.length c1) (.string st) 28)
      clear hb hb4 ho
      obtain ⟨s0', s1', s2', s3'⟩ := HS4.out.cells
      obtain ⟨r0, r1, r2, r3⟩ := HB4.out.1.cells
      obtain ⟨f0, f1, f2, f3⟩ := HB4.out.1.fz
      go_wp2
      refine bodyPost_snap rfl w.heap.size 0 0 (.slice none 0 0) ⟨#[]⟩ rfl rfl ?_ ?_
      case refine_1 => exact (((HB4.out.1.set0 _).set1 _).set2 _).set3 _
      case refine_2 => exact ⟨HNO.out _, (((HB4.out.2.setCell (Nat.le_refl _) _).setCell (Nat.le_refl _) _).setCell (Nat.le_refl _) _).setCell (Nat.le_refl _) _⟩
end Hd
end Go.Proofs.YtgahilemlnoabaaGreat
