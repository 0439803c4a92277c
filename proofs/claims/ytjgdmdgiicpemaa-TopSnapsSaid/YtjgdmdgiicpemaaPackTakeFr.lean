/-
  CONTRACTS: pack.TakeFrame and the document's own.
-/
import Derived.Test.YtjgdmdgiicpemaaPackFrame
import Derived.Deep.DeepCutAuto
namespace Go.Proofs.Ytjgdmdgiicpemaa
open Go.RowKit
namespace PackTakeFr
open PM PackBytes PackTakeNum PackTakeRef PackRefNum PackText PackChk PackFrame

/-- What a call that takes a frame leaves. -/
def TookF (l : List UInt8) (e : Ending) : Prop := e = .returned (.tuple #[.string (bs (tfP l)), .string (bs (tfR l)), .int .i64 (tfW l : Nat)])
theorem tookF_bad (l : List UInt8) (k : Nat) (h : tfW l = k) (h0 : k ≠ 0) : TookF l (.returned (.tuple #[.string ⟨#[]⟩, .string ⟨#[]⟩, .int .i64 k])) := by
  have e1 : tfP l = [] := by unfold tfP; rw [if_neg (by omega)]
  have e2 : tfR l = [] := by unfold tfR; rw [if_neg (by omega)]
  unfold TookF
  rw [e1, e2, h]
  rfl
theorem tookF_good (s : ByteArray) (h : tfW s.data.toList = 0) (n : Nat) (hn : n = sizeOf4 s.data.toList) :
    TookF s.data.toList (.returned (.tuple #[.string (s.extract 6 (6 + n)), .string (s.extract (6 + n) s.size), .int .i64 0])) := by
  subst hn
  have e1 : bs (tfP s.data.toList) = s.extract 6 (6 + sizeOf4 s.data.toList) := by
    unfold tfP; rw [if_pos h, extract_bs, Nat.add_sub_cancel_left]
  have e2 : bs (tfR s.data.toList) = s.extract (6 + sizeOf4 s.data.toList) s.size := by
    unfold tfR; rw [if_pos h, extract_end]
  unfold TookF
  rw [e1, e2, h]
  rfl
def headB (s : ByteArray) : Nat := sizeOf4 s.data.toList
theorem headB_of (s : ByteArray) : valB (s.extract 0 4) = headB s := by
  unfold valB headB sizeOf4; rw [extract_bs, bs_data]; rfl
/-- Whether the check is right. -/
def okB (s : ByteArray) : Bool := (s.extract 4 6).toList == (chkB (s.extract 0 4 ++ s.extract 6 (6 + headB s))).toList
theorem tfW_of (s : ByteArray) : tfW s.data.toList = if s.size < 4 then 3 else if 65536 < headB s then 2 else if s.size < 6 + headB s then 3 else if okB s = true then 0 else 4 := by
  have e : okB s = decide ((s.data.toList.drop 4).take 2 = chk (s.data.toList.take 4 ++ (s.data.toList.drop 6).take (headB s))) := by
    unfold okB chkB
    rw [toList_data, toList_data, extract_bs, extract_bs, extract_bs, bs_data, bs_append, Nat.add_sub_cancel_left, bs_data, bs_data, List.drop_zero]
    exact Bool.beq_eq_decide_eq _ _
  rw [e]
  unfold tfW
  rw [size_length]
  show (if s.size < 4 then 3 else if 65536 < headB s then 2 else if s.size < 6 + headB s then 3 else if ¬ ((s.data.toList.drop 4).take 2 = chk (s.data.toList.take 4 ++ (s.data.toList.drop 6).take (headB s))) then 4 else 0) = _
  by_cases hq : (s.data.toList.drop 4).take 2 = chk (s.data.toList.take 4 ++ (s.data.toList.drop 6).take (headB s))
  · have e2 : (if ¬ ((s.data.toList.drop 4).take 2 = chk (s.data.toList.take 4 ++ (s.data.toList.drop 6).take (headB s))) then 4 else 0) = 0 := if_neg (fun h => h hq)
    have e3 : (if decide ((s.data.toList.drop 4).take 2 = chk (s.data.toList.take 4 ++ (s.data.toList.drop 6).take (headB s))) = true then 0 else 4) = 0 := if_pos (decide_eq_true hq)
    rw [e2, e3]
  · have e2 : (if ¬ ((s.data.toList.drop 4).take 2 = chk (s.data.toList.take 4 ++ (s.data.toList.drop 6).take (headB s))) then 4 else 0) = 4 := if_pos hq
    have e3 : (if decide ((s.data.toList.drop 4).take 2 = chk (s.data.toList.take 4 ++ (s.data.toList.drop 6).take (headB s))) = true then 0 else 4) = 4 := if_neg (by simp [hq])
    rw [e2, e3]

set_option maxRecDepth 100000 in
set_option maxHeartbeats 2000000 in
theorem takeFrame_own_late (s : ByteArray) (w : World) (hs : s.size ≤ maxLen) (h4 : ¬ s.size < 4) (hL : ¬ 65536 < headB s) (hM : ¬ s.size < 6 + headB s) :
    Calls Try.prog 39 #[.string s] w fun e w' => TookF s.data.toList e ∧ Below w.heap.size w w' := by
  unfold maxLen at hs
  have t : (4 : Int) ≤ (s.size : Int) := by omega
  have HN := Lib.hid (headB_of s)
  have HG : Hid ((s.extract 0 4).size ≤ 8) := by show _ ≤ _; rw [extract_bs, bs_size, List.length_take]; omega
  have HY : Hid ((s.extract 6 (6 + headB s)).size ≤ 1000000) := by show _ ≤ _; rw [extract_bs, bs_size, List.length_take]; omega
  have HQ : Hid (tfW s.data.toList = if okB s = true then 0 else 4) := by
    have e := tfW_of s
    rw [if_neg h4, if_neg hL, if_neg hM] at e
    exact e
  have HK := Lib.hid (fun h => tookF_good s h (headB s) rfl)
  have HO := Lib.hid (show ((s.extract 4 6).toList == (chkB (s.extract 0 4 ++ s.extract 6 (6 + headB s))).toList) = okB s from rfl)
  go_enter Try.func39, Try.ntmps39
  go_wp2_with fail
  refine (gatherB _ _ HG.out).mono ?_
  rintro e w' ⟨rfl, rfl⟩
  rw [HN.out]
  go_upto_region 10 with fail
  go_cut [32] (fun s32 wx => s32 = .bool (!(okB s)) ∧ Below w.heap.size w wx)
  case first =>
    go_region_with ((go_at_call 31; refine (check_own _ _ _ HG.out HY.out).mono ?_; rintro e w' ⟨rfl, hb⟩))
    all_goals (go_wp2_with fail; go_meet; exact ⟨by rw [← HO.out], (Below.refl _ _).drew.trans hb⟩)
  case rest =>
    obtain ⟨rfl, hb⟩ := hcut
    cases hq : okB s
    · have HW : Hid (tfW s.data.toList = 4) := by have e := HQ.out; rw [hq] at e; exact e
      go_wp2
      go_ret3
      exact ⟨tookF_bad _ 4 HW.out (by omega), hb⟩
    · have HW : Hid (tfW s.data.toList = 0) := by have e := HQ.out; rw [hq] at e; exact e
      go_wp2
      go_quiet (fail)
      go_wp2
      go_ret3
      exact ⟨HK.out HW.out, bdN hb _⟩

set_option maxRecDepth 100000 in
set_option maxHeartbeats 1000000 in
theorem takeFrame_own (s : ByteArray) (w : World) (hs : s.size ≤ maxLen) :
    Calls Try.prog 39 #[.string s] w fun e w' => TookF s.data.toList e ∧ Below w.heap.size w w' := by
  unfold maxLen at hs
  have HD := Lib.hid (tfW_of s)
  by_cases h4 : s.size < 4
  · have HW : Hid (tfW s.data.toList = 3) := by have e := HD.out; rw [if_pos h4] at e; exact e
    have t : (s.size : Int) < 4 := by omega
    go_enter Try.func39, Try.ntmps39
    go_wp2
    go_ret3
    exact ⟨tookF_bad _ 3 HW.out (by omega), Below.refl _ _⟩
  · have t : (4 : Int) ≤ (s.size : Int) := by omega
    have HN := Lib.hid (headB_of s)
    have HG : Hid ((s.extract 0 4).size ≤ 8) := by show _ ≤ _; rw [extract_bs, bs_size, List.length_take]; omega
    have HK := fun (h : tfW s.data.toList = 0) => tookF_good s h (headB s) rfl
    have HK2 := Lib.hid HK
    clear HK
    by_cases hL : 65536 < headB s
    · have HW : Hid (tfW s.data.toList = 2) := by have e := HD.out; rw [if_neg h4, if_pos hL] at e; exact e
      go_enter Try.func39, Try.ntmps39
      go_wp2_with fail
      refine (gatherB _ _ HG.out).mono ?_
      rintro e w' ⟨rfl, rfl⟩
      rw [HN.out]
      go_wp2
      go_ret3
      exact ⟨tookF_bad _ 2 HW.out (by omega), Below.refl _ _⟩
    · by_cases hM : s.size < 6 + headB s
      · have HW : Hid (tfW s.data.toList = 3) := by
          have e := HD.out; rw [if_neg h4, if_neg hL, if_pos hM] at e; exact e
        go_enter Try.func39, Try.ntmps39
        go_wp2_with fail
        refine (gatherB _ _ HG.out).mono ?_
        rintro e w' ⟨rfl, rfl⟩
        rw [HN.out]
        go_wp2
        go_ret3
        exact ⟨tookF_bad _ 3 HW.out (by omega), Below.refl _ _⟩
      · exact takeFrame_own_late s w hs h4 hL hM
end PackTakeFr
end Go.Proofs.Ytjgdmdgiicpemaa
