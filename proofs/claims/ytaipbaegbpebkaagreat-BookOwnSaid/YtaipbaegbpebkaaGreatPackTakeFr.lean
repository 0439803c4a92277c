/-
  CONTRACTS: pack.TakeFrame and the document's own.
-/
import Derived.Test.YtaipbaegbpebkaaGreatPackFrame
import Derived.Deep.DeepCutAuto
namespace Go.Proofs.YtaipbaegbpebkaaGreat
open Go.RowKit
namespace PackTakeFr
open PM PackBytes PackTakeNum PackTakeRef PackRefNum PackText PackChk PackFrame

/-- What a call that takes a frame leaves. -/
def TookF (l : List UInt8) (e : Ending) : Prop := e = .returned (.tuple #[.string (bs (tfP l)), .string (bs (tfR l)), .int .i64 (tfW l : Nat)])
theorem tookF_bad (l : List UInt8) (k : Nat) (h : tfW l = k) (h0 : k ≠ 0) : TookF l (.returned (.tuple #[.string ⟨#[]⟩, .string ⟨#[]⟩, .int .i64 k])) := by
  have e1 : tfP l = [] := by unfold tfP; rw [if_neg (by omega)]
  have e2 : tfR l = [] := by unfold tfR; rw [if_neg (by omega)]
  unfold TookF
  rw [e1, e2, h]
  rfl
theorem tookF_good (s : ByteArray) (h : tfW s.data.toList = 0) (n : Nat) (hn : n = sizeOf4 s.data.toList) :
    TookF s.data.toList (.returned (.tuple #[.string (s.extract 6 (6 + n)), .string (s.extract (6 + n) s.size), .int .i64 0])) := by
  subst hn
  have e1 : bs (tfP s.data.toList) = s.extract 6 (6 + sizeOf4 s.data.toList) := by
    unfold tfP; rw [if_pos h, extract_bs, Nat.add_sub_cancel_left]
  have e2 : bs (tfR s.data.toList) = s.extract (6 + sizeOf4 s.data.toList) s.size := by
    unfold tfR; rw [if_pos h, extract_end]
  unfold TookF
  rw [e1, e2, h]
  rfl
def headB (s : ByteArray) : Nat := sizeOf4 s.data.toList
theorem headB_of (s : ByteArray) : valB (s.extract 0 4) = headB s := by
  unfold valB headB sizeOf4; rw [extract_bs, bs_data]; rfl
/-- Whether the check is right. -/
def okB (s : ByteArray) : Bool := (s.extract 4 6).toList == (chkB (s.extract 0 4 ++ s.extract 6 (6 + headB s))).toList
theorem tfW_of (s : ByteArray) : tfW s.data.toList = if s.size < 4 then 3 else if 65536 < headB s then 2 else if s.size < 6 + headB s then 3 else if okB s = true then 0 else 4 := by
  have e : okB s = decide ((s.data.toList.drop 4).take 2 = chk (s.data.toList.take 4 ++ (s.data.toList.drop 6).take (headB s))) := by
    unfold okB chkB
    rw [toList_data, toList_data, extract_bs, extract_bs, extract_bs, bs_data, bs_append, Nat.add_sub_cancel_left, bs_data, bs_data, List.drop_zero]
    exact Bool.beq_eq_decide_eq _ _
  rw [e]
  unfold tfW
  rw [size_length]
  show (if s.size < 4 then 3 else if 65536 < headB s then 2 else if s.size < 6 + headB s then 3 else if ¬ ((s.data.toList.drop 4).take 2 = chk (s.data.toList.take 4 ++ (s.data.toList.drop 6).take (headB s))) then 4 else 0) = _
  by_cases hq : (s.data.toList.drop 4).take 2 = chk (s.data.toList.take 4 ++ (s.data.toList.drop 6).take (headB s))
  · have e2 : (if ¬ ((s.data.toList.drop 4).take 2 = chk (s.data.toList.take 4 ++ (s.data.toList.drop 6).take (headB s))) then 4 else 0) = 0 := if_neg (fun h => h hq)
    have e3 : (if decide ((s.data.toList.drop 4).take 2 = chk (s.data.toList.take 4 ++ (s.data.toList.drop 6).take (headB s))) = true then 0 else 4) = 0 := if_pos (decide_eq_true hq)
    rw [e2, e3]
  · have e2 : (if ¬ ((s.data.toList.drop 4).take 2 = chk (s.data.toList.take 4 ++ (s.data.toList.drop 6).take (headB s))) then 4 else 0) = 4 := if_pos hq
    have e3 : (if decide ((s.data.toList.drop 4).take 2 = chk (s.data.toList.take 4 ++ (s.data.toList.drop 6).take (headB s))) = true then 0 else 4) = 4 := if_neg (by simp [hq])
    rw [e2, e3]

end PackTakeFr
end Go.Proofs.YtaipbaegbpebkaaGreat
