/-
  CONTRACTS: the document's own TakeFrame.
-/
import Derived.Test.YtgahilemlnoabaaGreatPackTakeFr
namespace Go.Proofs.YtgahilemlnoabaaGreat
open Go.RowKit
namespace PackTakeFrRef
open PM PackBytes PackTakeNum PackTakeRef PackRefNum PackText PackChk PackFrame PackTakeFr

theorem val_next0 (s : ByteArray) (j : Nat) (h : j < s.size) : val (s.data.toList.take (j + 1)) = 256 * val (s.data.toList.take j) + s[j].toNat := by
  rw [take_snoc s j h, val_snoc]; omega
theorem okB_ref (s : ByteArray) (n : Nat) (hn : n = headB s) : ((chkB (s.extract 0 4 ++ s.extract 6 (n + 6))).toList == (s.extract 4 6).toList) = okB s := by
  subst hn
  unfold okB
  rw [Bool.beq_comm, Nat.add_comm]
theorem tookF_ref (s : ByteArray) (h : tfW s.data.toList = 0) (n : Nat) (hn : n = headB s) :
    TookF s.data.toList (.returned (.tuple #[.string (s.extract 6 (n + 6)), .string (s.extract (n + 6) s.size), .int .i64 0])) := by
  have e := tookF_good s h n hn
  rw [Nat.add_comm] at e
  exact e

set_option maxRecDepth 100000 in
set_option maxHeartbeats 2000000 in
theorem takeFrame_ref (s : ByteArray) (w : World) (hs : s.size ≤ maxLen) :
    Calls Tryz.prog 16 #[.string s] w fun e w' => TookF s.data.toList e ∧ Below w.heap.size w w' := by
  unfold maxLen at hs
  have HD := Lib.hid (tfW_of s)
  by_cases h4 : s.size < 4
  · have HW : Hid (tfW s.data.toList = 3) := by have e := HD.out; rw [if_pos h4] at e; exact e
    have t : (s.size : Int) < 4 := by omega
    go_enter Tryz.func16, Tryz.ntmps16
    go_wp2
    go_ret3
    exact ⟨tookF_bad _ 3 HW.out (by omega), Below.refl _ _⟩
  · have t : (4 : Int) ≤ (s.size : Int) := by omega
    go_enter Tryz.func16, Tryz.ntmps16
    go_wp2
    go_loopg [5, 6] 4 (fun g n i wx => wx = w ∧ ∃ (j v : Nat), j + g = 4 ∧ i = .int .i64 j ∧ n = .int .u64 (v : Nat) ∧ v < 256 ^ j ∧ Aside (v = val (s.data.toList.take j)))
    case atStart => exact ⟨rfl, 0, 0, by omega, rfl, rfl, by omega, rfl⟩
    case round =>
      obtain ⟨rfl, j, v, hjg, rfl, rfl, hv, HV⟩ := hrel
      cases gk with
      | succ g =>
        have u1 : (j : Int) < 4 := by omega
        have HG := Lib.hid hjg
        have hjs : j < s.size := by omega
        have hb2 := s[j].toNat_lt
        have hv7 : v < 16777216 := by
          have : 256 ^ j ≤ 256 ^ 3 := Nat.pow_le_pow_right (by omega) (by omega)
          omega
        have HV2 := Lib.hid hv
        clear hjg hv
        go_wp2
        go_roundg g
        case measure => omega
        case rel =>
          refine ⟨rfl, j + 1, 256 * v + s[j].toNat, by have := HG.out; omega, by go_num, by go_num, ?_, ?_⟩
          · have := HV2.out
            rw [Nat.pow_succ]; omega
          · show _ = _
            rw [val_next0 s j hjs, ← HV.out]
      | zero =>
        obtain rfl : j = 4 := by omega
        have HE : Hid (v = headB s) := HV.out
        have hvl : v < 4294967296 := by omega
        clear hjg hv HV
        by_cases hL : 65536 < v
        · have HW : Hid (tfW s.data.toList = 2) := by have e := HD.out; rw [if_neg h4, ← HE.out, if_pos hL] at e; exact e
          go_wp2
          go_ret3
          exact ⟨tookF_bad _ 2 HW.out (by omega), Below.refl _ _⟩
        · by_cases hM : s.size < 6 + v
          · have HW : Hid (tfW s.data.toList = 3) := by have e := HD.out; rw [if_neg h4, ← HE.out, if_neg hL, if_pos hM] at e; exact e
            go_wp2
            go_ret3
            exact ⟨tookF_bad _ 3 HW.out (by omega), Below.refl _ _⟩
          · have HQ : Hid (tfW s.data.toList = if okB s = true then 0 else 4) := by
              have e := HD.out; rw [if_neg h4, ← HE.out, if_neg hL, if_neg hM] at e; exact e
            have HO := Lib.hid (okB_ref s v HE.out)
            have HK := Lib.hid (fun h => tookF_ref s h v HE.out)
            have HZ : Hid ((s.extract 0 4 ++ s.extract 6 (v + 6)).size ≤ maxLen) := by
              show _ ≤ _
              rw [ByteArray.size_append, extract_bs, extract_bs, bs_size, bs_size, List.length_take, List.length_take]; unfold maxLen; omega
            go_upto_region 13 with fail
            go_cut [41] (fun s41 wx => s41 = .bool (!(okB s)) ∧ Below wr.heap.size wr wx)
            case first =>
              go_region_with ((go_at_call 40; refine (check_ref _ _ HZ.out).mono ?_; rintro e w' ⟨rfl, hb⟩))
              all_goals (go_wp2_with fail; go_meet; exact ⟨by rw [← HO.out], (Below.refl _ _).drew.trans hb⟩)
            case rest =>
              obtain ⟨rfl, hb⟩ := hcut
              cases hq : okB s
              · have HW : Hid (tfW s.data.toList = 4) := by have e := HQ.out; rw [hq] at e; exact e
                go_wp2
                go_ret3
                exact ⟨tookF_bad _ 4 HW.out (by omega), hb⟩
              · have HW : Hid (tfW s.data.toList = 0) := by have e := HQ.out; rw [hq] at e; exact e
                go_wp2
                go_quiet (fail)
                go_wp2
                go_ret3
                exact ⟨HK.out HW.out, bdN hb _⟩
end PackTakeFrRef
end Go.Proofs.YtgahilemlnoabaaGreat
