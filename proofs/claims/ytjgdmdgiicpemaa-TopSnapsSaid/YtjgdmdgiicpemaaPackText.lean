/-
  CONTRACTS: pack.Text, pack.TakeText and the document's own.
-/
import Derived.Test.YtjgdmdgiicpemaaPackTakeRef
import Derived.Test.YtjgdmdgiicpemaaPackRefNum
namespace Go.Proofs.Ytjgdmdgiicpemaa
open Go.RowKit
namespace PackText
open PM PackBytes PackTakeNum PackTakeRef PackRefNum

theorem bdN {B : Nat} {a w : World} (h : Below B a w) (n : Nat) : Below B a (w.drewN n) := ⟨h.os, h.tape, h.output, h.size, h.block⟩

def txtB (s : ByteArray) : ByteArray := bs (txt s.data.toList)
theorem txtB_of (s : ByteArray) : bs (num s.size) ++ s = txtB s := by
  rw [bs_append_ba]; rfl

set_option maxRecDepth 100000 in
set_option maxHeartbeats 400000 in
theorem text_own (s : ByteArray) (w : World) (hs : s.data.toList.length ≤ reachBytes) :
    Calls Try.prog 29 #[.string s] w fun e w' => e = .returned (.string (txtB s)) ∧ Below w.heap.size w w' := by
  have hs2 : s.size ≤ 140737488351232 := hs
  clear hs
  have HT := Lib.hid (txtB_of s)
  have hn := num_length s.size
  have hz := (nsz_spec s.size (by omega)).1
  have hbs := bs_size (num s.size)
  have hlt : s.size < 2 ^ 64 := by omega
  go_enter Try.func29, Try.ntmps29
  go_wp2_with (go_at_call 27; refine (number_own s.size _ hlt).mono ?_; rintro e w' ⟨rfl, hb⟩)
  go_ret
  exact ⟨by rw [← HT.out]; rfl, hb⟩

/-- What a call that takes a text leaves. -/
def TookT (l : List UInt8) (e : Ending) : Prop := e = .returned (.tuple #[.string (bs (ttT l)), .string (bs (ttR l)), .int .i64 (ttW l : Nat)])
theorem tookT_bad (l : List UInt8) (k : Nat) (h : ttW l = k) (h0 : k ≠ 0) : TookT l (.returned (.tuple #[.string ⟨#[]⟩, .string ⟨#[]⟩, .int .i64 k])) := by
  have e1 : ttT l = [] := by unfold ttT; rw [if_neg (by omega)]
  have e2 : ttR l = [] := by unfold ttR; rw [if_neg (by omega)]
  unfold TookT
  rw [e1, e2, h]
  rfl
theorem tookT_good (l : List UInt8) (h : ttW l = 0) (R : List UInt8) (n : Nat) (hR : R = tnR l) (hn : n = tnN l) :
    TookT l (.returned (.tuple #[.string ((bs R).extract 0 n), .string ((bs R).extract n R.length), .int .i64 0])) := by
  subst hR; subst hn
  have e1 : bs (ttT l) = (bs (tnR l)).extract 0 (tnN l) := by
    unfold ttT; rw [if_pos h, extract_bs, bs_data]; rfl
  have e2 : bs (ttR l) = (bs (tnR l)).extract (tnN l) (tnR l).length := by
    have e := extract_end (bs (tnR l)) (tnN l)
    rw [bs_size, bs_data] at e
    unfold ttR; rw [if_pos h, e]
  unfold TookT
  rw [e1, e2, h]
  rfl

set_option maxRecDepth 100000 in
set_option maxHeartbeats 1000000 in
theorem takeText_own (s : ByteArray) (w : World) (hs : s.size ≤ maxLen) :
    Calls Try.prog 62 #[.string s] w fun e w' => TookT s.data.toList e ∧ Below w.heap.size w w' := by
  have hN := tnN_lt s.data.toList
  have hL := tnR_length s.data.toList
  have HS := Lib.hid hs
  unfold maxLen at hs
  rw [size_length] at hL
  have HD : Hid (ttW s.data.toList = if tnW s.data.toList ≠ 0 then tnW s.data.toList else if 65536 < tnN s.data.toList then 2 else if (tnR s.data.toList).length < tnN s.data.toList then 3 else 0) := rfl
  have hc := fun w => take_own s w hs
  unfold Took at hc
  have HG := fun h => tookT_good s.data.toList h _ _ rfl rfl
  generalize tnN s.data.toList = n at *
  generalize tnR s.data.toList = R at *
  generalize tnW s.data.toList = W at *
  have HC := Lib.hid hc
  have HG2 := Lib.hid HG
  have hR : R.length ≤ 9223372036854775807 := by omega
  have hbs := bs_size R
  clear hc HG hs
  by_cases h0 : W = 0
  · subst h0
    by_cases h1 : 65536 < n
    · have HW : Hid (ttW s.data.toList = 2) := by
        have e := HD.out; rw [if_neg (by omega), if_pos h1] at e; exact e
      go_enter Try.func62, Try.ntmps62
      go_wp2_with (go_at_call 57; refine (HC.out _).mono ?_; rintro e w' ⟨rfl, hb⟩)
      go_ret3
      exact ⟨tookT_bad _ 2 HW.out (by omega), hb⟩
    · by_cases h2 : R.length < n
      · have HW : Hid (ttW s.data.toList = 3) := by
          have e := HD.out; rw [if_neg (by omega), if_neg h1, if_pos h2] at e; exact e
        go_enter Try.func62, Try.ntmps62
        go_wp2_with (go_at_call 57; refine (HC.out _).mono ?_; rintro e w' ⟨rfl, hb⟩)
        go_ret3
        exact ⟨tookT_bad _ 3 HW.out (by omega), hb⟩
      · have HW : Hid (ttW s.data.toList = 0) := by
          have e := HD.out; rw [if_neg (by omega), if_neg h1, if_neg h2] at e; exact e
        go_enter Try.func62, Try.ntmps62
        go_wp2_with (go_at_call 57; refine (HC.out _).mono ?_; rintro e w' ⟨rfl, hb⟩)
        go_quiet (fail)
        go_wp2
        go_ret3
        exact ⟨HG2.out HW.out, bdN hb _⟩
  · have HW : Hid (ttW s.data.toList = W) := by
      have e := HD.out; rw [if_pos h0] at e; exact e
    have t0 : ((W : Int) == 0) = false := by simp [h0]
    have t1 : ((W : Int) != 0) = true := by simp [h0]
    have H0 := Lib.hid h0
    clear h0
    go_enter Try.func62, Try.ntmps62
    go_wp2_with (go_at_call 57; refine (HC.out _).mono ?_; rintro e w' ⟨rfl, hb⟩)
    go_ret3
    exact ⟨tookT_bad _ W HW.out H0.out, hb⟩
end PackText
end Go.Proofs.Ytjgdmdgiicpemaa
