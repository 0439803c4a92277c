/-
  CONTRACTS: pack.Frame and the document's own.
-/
import Derived.Test.YtjgdmdgiicpemaaPackChk
namespace Go.Proofs.Ytjgdmdgiicpemaa
open Go.RowKit
namespace PackFrame
open PM PackBytes PackTakeNum PackTakeRef PackRefNum PackText PackChk

def frW (s : ByteArray) : Nat := if 65536 < s.size then 2 else 0
def frS (s : ByteArray) : ByteArray := if 65536 < s.size then ⟨#[]⟩ else bs (frm s.data.toList)
def Framed (s : ByteArray) (e : Ending) : Prop := e = .returned (.tuple #[.string (frS s), .int .i64 (frW s : Nat)])
theorem framed_long (s : ByteArray) (h : 65536 < s.size) : Framed s (.returned (.tuple #[.string ⟨#[]⟩, .int .i64 2])) := by
  unfold Framed frW frS; rw [if_pos h, if_pos h]; rfl
theorem framed_ok (s : ByteArray) (h : ¬ 65536 < s.size) : Framed s (.returned (.tuple #[.string (bs (be 4 s.size) ++ chkB (bs (be 4 s.size) ++ s) ++ s), .int .i64 0])) := by
  unfold Framed frW frS chkB frm
  rw [if_neg h, if_neg h]
  simp only [bs_append_ba, bs_data, size_length]
  rfl
theorem frame_size (l : List UInt8) : (frm l).length = 6 + l.length := by
  unfold frm; rw [List.length_append, List.length_append, be_length, chk_length]

set_option maxRecDepth 100000 in
set_option maxHeartbeats 400000 in
theorem frame_own (s : ByteArray) (w : World) (hs : s.size ≤ maxLen) :
    Calls Try.prog 16 #[.string s] w fun e w' => Framed s e ∧ Below w.heap.size w w' := by
  unfold maxLen at hs
  by_cases h : 65536 < s.size
  · have HF := Lib.hid (framed_long s h)
    have t : (65536 : Int) < (s.size : Int) := by omega
    go_enter Try.func16, Try.ntmps16
    go_wp2
    go_ret2
    exact ⟨HF.out, Below.refl _ _⟩
  · have HF := Lib.hid (framed_ok s h)
    have t : (s.size : Int) ≤ 65536 := by omega
    have hx : (bs (be 4 s.size)).size ≤ 8 := by rw [bs_size, be_length]; omega
    have hx4 := bs_size (be 4 s.size)
    have hxl := be_length 4 s.size
    have hch : (chkB (bs (be 4 s.size) ++ s)).size = 2 := by unfold chkB; rw [bs_size, chk_length]
    clear h
    go_enter Try.func16, Try.ntmps16
    go_wp2_with fail
    refine (spread s.size 4 _ (by omega)).mono ?_
    rintro e w1 ⟨rfl, hb1⟩
    go_wp2_with fail
    refine (check_own _ s _ hx (by omega)).mono ?_
    rintro e w2 ⟨rfl, hb2⟩
    go_wp2
    go_ret2
    exact ⟨HF.out, hb1.trans (hb2.mono hb1.size)⟩

end PackFrame
end Go.Proofs.Ytjgdmdgiicpemaa
