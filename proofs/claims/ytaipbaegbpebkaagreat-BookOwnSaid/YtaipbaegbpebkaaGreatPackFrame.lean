/-
  CONTRACTS: pack.Frame and the document's own.
-/
import Derived.Test.YtaipbaegbpebkaaGreatPackChk
namespace Go.Proofs.YtaipbaegbpebkaaGreat
open Go.RowKit
namespace PackFrame
open PM PackBytes PackTakeNum PackTakeRef PackRefNum PackText PackChk

def frW (s : ByteArray) : Nat := if 65536 < s.size then 2 else 0
def frS (s : ByteArray) : ByteArray := if 65536 < s.size then ⟨#[]⟩ else bs (frm s.data.toList)
def Framed (s : ByteArray) (e : Ending) : Prop := e = .returned (.tuple #[.string (frS s), .int .i64 (frW s : Nat)])
theorem framed_long (s : ByteArray) (h : 65536 < s.size) : Framed s (.returned (.tuple #[.string ⟨#[]⟩, .int .i64 2])) := by
  unfold Framed frW frS; rw [if_pos h, if_pos h]; rfl
theorem framed_ok (s : ByteArray) (h : ¬ 65536 < s.size) : Framed s (.returned (.tuple #[.string (bs (be 4 s.size) ++ chkB (bs (be 4 s.size) ++ s) ++ s), .int .i64 0])) := by
  unfold Framed frW frS chkB frm
  rw [if_neg h, if_neg h]
  simp only [bs_append_ba, bs_data, size_length]
  rfl
theorem frame_size (l : List UInt8) : (frm l).length = 6 + l.length := by
  unfold frm; rw [List.length_append, List.length_append, be_length, chk_length]

end PackFrame
end Go.Proofs.YtaipbaegbpebkaaGreat
