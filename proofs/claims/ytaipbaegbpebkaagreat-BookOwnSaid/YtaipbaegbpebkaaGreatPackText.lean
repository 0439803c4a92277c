/-
  CONTRACTS: pack.Text, pack.TakeText and the document's own.
-/
import Derived.Test.YtaipbaegbpebkaaGreatPackTakeRef
import Derived.Test.YtaipbaegbpebkaaGreatPackRefNum
namespace Go.Proofs.YtaipbaegbpebkaaGreat
open Go.RowKit
namespace PackText
open PM PackBytes PackTakeNum PackTakeRef PackRefNum

theorem bdN {B : Nat} {a w : World} (h : Below B a w) (n : Nat) : Below B a (w.drewN n) := ⟨h.os, h.tape, h.output, h.size, h.block⟩

def txtB (s : ByteArray) : ByteArray := bs (txt s.data.toList)
theorem txtB_of (s : ByteArray) : bs (num s.size) ++ s = txtB s := by
  rw [bs_append_ba]; rfl

/-- What a call that takes a text leaves. -/
def TookT (l : List UInt8) (e : Ending) : Prop := e = .returned (.tuple #[.string (bs (ttT l)), .string (bs (ttR l)), .int .i64 (ttW l : Nat)])
theorem tookT_bad (l : List UInt8) (k : Nat) (h : ttW l = k) (h0 : k ≠ 0) : TookT l (.returned (.tuple #[.string ⟨#[]⟩, .string ⟨#[]⟩, .int .i64 k])) := by
  have e1 : ttT l = [] := by unfold ttT; rw [if_neg (by omega)]
  have e2 : ttR l = [] := by unfold ttR; rw [if_neg (by omega)]
  unfold TookT
  rw [e1, e2, h]
  rfl
theorem tookT_good (l : List UInt8) (h : ttW l = 0) (R : List UInt8) (n : Nat) (hR : R = tnR l) (hn : n = tnN l) :
    TookT l (.returned (.tuple #[.string ((bs R).extract 0 n), .string ((bs R).extract n R.length), .int .i64 0])) := by
  subst hR; subst hn
  have e1 : bs (ttT l) = (bs (tnR l)).extract 0 (tnN l) := by
    unfold ttT; rw [if_pos h, extract_bs, bs_data]; rfl
  have e2 : bs (ttR l) = (bs (tnR l)).extract (tnN l) (tnR l).length := by
    have e := extract_end (bs (tnR l)) (tnN l)
    rw [bs_size, bs_data] at e
    unfold ttR; rw [if_pos h, e]
  unfold TookT
  rw [e1, e2, h]
  rfl

end PackText
end Go.Proofs.YtaipbaegbpebkaaGreat
