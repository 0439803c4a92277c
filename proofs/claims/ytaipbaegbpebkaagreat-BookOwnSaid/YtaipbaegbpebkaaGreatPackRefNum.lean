/-
  CONTRACTS: the document's own Number hands back the number's bytes.
-/
import Derived.Test.YtaipbaegbpebkaaGreatPackBytes
import Derived.Test.YtaipbaegbpebkaaGreatMem
namespace Go.Proofs.YtaipbaegbpebkaaGreat
open Go.RowKit
namespace PackRefNum
open PM PackBytes

def enc (b : UInt8) : Value := .int .u8 (b.toNat : Nat)
theorem enc_one (l : List UInt8) : ∀ u ∈ l.map enc, u.oneCell' = true := by
  intro u hu
  obtain ⟨b, _, rfl⟩ := List.mem_map.1 hu
  rfl

theorem len_own (w : World) (base n : Nat) (v : Value) (xs : List Value) (h : w.ownsRow base 5 1 v n xs) : ∃ a c, v = .slice a n c := by
  rcases h.2 with ⟨rfl, rfl⟩ | ⟨g, cap, cur, rfl, _⟩
  · exact ⟨_, _, rfl⟩
  · exact ⟨_, _, rfl⟩

end PackRefNum
end Go.Proofs.YtaipbaegbpebkaaGreat
