/-
  CONTRACTS: the document's own Number hands back the number's bytes.
-/
import Derived.Test.YtjgdmdgiicpemaaPackBytes
import Derived.Test.YtjgdmdgiicpemaaMem
namespace Go.Proofs.Ytjgdmdgiicpemaa
open Go.RowKit
namespace PackRefNum
open PM PackBytes

def enc (b : UInt8) : Value := .int .u8 (b.toNat : Nat)
theorem enc_one (l : List UInt8) : ∀ u ∈ l.map enc, u.oneCell' = true := by
  intro u hu
  obtain ⟨b, _, rfl⟩ := List.mem_map.1 hu
  rfl

theorem conv_row (w : World) (base n : Nat) (v : Value) (l : List UInt8) (h : w.ownsRow base 5 1 v n (l.map enc)) :
    (convert 92 9 v).run Try.prog w = .ok (.string (bs l)) w := by
  rcases h.2 with ⟨rfl, rfl⟩ | ⟨g, cap, cur, rfl, hbg, hh, hnc, hcm, hcs, htk⟩
  · have hy : l = [] := List.eq_nil_of_length_eq_zero (by simpa using h.1)
    subst hy
    rw [run_convert_bytes_string w 92 9 5 _ _ _ Try.underlying92 Try.underlying5 Try.underlying9]
    rfl
  · have hl : l.length = n := by simpa using h.1
    exact conv_bytes (P := Try.prog) 92 9 5 Try.underlying92 Try.underlying5 Try.underlying9 w ⟨g, 0, none⟩ l n cap hl (by
      intro j b hb
      exact h.cells (g := g) rfl j _ (by rw [List.getElem?_map, hb]; rfl))

theorem len_own (w : World) (base n : Nat) (v : Value) (xs : List Value) (h : w.ownsRow base 5 1 v n xs) : ∃ a c, v = .slice a n c := by
  rcases h.2 with ⟨rfl, rfl⟩ | ⟨g, cap, cur, rfl, _⟩
  · exact ⟨_, _, rfl⟩
  · exact ⟨_, _, rfl⟩

end PackRefNum
end Go.Proofs.Ytjgdmdgiicpemaa
