/-
  NAMES: which texts are names, of the program and of the document.
-/
import Derived.Test.YtgdnpjmicdiclaaRows
import Derived.WalkKit
import Derived.WalkLawsBesides
import Derived.WalkSpells
import Derived.Lib.Hide
import Derived.Deep.LoopGhost
import Derived.Deep.QuietTactic
import Derived.BigQuiet
namespace Go.Proofs.Ytgdnpjmicdiclaa
open Go.RowKit
namespace Rg

theorem bdN {B : Nat} {a w : World} (h : Below B a w) (n : Nat) : Below B a (w.drewN n) := ⟨h.os, h.tape, h.output, h.size, h.block⟩
/-- A byte that may stand in a name. -/
def nmC (c : UInt8) : Bool := decide ((97 ≤ c.toNat ∧ c.toNat ≤ 122) ∨ (48 ≤ c.toNat ∧ c.toNat ≤ 57) ∨ c.toNat = 45)
def nmTo (s : ByteArray) (k : Nat) : Bool := (s.data.toList.take k).all nmC
def nameB (s : ByteArray) : Bool := decide (0 < s.size) && decide (s.size ≤ 32) && s.data.toList.all nmC
theorem nm_snoc (s : ByteArray) (k : Nat) (h : k < s.size) : nmTo s (k + 1) = (nmTo s k && nmC s[k]) := by
  unfold nmTo
  rw [List.take_succ_eq_append_getElem (by simpa using h), List.all_append]
  simp; rfl
theorem nm_all (s : ByteArray) (k : Nat) (h : s.size ≤ k) : nmTo s k = s.data.toList.all nmC := by
  unfold nmTo
  rw [List.take_of_length_le (by simpa using h)]
theorem nm_bad (s : ByteArray) (k : Nat) (h : k < s.size) (hc : nmC s[k] = false) : s.data.toList.all nmC = false := by
  rw [← Bool.not_eq_true, List.all_eq_true]
  intro ha
  have := ha s[k] (by rw [show s[k] = s.data.toList[k]'(by simpa using h) from rfl]; exact List.getElem_mem _)
  rw [hc] at this; cases this
theorem nmC_eq (c : UInt8) : nmC c = decide ((97 ≤ (c.toNat : Int) ∧ (c.toNat : Int) ≤ 122) ∨ (48 ≤ (c.toNat : Int) ∧ (c.toNat : Int) ≤ 57) ∨ (c.toNat : Int) = 45) := by
  unfold nmC
  rw [Bool.eq_iff_iff]; simp; omega

theorem name_a1 : nameB ⟨#[97, 45, 49]⟩ = true := by decide +kernel
theorem name_A : nameB ⟨#[65]⟩ = false := by decide +kernel
end Rg
end Go.Proofs.Ytgdnpjmicdiclaa
