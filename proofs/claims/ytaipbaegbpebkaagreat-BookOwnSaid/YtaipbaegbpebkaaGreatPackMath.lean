/-
  PLAIN NUMBERS FOR PACKAGE pack: the check of bytes, a number's bytes. Nothing of the program is named here.
-/
import Derived.Laws.BitsAllLaws
import Derived.Laws.BitsLemmas
namespace Go.Proofs.YtaipbaegbpebkaaGreat
namespace PM

/-- One doubling of a check. -/
def crcBit (c : Nat) : Nat := if 32768 ≤ c then (2 * c - 65536) ^^^ 4129 else 2 * c
def crcBits : Nat → Nat → Nat
  | 0, c => c
  | k + 1, c => crcBit (crcBits k c)
def crcByte (c b : Nat) : Nat := crcBits 8 (c ^^^ (b * 256))
def crcFrom (c : Nat) (l : List UInt8) : Nat := l.foldl (fun c b => crcByte c b.toNat) c
def crc (l : List UInt8) : Nat := crcFrom 65535 l

theorem xor_lt (a b : Nat) (ha : a < 65536) (hb : b < 65536) : a ^^^ b < 65536 := Nat.xor_lt_two_pow (n := 16) ha hb
theorem crcBit_lt (c : Nat) (h : c < 65536) : crcBit c < 65536 := by
  unfold crcBit; split
  · exact xor_lt _ _ (by omega) (by omega)
  · omega
theorem crcBit_zero : crcBit 0 = 0 := rfl
theorem crcBits_lt (k c : Nat) (h : c < 65536) : crcBits k c < 65536 := by
  induction k with
  | zero => exact h
  | succ k ih => exact crcBit_lt _ ih
theorem crcBits_zero_from (k j c : Nat) (h : crcBits k c = 0) (hj : k ≤ j) : crcBits j c = 0 := by
  induction j with
  | zero => have : k = 0 := by omega
            subst this; exact h
  | succ j ih =>
    by_cases e : k = j + 1
    · subst e; exact h
    · show crcBit (crcBits j c) = 0
      rw [ih (by omega)]; rfl
theorem crcByte_lt (c : Nat) (b : UInt8) (h : c < 65536) : crcByte c b.toNat < 65536 := by
  have := b.toNat_lt
  exact crcBits_lt _ _ (xor_lt _ _ h (by omega))
theorem crcFrom_lt (l : List UInt8) : ∀ c, c < 65536 → crcFrom c l < 65536 := by
  induction l with
  | nil => intro c h; exact h
  | cons b l ih =>
    intro c h
    have h2 := ih _ (crcByte_lt c b h)
    have e : crcFrom c (b :: l) = crcFrom (crcByte c b.toNat) l := by simp only [crcFrom, List.foldl_cons]
    rw [e]; exact h2
theorem crcFrom_append (c : Nat) (l m : List UInt8) : crcFrom c (l ++ m) = crcFrom (crcFrom c l) m := by
  simp only [crcFrom, List.foldl_append]
theorem crc_lt (l : List UInt8) : crc l < 65536 := by
  unfold crc; exact crcFrom_lt l 65535 (by omega)
theorem crc_snoc (l : List UInt8) (b : UInt8) : crc (l ++ [b]) = crcByte (crc l) b.toNat := by
  simp only [crc, crcFrom, List.foldl_append, List.foldl_cons, List.foldl_nil]
theorem take_snoc (s : ByteArray) (k : Nat) (h : k < s.size) : s.data.toList.take (k + 1) = s.data.toList.take k ++ [s[k]] := by
  rw [List.take_succ_eq_append_getElem (by simpa using h)]; rfl
theorem take_all (s : ByteArray) (k : Nat) (h : s.size ≤ k) : s.data.toList.take k = s.data.toList :=
  List.take_of_length_le (by simpa using h)
end PM
end Go.Proofs.YtaipbaegbpebkaaGreat
