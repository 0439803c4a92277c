/-
  WALK of the law on the order of numbers' bytes.
-/
import Derived.Test.YtmhhaajoddkfcaaPackLaw2
namespace Go.Proofs.Ytmhhaajoddkfcaa
open Go.RowKit
namespace PackLaw5
open PM PackBytes PackTakeNum PackTakeRef PackRefNum PackText PackChk PackFrame PackTakeFr PackTakeFrRef PackLaw2

theorem less_cons (x y : Nat) (hx : x < 256) (hy : y < 256) (l m : List UInt8) :
    Op.bytesLess (UInt8.ofNat x :: l) (UInt8.ofNat y :: m) = (decide (x < y) || (decide (x = y) && Op.bytesLess l m)) := by
  have e1 : decide (UInt8.ofNat x < UInt8.ofNat y) = decide (x < y) := by
    have h1 : (UInt8.ofNat x).toNat = x := by simp; omega
    have h2 : (UInt8.ofNat y).toNat = y := by simp; omega
    apply decide_eq_decide.2
    rw [UInt8.lt_iff_toNat_lt, h1, h2]
  have e2 : (UInt8.ofNat x == UInt8.ofNat y) = decide (x = y) := by
    have h1 : (UInt8.ofNat x).toNat = x := by simp; omega
    have h2 : (UInt8.ofNat y).toNat = y := by simp; omega
    rw [Bool.eq_iff_iff, beq_iff_eq, decide_eq_true_eq]
    exact ⟨fun e => by rw [← h1, ← h2, e], fun e => by rw [e]⟩
  simp only [Op.bytesLess]
  rw [e1, e2]
theorem be_low (k a : Nat) : be k (a % 256 ^ k) = be k a := be_mod k a
theorem less_be (k : Nat) : ∀ a b, a < 256 ^ k → b < 256 ^ k → Op.bytesLess (be k a) (be k b) = decide (a < b) := by
  induction k with
  | zero =>
    intro a b ha hb
    have : a = 0 := by simpa using ha
    have : b = 0 := by simpa using hb
    subst a; subst b; rfl
  | succ k ih =>
    intro a b ha hb
    have hp : 0 < 256 ^ k := Nat.pow_pos (by omega)
    rw [Nat.pow_succ] at ha hb
    have hxa : a / 256 ^ k < 256 := (Nat.div_lt_iff_lt_mul hp).2 (by rw [Nat.mul_comm]; exact ha)
    have hxb : b / 256 ^ k < 256 := (Nat.div_lt_iff_lt_mul hp).2 (by rw [Nat.mul_comm]; exact hb)
    have da := Nat.div_add_mod a (256 ^ k)
    have db := Nat.div_add_mod b (256 ^ k)
    have ma := Nat.mod_lt a hp
    have mb := Nat.mod_lt b hp
    rw [be_cons, be_cons, less_cons _ _ hxa hxb, ← be_low k a, ← be_low k b, ih _ _ ma mb]
    generalize a / 256 ^ k = x at *
    generalize b / 256 ^ k = y at *
    generalize a % 256 ^ k = u at *
    generalize b % 256 ^ k = v at *
    generalize 256 ^ k = p at *
    subst da; subst db
    rcases Nat.lt_trichotomy x y with h | h | h
    · have h1 : p * x + p ≤ p * y := by rw [← Nat.mul_succ]; exact Nat.mul_le_mul_left p h
      have h2 : p * x + u < p * y + v := by omega
      simp [h, h2]
    · subst h; simp
    · have h1 : p * y + p ≤ p * x := by rw [← Nat.mul_succ]; exact Nat.mul_le_mul_left p h
      have h2 : ¬ p * x + u < p * y + v := by omega
      have h3 : ¬ x < y := by omega
      have h4 : ¬ x = y := by omega
      simp [h2, h3, h4]
theorem less_num (a b : Nat) (ha : a < 2 ^ 64) (hb : b < 2 ^ 64) : Op.bytesLess (num a) (num b) = decide (a < b) := by
  obtain ⟨a8, alt, age⟩ := nsz_spec a ha
  obtain ⟨b8, blt, bge⟩ := nsz_spec b hb
  unfold num
  rw [less_cons _ _ (by omega) (by omega)]
  rcases Nat.lt_trichotomy (nsz a) (nsz b) with h | h | h
  · have h1 : 256 ^ nsz a ≤ 256 ^ (nsz b - 1) := Nat.pow_le_pow_right (by omega) (by omega)
    have h2 := bge (by omega)
    have h3 : a < b := by omega
    simp [h, h3]
  · rw [h, less_be _ _ _ (by rw [← h]; exact alt) blt]; simp
  · have h1 : 256 ^ nsz b ≤ 256 ^ (nsz a - 1) := Nat.pow_le_pow_right (by omega) (by omega)
    have h2 := age (by omega)
    have h3 : ¬ a < b := by omega
    have h4 : ¬ nsz a < nsz b := by omega
    have h5 : ¬ nsz a = nsz b := by omega
    simp [h3, h4, h5]

set_option maxRecDepth 100000 in
set_option maxHeartbeats 400000 in
theorem packOrder (x y : Int) (hx : (Lit.int .u64 x).wf = true) (hy : (Lit.int .u64 y).wf = true) (w : World) :
    Calls Try.prog 11 #[.int .u64 x, .int .u64 y] w fun e w' => e = .returned (.bool true) ∧ Below w.heap.size w w' := by
  have hx2 : 0 ≤ x ∧ x ≤ 18446744073709551615 := by simpa [Lit.wf, IntKind.min, IntKind.max, IntKind.signed, IntKind.bits] using hx
  have hy2 : 0 ≤ y ∧ y ≤ 18446744073709551615 := by simpa [Lit.wf, IntKind.min, IntKind.max, IntKind.signed, IntKind.bits] using hy
  obtain ⟨a, rfl⟩ := Int.eq_ofNat_of_zero_le hx2.1
  obtain ⟨b, rfl⟩ := Int.eq_ofNat_of_zero_le hy2.1
  have ha : a < 2 ^ 64 := by omega
  have hb : b < 2 ^ 64 := by omega
  have hl : Op.bytesLess (bs (num a)).toList (bs (num b)).toList = decide (a < b) := by rw [bs_toList, bs_toList]; exact less_num a b ha hb
  clear hx hx2 hy hy2
  go_enter Try.func11, Try.ntmps11
  go_wp2_with fail
  refine (numbers_true _).mono ?_
  rintro e w1 ⟨rfl, hb1⟩
  go_wp2_with fail
  refine (number_own a _ ha).mono ?_
  rintro e w2 ⟨rfl, hb2⟩
  go_wp2_with fail
  refine (number_own b _ hb).mono ?_
  rintro e w3 ⟨rfl, hb3⟩
  go_wp2
  go_ret
  have s1 := hb1.size
  have s2 := hb2.size
  refine ⟨?_, (hb1.trans (hb2.mono s1)).trans (hb3.mono (by omega))⟩
  rfl
end PackLaw5
end Go.Proofs.Ytmhhaajoddkfcaa
