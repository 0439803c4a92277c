/-
  PLAIN: what is taken of what was made; what is cut short.
-/
import Derived.Test.YtaipbaegbpebkaaGreatPackTakeMath
namespace Go.Proofs.YtaipbaegbpebkaaGreat
namespace PM

theorem be_head (n k : Nat) (h : n < 256 ^ k) (h2 : 0 < k → 256 ^ (k - 1) ≤ n) (hk : 0 < k) (r : List UInt8) : (be k n ++ r).head? ≠ some 0 := by
  obtain ⟨j, rfl⟩ : ∃ j, k = j + 1 := ⟨k - 1, by omega⟩
  rw [be_cons]
  simp only [List.cons_append, List.head?_cons]
  intro e
  injection e with e
  have e2 := congrArg UInt8.toNat e
  rw [Nat.pow_succ] at h
  have h3 : n / 256 ^ j < 256 := (Nat.div_lt_iff_lt_mul (Nat.pow_pos (by omega))).2 (by rw [Nat.mul_comm]; exact h)
  have h4 : 0 < n / 256 ^ j := Nat.div_pos (by simpa using h2 hk) (Nat.pow_pos (by omega))
  have e3 : (UInt8.ofNat (n / 256 ^ j)).toNat = n / 256 ^ j := by simp; omega
  rw [e3, show (0 : UInt8).toNat = 0 from rfl] at e2
  omega

theorem tn_back (n : Nat) (hn : n < 2 ^ 64) (r : List UInt8) : tnW (num n ++ r) = 0 ∧ tnN (num n ++ r) = n ∧ tnR (num n ++ r) = r := by
  obtain ⟨h8, hlt, hge⟩ := nsz_spec n hn
  have hb := nsz_byte n hn
  have hW : tnW (num n ++ r) = 0 := by
    show tnW (UInt8.ofNat (nsz n) :: (be (nsz n) n ++ r)) = 0
    simp only [tnW]
    rw [hb, if_neg (by omega), if_neg, if_neg (by rw [List.length_append, be_length]; omega)]
    rintro ⟨h1, h2⟩
    exact be_head n (nsz n) hlt hge h1 r h2
  have hK : tnK (num n ++ r) = nsz n := hb
  refine ⟨hW, ?_, ?_⟩
  · unfold tnN
    rw [if_pos hW, hK]
    show val ((be (nsz n) n ++ r).take (nsz n)) = n
    rw [List.take_append_of_le_length (by rw [be_length]; exact Nat.le_refl _), List.take_of_length_le (by rw [be_length]; exact Nat.le_refl _), val_be, Nat.mod_eq_of_lt hlt]
  · unfold tnR
    rw [if_pos hW, hK, Nat.add_comm]
    show (be (nsz n) n ++ r).drop (nsz n) = r
    rw [List.drop_append_of_le_length (by rw [be_length]; exact Nat.le_refl _), List.drop_of_length_le (by rw [be_length]; exact Nat.le_refl _)]
    rfl

theorem tt_back_long (l r : List UInt8) (hl : l.length < 2 ^ 64) (h : 65536 < l.length) : ttW (txt l ++ r) = 2 := by
  obtain ⟨a, b, c⟩ := tn_back l.length hl (l ++ r)
  unfold ttW
  rw [show txt l ++ r = num l.length ++ (l ++ r) from by simp [txt], a, b, if_neg (by omega), if_pos h]
theorem tt_back (l r : List UInt8) (h : ¬ 65536 < l.length) : ttW (txt l ++ r) = 0 ∧ ttT (txt l ++ r) = l ∧ ttR (txt l ++ r) = r := by
  obtain ⟨a, b, c⟩ := tn_back l.length (by omega) (l ++ r)
  have e : txt l ++ r = num l.length ++ (l ++ r) := by simp [txt]
  have hW : ttW (txt l ++ r) = 0 := by
    unfold ttW
    rw [e, a, b, c, if_neg (by omega), if_neg h, if_neg (by rw [List.length_append]; omega)]
  refine ⟨hW, ?_, ?_⟩
  · unfold ttT; rw [if_pos hW, e, b, c]; simp
  · unfold ttR; rw [if_pos hW, e, b, c]; simp

theorem frm_take4 (l r : List UInt8) : (frm l ++ r).take 4 = be 4 l.length := by
  unfold frm
  rw [List.append_assoc, List.append_assoc, List.take_append_of_le_length (by rw [be_length]; omega), List.take_of_length_le (by rw [be_length]; omega)]
theorem frm_drop4 (l r : List UInt8) : (frm l ++ r).drop 4 = chk (be 4 l.length ++ l) ++ (l ++ r) := by
  unfold frm
  rw [List.append_assoc, List.append_assoc, List.drop_append_of_le_length (by rw [be_length]; omega), List.drop_of_length_le (by rw [be_length]; omega)]
  rfl
theorem chk_len (l : List UInt8) : (chk l).length = 2 := be_length 2 _
theorem frm_drop6 (l r : List UInt8) : (frm l ++ r).drop 6 = l ++ r := by
  rw [show 6 = 4 + 2 from rfl, ← List.drop_drop, frm_drop4, List.drop_append_of_le_length (by rw [chk_len]; omega), List.drop_of_length_le (by rw [chk_len]; omega)]
  rfl
theorem frm_length (l : List UInt8) : (frm l).length = 6 + l.length := by
  unfold frm; rw [List.length_append, List.length_append, be_length, chk_len]
theorem frm_size (l r : List UInt8) (h : l.length < 4294967296) : sizeOf4 (frm l ++ r) = l.length := by
  unfold sizeOf4
  rw [frm_take4, val_be]
  exact Nat.mod_eq_of_lt (by omega)
theorem tf_back (l r : List UInt8) (h : ¬ 65536 < l.length) : tfW (frm l ++ r) = 0 ∧ tfP (frm l ++ r) = l ∧ tfR (frm l ++ r) = r := by
  have hs := frm_size l r (by omega)
  have hW : tfW (frm l ++ r) = 0 := by
    unfold tfW
    rw [hs, frm_take4, frm_drop4, frm_drop6, List.length_append, frm_length, if_neg (by omega), if_neg h, if_neg (by omega), if_neg]
    intro hn
    apply hn
    rw [List.take_append_of_le_length (by rw [chk_len]; omega), List.take_of_length_le (by rw [chk_len]; omega), List.take_append_of_le_length (by omega), List.take_of_length_le (by omega)]
  refine ⟨hW, ?_, ?_⟩
  · unfold tfP; rw [if_pos hW, hs, frm_drop6]; simp
  · unfold tfR; rw [if_pos hW, hs, ← List.drop_drop, frm_drop6]; simp

/-- Cut short. -/
theorem tn_short (n : Nat) (hn : n < 2 ^ 64) (k : Nat) (hk : k < (num n).length) : tnW ((num n).take k) = 3 := by
  obtain ⟨h8, hlt, hge⟩ := nsz_spec n hn
  have hb := nsz_byte n hn
  cases k with
  | zero => rfl
  | succ k =>
    rw [num_length] at hk
    show tnW (UInt8.ofNat (nsz n) :: (be (nsz n) n).take k) = 3
    simp only [tnW]
    rw [hb, if_neg (by omega), if_neg, if_pos (by rw [List.length_take, be_length]; omega)]
    rintro ⟨h1, h2⟩
    cases k with
    | zero => simp at h2
    | succ j =>
      have h3 := be_head n (nsz n) hlt hge h1 []
      rw [List.append_nil] at h3
      apply h3
      rw [← h2]
      cases h : be (nsz n) n <;> simp
theorem tt_short (l : List UInt8) (hl : ¬ 65536 < l.length) (k : Nat) (hk : k < (txt l).length) : ttW ((txt l).take k) = 3 := by
  rcases Nat.lt_or_ge k (num l.length).length with h | h
  · have e : (txt l).take k = (num l.length).take k := by unfold txt; rw [List.take_append_of_le_length (by omega)]
    have e2 := tn_short l.length (by omega) k h
    unfold ttW
    rw [e, e2, if_pos (by omega)]
  · have e : (txt l).take k = num l.length ++ l.take (k - (num l.length).length) := by
      unfold txt; rw [List.take_append, List.take_of_length_le h]
    obtain ⟨a, b, c⟩ := tn_back l.length (by omega) (l.take (k - (num l.length).length))
    have h2 : (txt l).length = (num l.length).length + l.length := by unfold txt; rw [List.length_append]
    unfold ttW
    rw [e, a, b, c, if_neg (by omega), if_neg hl, if_pos (by rw [List.length_take]; omega)]
theorem tf_short (l : List UInt8) (hl : ¬ 65536 < l.length) (k : Nat) (hk : k < (frm l).length) : tfW ((frm l).take k) = 3 := by
  have hlen : ((frm l).take k).length = k := by rw [List.length_take]; omega
  unfold tfW
  rw [hlen]
  by_cases h4 : k < 4
  · rw [if_pos h4]
  · have hs : sizeOf4 ((frm l).take k) = l.length := by
      have e := frm_size l [] (by omega)
      rw [List.append_nil] at e
      rw [← e]
      unfold sizeOf4
      rw [List.take_take, Nat.min_eq_left (by omega)]
    rw [frm_length] at hk
    rw [hs, if_neg h4, if_neg hl, if_pos (by omega)]
end PM
end Go.Proofs.YtaipbaegbpebkaaGreat
