/-
  PLAIN: a frame of which one byte is another is not read as a frame of the same length.
-/
import Derived.Test.YtlkdjnnlbccjdaaPackBackMath
namespace Go.Proofs.Ytlkdjnnlbccjdaa
namespace PM

theorem xor_cancel (a b c : Nat) (h : a ^^^ c = b ^^^ c) : a = b := by
  have h2 : (a ^^^ c) ^^^ c = (b ^^^ c) ^^^ c := by rw [h]
  rwa [Nat.xor_assoc, Nat.xor_assoc, Nat.xor_self, Nat.xor_zero, Nat.xor_zero] at h2
theorem xor_cancel_left (a b c : Nat) (h : c ^^^ a = c ^^^ b) : a = b := by
  rw [Nat.xor_comm c a, Nat.xor_comm c b] at h
  exact xor_cancel a b c h
theorem crcBit_inj (a b : Nat) (ha : a < 65536) (hb : b < 65536) (h : crcBit a = crcBit b) : a = b := by
  unfold crcBit at h
  have odd : ∀ x : Nat, ((2 * x) ^^^ 4129) % 2 = 1 := by
    intro x
    have e : ((2 * x) ^^^ 4129) % 2 = ((2 * x) % 2 ^^^ 4129 % 2) % 2 := by
      have := Nat.xor_mod_two_pow (a := 2 * x) (b := 4129) (n := 1)
      rw [Nat.pow_one] at this
      rw [this]
      have h1 : (2 * x) % 2 = 0 := by omega
      rw [h1]
      rfl
    rw [e, show (2 * x) % 2 = 0 from by omega]
    rfl
  split at h
  · split at h
    · have := xor_cancel _ _ _ h
      omega
    · exfalso
      have h1 := odd (a - 32768)
      rw [show 2 * (a - 32768) = 2 * a - 65536 from by omega, h] at h1
      omega
  · split at h
    · exfalso
      have h1 := odd (b - 32768)
      rw [show 2 * (b - 32768) = 2 * b - 65536 from by omega, ← h] at h1
      omega
    · omega
theorem crcBits_inj (k : Nat) : ∀ a b, a < 65536 → b < 65536 → crcBits k a = crcBits k b → a = b := by
  induction k with
  | zero => intro a b _ _ h; exact h
  | succ k ih =>
    intro a b ha hb h
    exact ih a b ha hb (crcBit_inj _ _ (crcBits_lt k a ha) (crcBits_lt k b hb) h)
theorem crcByte_inj (a b : Nat) (x : UInt8) (ha : a < 65536) (hb : b < 65536) (h : crcByte a x.toNat = crcByte b x.toNat) : a = b := by
  have hx := x.toNat_lt
  exact xor_cancel _ _ _ (crcBits_inj 8 _ _ (xor_lt _ _ ha (by omega)) (xor_lt _ _ hb (by omega)) h)
theorem crcByte_inj2 (a : Nat) (x y : UInt8) (ha : a < 65536) (h : crcByte a x.toNat = crcByte a y.toNat) : x = y := by
  have hx := x.toNat_lt
  have hy := y.toNat_lt
  have e := xor_cancel_left _ _ _ (crcBits_inj 8 _ _ (xor_lt _ _ ha (by omega)) (xor_lt _ _ ha (by omega)) h)
  exact UInt8.toNat_inj.1 (by omega)
theorem crcFrom_cons (c : Nat) (x : UInt8) (l : List UInt8) : crcFrom c (x :: l) = crcFrom (crcByte c x.toNat) l := by
  simp only [crcFrom, List.foldl_cons]
theorem crcFrom_inj (l : List UInt8) : ∀ a b, a < 65536 → b < 65536 → crcFrom a l = crcFrom b l → a = b := by
  induction l with
  | nil => intro a b _ _ h; exact h
  | cons x l ih =>
    intro a b ha hb h
    rw [crcFrom_cons, crcFrom_cons] at h
    exact crcByte_inj a b x ha hb (ih _ _ (crcByte_lt a x ha) (crcByte_lt b x hb) h)
/-- One byte is another: the check is another. -/
theorem crc_one (l r : List UInt8) (x y : UInt8) (h : crc (l ++ x :: r) = crc (l ++ y :: r)) : x = y := by
  unfold crc at h
  rw [crcFrom_append, crcFrom_append, crcFrom_cons, crcFrom_cons] at h
  have hl := crcFrom_lt l 65535 (by omega)
  exact crcByte_inj2 _ x y hl (crcFrom_inj r _ _ (crcByte_lt _ x hl) (crcByte_lt _ y hl) h)
theorem chk_inj (l m : List UInt8) (h : chk l = chk m) : crc l = crc m := by
  have e := congrArg val h
  unfold chk at e
  rw [val_be, val_be, Nat.mod_eq_of_lt (by have := crc_lt l; omega), Nat.mod_eq_of_lt (by have := crc_lt m; omega)] at e
  exact e
theorem set_split (l : List UInt8) (i : Nat) (h : i < l.length) (y : UInt8) : l.set i y = l.take i ++ y :: l.drop (i + 1) ∧ l = l.take i ++ l[i] :: l.drop (i + 1) :=
  ⟨by rw [List.set_eq_take_append_cons_drop, if_pos h], by rw [List.getElem_cons_drop h, List.take_append_drop]⟩

theorem take_set_ge (l : List UInt8) (i k : Nat) (y : UInt8) (h : k ≤ i) : (l.set i y).take k = l.take k := by
  apply List.ext_getElem?
  intro j
  rw [List.getElem?_take, List.getElem?_take]
  split
  · rw [List.getElem?_set_ne (by omega)]
  · rfl
theorem drop_set_lt (l : List UInt8) (i k : Nat) (y : UInt8) (h : i < k) : (l.set i y).drop k = l.drop k := by
  apply List.ext_getElem?
  intro j
  rw [List.getElem?_drop, List.getElem?_drop, List.getElem?_set_ne (by omega)]
theorem drop_set_ge (l : List UInt8) (i k : Nat) (y : UInt8) (h : k ≤ i) : (l.set i y).drop k = (l.drop k).set (i - k) y := by
  apply List.ext_getElem?
  intro j
  rw [List.getElem?_drop, List.getElem?_set, List.getElem?_set, List.getElem?_drop, List.length_drop]
  by_cases e : i = k + j
  · have e2 : i - k = j := by omega
    rw [if_pos e, if_pos e2]
    by_cases e3 : k + j < l.length
    · rw [if_pos (by omega), if_pos (by omega)]
    · rw [if_neg (by omega), if_neg (by omega)]
  · rw [if_neg e, if_neg (by omega)]

theorem sizeOf4_take (l : List UInt8) (h : 4 ≤ l.length) : be 4 (sizeOf4 l) = l.take 4 := by
  have e := be_val (l.take 4)
  rw [List.length_take, Nat.min_eq_left h] at e
  exact e

theorem turned (l : List UInt8) (i : Nat) (y : UInt8) (hl : ¬ 65536 < l.length) (hi : i < (frm l).length) (hy : y ≠ (frm l)[i]) (hW : tfW ((frm l).set i y) = 0) : (tfP ((frm l).set i y)).length ≠ l.length := by
  intro hP
  have hlen := frm_length l
  have hGlen : ((frm l).set i y).length = 6 + l.length := by rw [List.length_set, hlen]
  have hs4 : sizeOf4 (frm l) = l.length := by have := frm_size l [] (by omega); rwa [List.append_nil] at this
  -- the size that is read is the payload's
  have hW2 := hW
  unfold tfW at hW2
  rw [hGlen] at hW2
  have h1 : ¬ (6 + l.length < 4) := by omega
  rw [if_neg h1] at hW2
  have h2 : ¬ 65536 < sizeOf4 ((frm l).set i y) := by
    intro h; rw [if_pos h] at hW2; omega
  rw [if_neg h2] at hW2
  have h3 : ¬ 6 + l.length < 6 + sizeOf4 ((frm l).set i y) := by
    intro h; rw [if_pos h] at hW2; omega
  rw [if_neg h3] at hW2
  have h4 : (((frm l).set i y).drop 4).take 2 = chk (((frm l).set i y).take 4 ++ (((frm l).set i y).drop 6).take (sizeOf4 ((frm l).set i y))) := by
    apply Classical.byContradiction
    intro h; rw [if_pos h] at hW2; omega
  have hsz : sizeOf4 ((frm l).set i y) = l.length := by
    unfold tfP at hP
    rw [if_pos hW, List.length_take, List.length_drop, hGlen] at hP
    omega
  rw [hsz] at h4
  have d6 := frm_drop6 l []
  have d4 := frm_drop4 l []
  have t4 := frm_take4 l []
  simp only [List.append_nil] at d6 d4 t4
  -- so the first four bytes are as they were
  have hfirst : ((frm l).set i y).take 4 = (frm l).take 4 := by
    rw [← sizeOf4_take _ (by omega), ← sizeOf4_take _ (by omega), hsz, hs4]
  have hi4 : 4 ≤ i := by
    rcases Nat.lt_or_ge i 4 with h | h
    · exfalso
      have e := congrArg (fun m : List UInt8 => m[i]?) hfirst
      simp only [List.getElem?_take, if_pos h, List.getElem?_set_self hi] at e
      rw [List.getElem?_eq_getElem hi] at e
      exact hy (Option.some.inj e)
    · exact h
  rw [hfirst, t4] at h4
  rcases Nat.lt_or_ge i 6 with h6 | h6
  · -- a byte of the check is another
    rw [drop_set_lt _ _ _ _ h6, d6, List.take_of_length_le (Nat.le_refl _), drop_set_ge _ _ _ _ hi4, d4] at h4
    have e := congrArg (fun m : List UInt8 => m[i - 4]?) h4
    have hc := chk_len (be 4 l.length ++ l)
    simp only [List.getElem?_take, if_pos (show i - 4 < 2 by omega)] at e
    rw [List.getElem?_set_self (by rw [List.length_append, hc]; omega)] at e
    have e2 : (frm l)[i]? = (chk (be 4 l.length ++ l))[i - 4]? := by
      have e3 := congrArg (fun m : List UInt8 => m[i - 4]?) d4
      simp only [List.getElem?_drop] at e3
      rw [show 4 + (i - 4) = i by omega, List.getElem?_append_left (by rw [hc]; omega)] at e3
      exact e3
    rw [← e2, List.getElem?_eq_getElem hi] at e
    exact hy (Option.some.inj e)
  · -- a byte of the payload is another
    have q : (l.set (i - 6) y).take l.length = l.set (i - 6) y := List.take_of_length_le (by rw [List.length_set]; exact Nat.le_refl _)
    rw [drop_set_ge _ _ _ _ h6, d6, q, drop_set_ge _ _ _ _ hi4, d4] at h4
    have hc := chk_len (be 4 l.length ++ l)
    rw [List.set_append_right _ _ (by rw [hc]; omega), List.take_append_of_le_length (by rw [hc]; omega), List.take_of_length_le (by rw [hc]; omega)] at h4
    have e := chk_inj _ _ h4
    have hi2 : i - 6 < l.length := by omega
    obtain ⟨s1, s2⟩ := set_split l (i - 6) hi2 y
    rw [s1] at e
    rw [show be 4 l.length ++ l = be 4 l.length ++ (l.take (i - 6) ++ l[i - 6] :: l.drop (i - 6 + 1)) from by rw [← s2], ← List.append_assoc, ← List.append_assoc] at e
    have e2 := crc_one _ _ _ _ e
    apply hy
    rw [← e2]
    have e3 := congrArg (fun m : List UInt8 => m[i - 6]?) d6
    simp only [List.getElem?_drop] at e3
    rw [show 6 + (i - 6) = i by omega, List.getElem?_eq_getElem hi, List.getElem?_eq_getElem hi2] at e3
    exact (Option.some.inj e3).symm
end PM
end Go.Proofs.Ytlkdjnnlbccjdaa
