/-
  PLAIN NUMBERS FOR PACKAGE pack: a number's bytes, the highest one first; how many it needs; what bytes say.
-/
import Derived.Lib.BitFns
import Derived.Laws.Entries
import Derived.Laws.Concat
namespace Go.Proofs.YtaipbaegbpebkaaGreat
namespace PM

/-- The lowest k bytes of n, the highest one first. -/
def be : Nat → Nat → List UInt8
  | 0, _ => []
  | k + 1, n => be k (n / 256) ++ [UInt8.ofNat n]
/-- What bytes say, the highest one first. -/
def val (l : List UInt8) : Nat := l.foldl (fun n b => n * 256 + b.toNat) 0
/-- How many bytes n needs. -/
def nsz (n : Nat) : Nat := (Lib.bitLen n + 7) / 8
def num (n : Nat) : List UInt8 := UInt8.ofNat (nsz n) :: be (nsz n) n

theorem be_length (k : Nat) : ∀ n, (be k n).length = k := by
  induction k with
  | zero => intro n; rfl
  | succ k ih => intro n; simp [be, ih]
theorem be_cons (k : Nat) : ∀ n, be (k + 1) n = UInt8.ofNat (n / 256 ^ k) :: be k n := by
  induction k with
  | zero => intro n; simp [be]
  | succ k ih =>
    intro n
    show be (k + 1) (n / 256) ++ [UInt8.ofNat n] = _
    rw [ih (n / 256), Nat.div_div_eq_div_mul, Nat.pow_succ, Nat.mul_comm]
    rfl
theorem be_get (k : Nat) : ∀ n i, i < k → (be k n)[i]? = some (UInt8.ofNat (n / 256 ^ (k - 1 - i))) := by
  induction k with
  | zero => intro n i h; omega
  | succ k ih =>
    intro n i h
    rw [be_cons]
    cases i with
    | zero => simp
    | succ i =>
      rw [List.getElem?_cons_succ, ih n i (by omega)]
      congr 4; omega
theorem val_snoc (l : List UInt8) (b : UInt8) : val (l ++ [b]) = val l * 256 + b.toNat := by
  simp only [val, List.foldl_append, List.foldl_cons, List.foldl_nil]
theorem snoc_ind {p : List UInt8 → Prop} (h0 : p []) (h1 : ∀ l b, p l → p (l ++ [b])) (l : List UInt8) : p l := by
  have : ∀ m : List UInt8, p m.reverse := by
    intro m
    induction m with
    | nil => exact h0
    | cons b m ih => rw [List.reverse_cons]; exact h1 _ _ ih
  have h := this l.reverse
  rwa [List.reverse_reverse] at h
theorem val_lt (l : List UInt8) : val l < 256 ^ l.length := by
  induction l using snoc_ind with
  | h0 => simp [val]
  | h1 l b ih =>
    rw [val_snoc, List.length_append, List.length_singleton, Nat.pow_succ]
    have := b.toNat_lt
    omega
theorem val_be (k : Nat) : ∀ n, val (be k n) = n % 256 ^ k := by
  induction k with
  | zero => intro n; simp [be, val, Nat.mod_one]
  | succ k ih =>
    intro n
    show val (be k (n / 256) ++ [UInt8.ofNat n]) = _
    rw [val_snoc, ih]
    have e : (UInt8.ofNat n).toNat = n % 256 := by simp
    rw [e, Nat.pow_succ, Nat.mul_comm (256 ^ k) 256, Nat.mod_mul]
    omega
theorem be_val (l : List UInt8) : be l.length (val l) = l := by
  induction l using snoc_ind with
  | h0 => rfl
  | h1 l b ih =>
    have hb := b.toNat_lt
    rw [List.length_append, List.length_singleton, val_snoc]
    show be l.length ((val l * 256 + b.toNat) / 256) ++ [UInt8.ofNat (val l * 256 + b.toNat)] = _
    have e1 : (val l * 256 + b.toNat) / 256 = val l := by omega
    have e2 : UInt8.ofNat (val l * 256 + b.toNat) = b := by
      apply UInt8.toNat_inj.1
      simp
    rw [e1, e2, ih]
theorem be_mod (k n : Nat) : be k (n % 256 ^ k) = be k n := by
  have h := be_val (be k n)
  rw [be_length, val_be] at h
  exact h

theorem bitLen_spec (k : Nat) : ∀ n, n < 2 ^ k → k ≤ 64 → n < 2 ^ Lib.bitLen n ∧ (n ≠ 0 → 1 ≤ Lib.bitLen n ∧ 2 ^ (Lib.bitLen n - 1) ≤ n) ∧ Lib.bitLen n ≤ k ∧ (n = 0 → Lib.bitLen n = 0) := by
  induction k with
  | zero =>
    intro n h _
    have : n = 0 := by simpa using h
    subst this
    exact ⟨by decide, fun h => absurd rfl h, by decide, fun _ => rfl⟩
  | succ k ih =>
    intro n h hk
    by_cases h0 : n = 0
    · subst h0; exact ⟨by decide, fun h => absurd rfl h, by simp [Lib.bitLen, Lib.bitLenAux], fun _ => rfl⟩
    · have h64 : n < 2 ^ 64 := Nat.lt_of_lt_of_le h (Nat.pow_le_pow_right (by omega) hk)
      have hh := Lib.bitLen_half n h0 h64
      obtain ⟨a, b, c, d⟩ := ih (n / 2) (by rw [Nat.pow_succ] at h; omega) (by omega)
      rw [hh]
      refine ⟨?_, fun _ => ⟨by omega, ?_⟩, by omega, fun e => absurd e h0⟩
      · rw [Nat.pow_add]; omega
      · rw [Nat.add_sub_cancel_left]
        by_cases h1 : n / 2 = 0
        · rw [d h1]; simp; omega
        · have h2 := (b h1).2
          have h3 : 2 ^ Lib.bitLen (n / 2) = 2 * 2 ^ (Lib.bitLen (n / 2) - 1) := by
            rw [← Nat.pow_succ']; congr 1; have := (b h1).1; omega
          rw [h3]; omega

theorem pow8 (k : Nat) : 2 ^ (8 * k) = 256 ^ k := by rw [Nat.pow_mul]
theorem nsz_spec (n : Nat) (h : n < 2 ^ 64) : nsz n ≤ 8 ∧ n < 256 ^ nsz n ∧ (0 < nsz n → 256 ^ (nsz n - 1) ≤ n) := by
  obtain ⟨a, b, c, d⟩ := bitLen_spec 64 n h (by omega)
  have e : nsz n = (Lib.bitLen n + 7) / 8 := rfl
  refine ⟨by omega, ?_, fun hp => ?_⟩
  · rw [← pow8]
    exact Nat.lt_of_lt_of_le a (Nat.pow_le_pow_right (by omega) (by omega))
  · have h0 : n ≠ 0 := by intro h0; have := d h0; omega
    rw [← pow8]
    exact Nat.le_trans (Nat.pow_le_pow_right (by omega) (by have := (b h0).1; omega)) (b h0).2
theorem nsz_unique (n k : Nat) (h : n < 2 ^ 64) (h1 : n < 256 ^ k) (h2 : 0 < k → 256 ^ (k - 1) ≤ n) : nsz n = k := by
  obtain ⟨_, a, b⟩ := nsz_spec n h
  have step : ∀ i j : Nat, n < 256 ^ i → (0 < j → 256 ^ (j - 1) ≤ n) → j ≤ i := by
    intro i j hi hj
    rcases Nat.lt_or_ge i j with hlt | hge
    · exfalso
      have := hj (by omega)
      have h3 : 256 ^ i ≤ 256 ^ (j - 1) := Nat.pow_le_pow_right (by omega) (by omega)
      omega
    · exact hge
  have := step _ _ a h2
  have := step _ _ h1 b
  omega
theorem nsz_byte (n : Nat) (h : n < 2 ^ 64) : (UInt8.ofNat (nsz n)).toNat = nsz n := by
  have := (nsz_spec n h).1
  simp; omega
theorem num_length (n : Nat) : (num n).length = 1 + nsz n := by simp [num, be_length]; omega

/-- Bytes as a string of the model's. -/
def bs (l : List UInt8) : ByteArray := ⟨l.toArray⟩
theorem bs_data (l : List UInt8) : (bs l).data.toList = l := by simp [bs]
theorem bs_size (l : List UInt8) : (bs l).size = l.length := by simp [bs, ByteArray.size]
theorem bs_of (s : ByteArray) : bs s.data.toList = s := by
  apply ByteArray.ext; simp [bs]
theorem bs_append (l m : List UInt8) : bs l ++ bs m = bs (l ++ m) := ByteArray.mk_append_mk l m
theorem bs_append_ba (l : List UInt8) (s : ByteArray) : bs l ++ s = bs (l ++ s.data.toList) := by
  rw [← bs_append, bs_of]
theorem bs_inj {l m : List UInt8} (h : bs l = bs m) : l = m := by
  have := congrArg (fun s : ByteArray => s.data.toList) h
  simpa [bs_data] using this
end PM
end Go.Proofs.YtaipbaegbpebkaaGreat
