/-
  PLAIN: what bytes begin with (a number, a text, a frame), and why not.
-/
import Derived.Test.YtaipbaegbpebkaaGreatPackNum
import Derived.Test.YtaipbaegbpebkaaGreatPackMath
namespace Go.Proofs.YtaipbaegbpebkaaGreat
namespace PM

/-- Why no number begins: 0: one does; 3: they end too soon; 4: they are none. -/
def tnW : List UInt8 → Nat
  | [] => 3
  | b :: r => if 8 < b.toNat then 4 else if 0 < b.toNat ∧ r.head? = some 0 then 4 else if r.length < b.toNat then 3 else 0
def tnK : List UInt8 → Nat
  | [] => 0
  | b :: _ => b.toNat
def tnN (l : List UInt8) : Nat := if tnW l = 0 then val ((l.drop 1).take (tnK l)) else 0
def tnR (l : List UInt8) : List UInt8 := if tnW l = 0 then l.drop (1 + tnK l) else []

theorem tnN_lt (l : List UInt8) : tnN l < 2 ^ 64 := by
  unfold tnN
  split
  · rename_i h
    have h1 := val_lt ((l.drop 1).take (tnK l))
    have h2 : tnK l ≤ 8 := by
      cases l with
      | nil => simp [tnK]
      | cons b r =>
        simp only [tnW] at h
        simp only [tnK]
        rcases Nat.lt_or_ge 8 b.toNat with h3 | h3
        · rw [if_pos h3] at h; omega
        · exact h3
    have h3 : ((l.drop 1).take (tnK l)).length ≤ 8 := by rw [List.length_take]; omega
    have h4 : 256 ^ ((l.drop 1).take (tnK l)).length ≤ 256 ^ 8 := Nat.pow_le_pow_right (by omega) h3
    have h5 : (256 : Nat) ^ 8 = 2 ^ 64 := by decide
    omega
  · omega
theorem tnR_length (l : List UInt8) : (tnR l).length ≤ l.length := by
  unfold tnR
  split
  · rw [List.length_drop]; omega
  · simp

/-- A text: 0: one begins; 2: too long. -/
def ttW (l : List UInt8) : Nat :=
  if tnW l ≠ 0 then tnW l else if 65536 < tnN l then 2 else if (tnR l).length < tnN l then 3 else 0
def ttT (l : List UInt8) : List UInt8 := if ttW l = 0 then (tnR l).take (tnN l) else []
def ttR (l : List UInt8) : List UInt8 := if ttW l = 0 then (tnR l).drop (tnN l) else []

/-- The head of a frame: its size and its check. -/
def sizeOf4 (l : List UInt8) : Nat := val (l.take 4)
def chk (l : List UInt8) : List UInt8 := be 2 (crc l)
def tfW (l : List UInt8) : Nat :=
  if l.length < 4 then 3 else if 65536 < sizeOf4 l then 2 else if l.length < 6 + sizeOf4 l then 3
  else if (l.drop 4).take 2 ≠ chk (l.take 4 ++ (l.drop 6).take (sizeOf4 l)) then 4 else 0
def tfP (l : List UInt8) : List UInt8 := if tfW l = 0 then (l.drop 6).take (sizeOf4 l) else []
def tfR (l : List UInt8) : List UInt8 := if tfW l = 0 then l.drop (6 + sizeOf4 l) else []
def txt (l : List UInt8) : List UInt8 := num l.length ++ l
def frm (l : List UInt8) : List UInt8 := be 4 l.length ++ chk (be 4 l.length ++ l) ++ l

theorem extract_bs (s : ByteArray) (a b : Nat) : s.extract a b = bs ((s.data.toList.drop a).take (b - a)) := by
  apply ByteArray.ext
  apply Array.ext'
  simp [bs, ByteArray.data_extract, Array.toList_extract, List.extract]
theorem extract_end (s : ByteArray) (a : Nat) : s.extract a s.size = bs (s.data.toList.drop a) := by
  rw [extract_bs]
  congr 1
  apply List.take_of_length_le
  rw [List.length_drop]
  exact Nat.le_refl _
theorem size_length (s : ByteArray) : s.data.toList.length = s.size := rfl
theorem cons_of (s : ByteArray) (h : 0 < s.size) : s.data.toList = s[0] :: s.data.toList.drop 1 := by
  have h2 : 0 < s.data.toList.length := h
  have e := List.getElem_cons_drop h2
  rw [List.drop_zero] at e
  exact e.symm
theorem head_of (s : ByteArray) (h : 1 < s.size) : (s.data.toList.drop 1).head? = some s[1] := by
  rw [List.head?_drop]
  exact List.getElem?_eq_getElem (by exact h)
theorem rest_length (s : ByteArray) : (s.data.toList.drop 1).length = s.size - 1 := by rw [List.length_drop]; rfl
theorem rest_byte (s : ByteArray) (h : 0 < (s.extract 1 s.size).size) (h1 : 1 < s.size) : (s.extract 1 s.size)[0] = s[1] := by
  rw [ByteArray.getElem_extract]
theorem tnW_of (s : ByteArray) (hp : 0 < s.size) :
    tnW s.data.toList = if 8 < s[0].toNat then 4 else if 0 < s[0].toNat ∧ (s.data.toList.drop 1).head? = some 0 then 4 else if s.size - 1 < s[0].toNat then 3 else 0 := by
  rw [cons_of s hp]
  simp only [tnW, rest_length, List.drop_succ_cons, List.drop_zero]
theorem tnK_of (s : ByteArray) (hp : 0 < s.size) : tnK s.data.toList = s[0].toNat := by rw [cons_of s hp]; rfl
theorem tn_a (s : ByteArray) (hp : 0 < s.size) (h : 8 < s[0].toNat) : tnW s.data.toList = 4 := by rw [tnW_of s hp, if_pos h]
theorem tn_b (s : ByteArray) (hp : 0 < s.size) (h : s[0].toNat ≤ 8) (h1 : 0 < s[0].toNat) (h2 : 1 < s.size) (h3 : s[1].toNat = 0) : tnW s.data.toList = 4 := by
  have e : (s.data.toList.drop 1).head? = some 0 := by
    rw [head_of s h2]
    exact congrArg some (UInt8.toNat_inj.1 h3)
  rw [tnW_of s hp, if_neg (by omega), if_pos ⟨h1, e⟩]
/-- The next byte is not 0, if one is wanted and there. -/
def Fine (s : ByteArray) : Prop := ∀ hp : 0 < s.size, 0 < s[0].toNat → ∀ h : 1 < s.size, s[1].toNat ≠ 0
theorem tn_fine (s : ByteArray) (hp : 0 < s.size) (h : s[0].toNat ≤ 8) (hf : Fine s) : tnW s.data.toList = if s.size - 1 < s[0].toNat then 3 else 0 := by
  rw [tnW_of s hp, if_neg (by omega), if_neg]
  rintro ⟨h1, h2⟩
  by_cases h3 : 1 < s.size
  · rw [head_of s h3] at h2
    injection h2 with h2
    exact hf hp h1 h3 (by rw [h2]; rfl)
  · rw [List.head?_drop, List.getElem?_eq_none (by rw [size_length]; omega)] at h2
    cases h2
theorem tn_c (s : ByteArray) (hp : 0 < s.size) (h : s[0].toNat ≤ 8) (hf : Fine s) (h2 : s.size - 1 < s[0].toNat) : tnW s.data.toList = 3 := by
  rw [tn_fine s hp h hf, if_pos h2]
theorem tn_d (s : ByteArray) (hp : 0 < s.size) (h : s[0].toNat ≤ 8) (hf : Fine s) (h2 : ¬ s.size - 1 < s[0].toNat) : tnW s.data.toList = 0 := by
  rw [tn_fine s hp h hf, if_neg h2]
theorem fine_no (s : ByteArray) (hf : Fine s) (hp : 0 < s.size) (h1 : 0 < s[0].toNat) (h2 : 0 < s.size - 1) (h : 0 < (s.extract 1 s.size).size) (h3 : ((((s.extract 1 s.size)[0]'h).toNat : Int) == 0) = true) : False := by
  have e := rest_byte s h (by omega)
  rw [e] at h3
  exact hf hp h1 (by omega) (by simpa using h3)
theorem not_fine (s : ByteArray) (hf : ¬ Fine s) : ∃ (hp : 0 < s.size) (_ : 0 < s[0].toNat) (h : 1 < s.size), s[1].toNat = 0 := by
  apply Classical.byContradiction
  intro hn
  exact hf fun hp h1 h2 h3 => hn ⟨hp, h1, h2, h3⟩
theorem fine_yes (s : ByteArray) (h2 : 1 < s.size) (hz : s[1].toNat = 0) (h : 0 < (s.extract 1 s.size).size) (h3 : ((((s.extract 1 s.size)[0]'h).toNat : Int) == 0) = false) : False := by
  rw [rest_byte s h h2] at h3
  simp [hz] at h3
end PM
end Go.Proofs.YtaipbaegbpebkaaGreat
