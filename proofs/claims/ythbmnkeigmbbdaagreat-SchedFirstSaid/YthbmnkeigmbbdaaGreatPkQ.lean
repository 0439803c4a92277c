/-
  Merged: PackNum, PackMath, PackBytes, PackTakeMath, PackTakeNum, PackTakeRef, Mem, PackRefNum, PackText, PackSum, PackChk, PackFrame, PackTakeFr, PackBackMath, HardPart, PartsMk, OrdTold.
-/
import Derived.Lib.BitFns
import Derived.Laws.Entries
import Derived.Laws.Concat
import Derived.Laws.BitsAllLaws
import Derived.Laws.BitsLemmas
import Derived.Test.YthbmnkeigmbbdaaGreatRows
import Derived.WalkKit
import Derived.WalkLawsBesides
import Derived.WalkSpells
import Derived.Lib.Hide
import Derived.Deep.LoopGhost
import Derived.Deep.OwnRows
import Derived.Deep.RegionWith
import Derived.Deep.QuietTactic
import Derived.BigQuiet
import Derived.Laws.AppendOwnNone
import Derived.Deep.DeepCutAuto
import Derived.Laws.ResultCell
import Derived.Laws.Externs
import Derived.Lib.OthersKept
import Derived.Lib.Builder
import Derived.Lib.AppendStr
import Derived.Lib.UnsafeStr
/-
  PLAIN NUMBERS FOR PACKAGE pack: a number's bytes, the highest one first; how many it needs; what bytes say.
-/
namespace Go.Proofs.YthbmnkeigmbbdaaGreat
namespace PM

/-- The lowest k bytes of n, the highest one first. -/
def be : Nat → Nat → List UInt8
  | 0, _ => []
  | k + 1, n => be k (n / 256) ++ [UInt8.ofNat n]
/-- What bytes say, the highest one first. -/
def val (l : List UInt8) : Nat := l.foldl (fun n b => n * 256 + b.toNat) 0
/-- How many bytes n needs. -/
def nsz (n : Nat) : Nat := (Lib.bitLen n + 7) / 8
def num (n : Nat) : List UInt8 := UInt8.ofNat (nsz n) :: be (nsz n) n

theorem be_length (k : Nat) : ∀ n, (be k n).length = k := by
  induction k with
  | zero => intro n; rfl
  | succ k ih => intro n; simp [be, ih]
theorem be_cons (k : Nat) : ∀ n, be (k + 1) n = UInt8.ofNat (n / 256 ^ k) :: be k n := by
  induction k with
  | zero => intro n; simp [be]
  | succ k ih =>
    intro n
    show be (k + 1) (n / 256) ++ [UInt8.ofNat n] = _
    rw [ih (n / 256), Nat.div_div_eq_div_mul, Nat.pow_succ, Nat.mul_comm]
    rfl
theorem be_get (k : Nat) : ∀ n i, i < k → (be k n)[i]? = some (UInt8.ofNat (n / 256 ^ (k - 1 - i))) := by
  induction k with
  | zero => intro n i h; omega
  | succ k ih =>
    intro n i h
    rw [be_cons]
    cases i with
    | zero => simp
    | succ i =>
      rw [List.getElem?_cons_succ, ih n i (by omega)]
      congr 4; omega
theorem val_snoc (l : List UInt8) (b : UInt8) : val (l ++ [b]) = val l * 256 + b.toNat := by
  simp only [val, List.foldl_append, List.foldl_cons, List.foldl_nil]
theorem snoc_ind {p : List UInt8 → Prop} (h0 : p []) (h1 : ∀ l b, p l → p (l ++ [b])) (l : List UInt8) : p l := by
  have : ∀ m : List UInt8, p m.reverse := by
    intro m
    induction m with
    | nil => exact h0
    | cons b m ih => rw [List.reverse_cons]; exact h1 _ _ ih
  have h := this l.reverse
  rwa [List.reverse_reverse] at h
theorem val_lt (l : List UInt8) : val l < 256 ^ l.length := by
  induction l using snoc_ind with
  | h0 => simp [val]
  | h1 l b ih =>
    rw [val_snoc, List.length_append, List.length_singleton, Nat.pow_succ]
    have := b.toNat_lt
    omega
theorem val_be (k : Nat) : ∀ n, val (be k n) = n % 256 ^ k := by
  induction k with
  | zero => intro n; simp [be, val, Nat.mod_one]
  | succ k ih =>
    intro n
    show val (be k (n / 256) ++ [UInt8.ofNat n]) = _
    rw [val_snoc, ih]
    have e : (UInt8.ofNat n).toNat = n % 256 := by simp
    rw [e, Nat.pow_succ, Nat.mul_comm (256 ^ k) 256, Nat.mod_mul]
    omega
theorem be_val (l : List UInt8) : be l.length (val l) = l := by
  induction l using snoc_ind with
  | h0 => rfl
  | h1 l b ih =>
    have hb := b.toNat_lt
    rw [List.length_append, List.length_singleton, val_snoc]
    show be l.length ((val l * 256 + b.toNat) / 256) ++ [UInt8.ofNat (val l * 256 + b.toNat)] = _
    have e1 : (val l * 256 + b.toNat) / 256 = val l := by omega
    have e2 : UInt8.ofNat (val l * 256 + b.toNat) = b := by
      apply UInt8.toNat_inj.1
      simp
    rw [e1, e2, ih]
theorem be_mod (k n : Nat) : be k (n % 256 ^ k) = be k n := by
  have h := be_val (be k n)
  rw [be_length, val_be] at h
  exact h

theorem bitLen_spec (k : Nat) : ∀ n, n < 2 ^ k → k ≤ 64 → n < 2 ^ Lib.bitLen n ∧ (n ≠ 0 → 1 ≤ Lib.bitLen n ∧ 2 ^ (Lib.bitLen n - 1) ≤ n) ∧ Lib.bitLen n ≤ k ∧ (n = 0 → Lib.bitLen n = 0) := by
  induction k with
  | zero =>
    intro n h _
    have : n = 0 := by simpa using h
    subst this
    exact ⟨by decide, fun h => absurd rfl h, by decide, fun _ => rfl⟩
  | succ k ih =>
    intro n h hk
    by_cases h0 : n = 0
    · subst h0; exact ⟨by decide, fun h => absurd rfl h, by simp [Lib.bitLen, Lib.bitLenAux], fun _ => rfl⟩
    · have h64 : n < 2 ^ 64 := Nat.lt_of_lt_of_le h (Nat.pow_le_pow_right (by omega) hk)
      have hh := Lib.bitLen_half n h0 h64
      obtain ⟨a, b, c, d⟩ := ih (n / 2) (by rw [Nat.pow_succ] at h; omega) (by omega)
      rw [hh]
      refine ⟨?_, fun _ => ⟨by omega, ?_⟩, by omega, fun e => absurd e h0⟩
      · rw [Nat.pow_add]; omega
      · rw [Nat.add_sub_cancel_left]
        by_cases h1 : n / 2 = 0
        · rw [d h1]; simp; omega
        · have h2 := (b h1).2
          have h3 : 2 ^ Lib.bitLen (n / 2) = 2 * 2 ^ (Lib.bitLen (n / 2) - 1) := by
            rw [← Nat.pow_succ']; congr 1; have := (b h1).1; omega
          rw [h3]; omega

theorem pow8 (k : Nat) : 2 ^ (8 * k) = 256 ^ k := by rw [Nat.pow_mul]
theorem nsz_spec (n : Nat) (h : n < 2 ^ 64) : nsz n ≤ 8 ∧ n < 256 ^ nsz n ∧ (0 < nsz n → 256 ^ (nsz n - 1) ≤ n) := by
  obtain ⟨a, b, c, d⟩ := bitLen_spec 64 n h (by omega)
  have e : nsz n = (Lib.bitLen n + 7) / 8 := rfl
  refine ⟨by omega, ?_, fun hp => ?_⟩
  · rw [← pow8]
    exact Nat.lt_of_lt_of_le a (Nat.pow_le_pow_right (by omega) (by omega))
  · have h0 : n ≠ 0 := by intro h0; have := d h0; omega
    rw [← pow8]
    exact Nat.le_trans (Nat.pow_le_pow_right (by omega) (by have := (b h0).1; omega)) (b h0).2
theorem nsz_unique (n k : Nat) (h : n < 2 ^ 64) (h1 : n < 256 ^ k) (h2 : 0 < k → 256 ^ (k - 1) ≤ n) : nsz n = k := by
  obtain ⟨_, a, b⟩ := nsz_spec n h
  have step : ∀ i j : Nat, n < 256 ^ i → (0 < j → 256 ^ (j - 1) ≤ n) → j ≤ i := by
    intro i j hi hj
    rcases Nat.lt_or_ge i j with hlt | hge
    · exfalso
      have := hj (by omega)
      have h3 : 256 ^ i ≤ 256 ^ (j - 1) := Nat.pow_le_pow_right (by omega) (by omega)
      omega
    · exact hge
  have := step _ _ a h2
  have := step _ _ h1 b
  omega
theorem nsz_byte (n : Nat) (h : n < 2 ^ 64) : (UInt8.ofNat (nsz n)).toNat = nsz n := by
  have := (nsz_spec n h).1
  simp; omega
theorem num_length (n : Nat) : (num n).length = 1 + nsz n := by simp [num, be_length]; omega

/-- Bytes as a string of the model's. -/
def bs (l : List UInt8) : ByteArray := ⟨l.toArray⟩
theorem bs_data (l : List UInt8) : (bs l).data.toList = l := by simp [bs]
theorem bs_size (l : List UInt8) : (bs l).size = l.length := by simp [bs, ByteArray.size]
theorem bs_of (s : ByteArray) : bs s.data.toList = s := by
  apply ByteArray.ext; simp [bs]
theorem bs_append (l m : List UInt8) : bs l ++ bs m = bs (l ++ m) := ByteArray.mk_append_mk l m
theorem bs_append_ba (l : List UInt8) (s : ByteArray) : bs l ++ s = bs (l ++ s.data.toList) := by
  rw [← bs_append, bs_of]
theorem bs_inj {l m : List UInt8} (h : bs l = bs m) : l = m := by
  have := congrArg (fun s : ByteArray => s.data.toList) h
  simpa [bs_data] using this
end PM
end Go.Proofs.YthbmnkeigmbbdaaGreat

/-
  PLAIN NUMBERS FOR PACKAGE pack: the check of bytes, a number's bytes. Nothing of the program is named here.
-/
namespace Go.Proofs.YthbmnkeigmbbdaaGreat
namespace PM

/-- One doubling of a check. -/
def crcBit (c : Nat) : Nat := if 32768 ≤ c then (2 * c - 65536) ^^^ 4129 else 2 * c
def crcBits : Nat → Nat → Nat
  | 0, c => c
  | k + 1, c => crcBit (crcBits k c)
def crcByte (c b : Nat) : Nat := crcBits 8 (c ^^^ (b * 256))
def crcFrom (c : Nat) (l : List UInt8) : Nat := l.foldl (fun c b => crcByte c b.toNat) c
def crc (l : List UInt8) : Nat := crcFrom 65535 l

theorem xor_lt (a b : Nat) (ha : a < 65536) (hb : b < 65536) : a ^^^ b < 65536 := Nat.xor_lt_two_pow (n := 16) ha hb
theorem crcBit_lt (c : Nat) (h : c < 65536) : crcBit c < 65536 := by
  unfold crcBit; split
  · exact xor_lt _ _ (by omega) (by omega)
  · omega
theorem crcBit_zero : crcBit 0 = 0 := rfl
theorem crcBits_lt (k c : Nat) (h : c < 65536) : crcBits k c < 65536 := by
  induction k with
  | zero => exact h
  | succ k ih => exact crcBit_lt _ ih
theorem crcBits_zero_from (k j c : Nat) (h : crcBits k c = 0) (hj : k ≤ j) : crcBits j c = 0 := by
  induction j with
  | zero => have : k = 0 := by omega
            subst this; exact h
  | succ j ih =>
    by_cases e : k = j + 1
    · subst e; exact h
    · show crcBit (crcBits j c) = 0
      rw [ih (by omega)]; rfl
theorem crcByte_lt (c : Nat) (b : UInt8) (h : c < 65536) : crcByte c b.toNat < 65536 := by
  have := b.toNat_lt
  exact crcBits_lt _ _ (xor_lt _ _ h (by omega))
theorem crcFrom_lt (l : List UInt8) : ∀ c, c < 65536 → crcFrom c l < 65536 := by
  induction l with
  | nil => intro c h; exact h
  | cons b l ih =>
    intro c h
    have h2 := ih _ (crcByte_lt c b h)
    have e : crcFrom c (b :: l) = crcFrom (crcByte c b.toNat) l := by simp only [crcFrom, List.foldl_cons]
    rw [e]; exact h2
theorem crcFrom_append (c : Nat) (l m : List UInt8) : crcFrom c (l ++ m) = crcFrom (crcFrom c l) m := by
  simp only [crcFrom, List.foldl_append]
theorem crc_lt (l : List UInt8) : crc l < 65536 := by
  unfold crc; exact crcFrom_lt l 65535 (by omega)
theorem crc_snoc (l : List UInt8) (b : UInt8) : crc (l ++ [b]) = crcByte (crc l) b.toNat := by
  simp only [crc, crcFrom, List.foldl_append, List.foldl_cons, List.foldl_nil]
theorem take_snoc (s : ByteArray) (k : Nat) (h : k < s.size) : s.data.toList.take (k + 1) = s.data.toList.take k ++ [s[k]] := by
  rw [List.take_succ_eq_append_getElem (by simpa using h)]; rfl
theorem take_all (s : ByteArray) (k : Nat) (h : s.size ≤ k) : s.data.toList.take k = s.data.toList :=
  List.take_of_length_le (by simpa using h)
end PM
end Go.Proofs.YthbmnkeigmbbdaaGreat

/-
  CONTRACTS: math/bits.Len64, pack.spread, pack.gather.
-/
namespace Go.Proofs.YthbmnkeigmbbdaaGreat
open Go.RowKit
namespace PackBytes
open PM

theorem tab_size : Lib.len8tab.size = 256 := by decide +kernel
theorem tab_get (y : Nat) (h : y < Lib.len8tab.size) : ((Lib.len8tab[y]'h).toNat : Int) = (Lib.bitLen y : Nat) := by
  have h2 : y < 256 := by rw [← tab_size]; exact h
  have e := Lib.len8_eq ⟨y, h2⟩
  simp only [Lib.len8, Int.toNat_natCast] at e
  rw [← e, ByteArray.getElem?_lt' _ _ h]; rfl
theorem bitLen_cut (x k : Nat) (hx : x < 18446744073709551616) (hk : k = 0 ∨ 2 ^ k ≤ x) : Lib.bitLen x = k + Lib.bitLen (x / 2 ^ k) := by
  rcases hk with rfl | hk
  · simp
  · exact Lib.bitLen_shift k x hk hx
theorem bitLen_small (y : Nat) (h : y < 256) : Lib.bitLen y ≤ 8 := Lib.bitLen_le8 ⟨y, h⟩
/-- What the four ways of Len64 come to. -/
theorem len_way (x : Int) (k y : Nat) (h0 : 0 ≤ x) (h1 : x ≤ 18446744073709551615) (hy : y < Lib.len8tab.size) (e : x.toNat / 2 ^ k = y) (hk : k = 0 ∨ 2 ^ k ≤ x.toNat) (hk8 : k ≤ 64) :
    wrap64 ((k : Int) + wrap64 (Lib.len8tab[y]'hy).toNat) = (Lib.bitLen x.toNat : Nat) := by
  have h2 : y < 256 := by rw [← tab_size]; exact hy
  have h3 := bitLen_small y h2
  rw [tab_get, bitLen_cut x.toNat k (by omega) hk, e]
  unfold wrap64
  omega

set_option maxRecDepth 100000 in
set_option maxHeartbeats 4000000 in
theorem len64 (x : Int) (w : World) (h0 : 0 ≤ x) (h1 : x ≤ 18446744073709551615) :
    Calls Tryz.prog 147 #[.int .u64 x] w fun e w' => e = .returned (.int .i64 (Lib.bitLen x.toNat : Nat)) ∧ w = w' := by
  go_enter Tryz.func147, Tryz.ntmps147
  have hz : Lib.len8tab.size = 256 := tab_size
  go_wp2
  all_goals go_ret
  all_goals refine ⟨congrArg Ending.returned (congrArg (Value.int IntKind.i64) ?_), rfl⟩
  · exact len_way x 56 _ h0 h1 _ (by omega) (by omega) (by omega)
  · exact len_way x 48 _ h0 h1 _ (by omega) (by omega) (by omega)
  · exact len_way x 40 _ h0 h1 _ (by omega) (by omega) (by omega)
  · exact len_way x 32 _ h0 h1 _ (by omega) (by omega) (by omega)
  · exact len_way x 24 _ h0 h1 _ (by omega) (by omega) (by omega)
  · exact len_way x 16 _ h0 h1 _ (by omega) (by omega) (by omega)
  · exact len_way x 8 _ h0 h1 _ (by omega) (by omega) (by omega)
  · have e := len_way x 0 x.toNat h0 h1 (by omega) (by omega) (by omega) (by omega)
    rw [← e]; simp


def gat (l : List UInt8) (k : Nat) : Nat := val (l.take k)
theorem or_low (a b : Nat) (ha : a < 72057594037927936) (hb : b < 256) : bits .or .u64 ((a : Int) * 256) (b : Int) = ((a * 256 + b : Nat) : Int) := by
  have e : ((a : Int) * 256) = ((a * 256 : Nat) : Int) := by omega
  rw [e, u64_or_nat _ _ (by omega) (by omega), nat_join 8 (a * 256) b (by omega) (by omega)]

/-- What a shift to byte i comes to. -/
theorem shr_byte (n k i : Nat) :
    ((n : Int) / 2 ^ (8 * (k - 1 - i))) % 256 = ((UInt8.ofNat (n / 256 ^ (k - 1 - i))).toNat : Int) := by
  have e2 : (UInt8.ofNat (n / 256 ^ (k - 1 - i))).toNat = n / 256 ^ (k - 1 - i) % 256 := by simp
  rw [e2, ← pow8]
  generalize 8 * (k - 1 - i) = m
  rw [Int.natCast_emod, Int.natCast_ediv, Int.natCast_pow]
  rfl
theorem push_all (l : List UInt8) : ∀ r : ByteArray, (l.map (fun b => (b.toNat : Int))).foldl (fun r n => r.push (UInt8.ofNat n.toNat)) r = r ++ bs l := by
  induction l with
  | nil =>
    intro r
    apply ByteArray.ext
    simp [bs]
  | cons b l ih =>
    intro r
    rw [List.map_cons, List.foldl_cons, ih]
    apply ByteArray.ext
    simp [bs]
theorem conv_bytes {P : Program} (src dst e : TypeId) (hs : P.underlying src = some (.slice e)) (he : P.underlying e = some (.int .u8)) (hd : P.underlying dst = some .string)
    (w : World) (a : Addr) (l : List UInt8) (n c : Nat) (hn : l.length = n) (h : ∀ j b, l[j]? = some b → w.cell? (a.add j) = some (.int .u8 (b.toNat : Nat))) :
    (convert src dst (.slice (some a) n c)).run P w = .ok (.string (bs l)) w := by
  subst hn
  have hl := run_loadCells_list (P := P) w a (l.map (fun b => Value.int .u8 (b.toNat : Nat))) (by
    intro j v hv
    rw [List.getElem?_map] at hv
    obtain ⟨b, hb, rfl⟩ := Option.map_eq_some_iff.1 hv
    exact h j b hb)
  rw [List.length_map] at hl
  rw [run_convert_bytes_string w src dst e _ _ _ hs he hd, run_bytesToString w a l.length c (l.map (fun b => (b.toNat : Int))) (by
    rw [hl, List.map_map]; rfl)]
  rw [push_all]
  congr 2
theorem cell_alloc_new (w : World) (C : Array Value) (t : TypeId) (j : Nat) : (w.alloc (.cells C t)).cell? ((⟨w.heap.size, 0, none⟩ : Addr).add j) = C[j]? := by
  have h := cell_of_row (w.alloc (.cells C t)) w.heap.size j C t (0, 0) (heap_alloc_new w _)
  rw [← h]
  unfold Addr.add
  split
  · rename_i e; subst e; rfl
  · simp

theorem info_u8 : (Tryz.prog.info? 5).map (fun i => (i.zero, i.size, i.bytes)) = some (some (.int .u8 0), 1, 1) := by kernel_rfl

end PackBytes
end Go.Proofs.YthbmnkeigmbbdaaGreat

/-
  PLAIN: what bytes begin with (a number, a text, a frame), and why not.
-/
namespace Go.Proofs.YthbmnkeigmbbdaaGreat
namespace PM

/-- Why no number begins: 0: one does; 3: they end too soon; 4: they are none. -/
def tnW : List UInt8 → Nat
  | [] => 3
  | b :: r => if 8 < b.toNat then 4 else if 0 < b.toNat ∧ r.head? = some 0 then 4 else if r.length < b.toNat then 3 else 0
def tnK : List UInt8 → Nat
  | [] => 0
  | b :: _ => b.toNat
def tnN (l : List UInt8) : Nat := if tnW l = 0 then val ((l.drop 1).take (tnK l)) else 0
def tnR (l : List UInt8) : List UInt8 := if tnW l = 0 then l.drop (1 + tnK l) else []

theorem tnN_lt (l : List UInt8) : tnN l < 2 ^ 64 := by
  unfold tnN
  split
  · rename_i h
    have h1 := val_lt ((l.drop 1).take (tnK l))
    have h2 : tnK l ≤ 8 := by
      cases l with
      | nil => simp [tnK]
      | cons b r =>
        simp only [tnW] at h
        simp only [tnK]
        rcases Nat.lt_or_ge 8 b.toNat with h3 | h3
        · rw [if_pos h3] at h; omega
        · exact h3
    have h3 : ((l.drop 1).take (tnK l)).length ≤ 8 := by rw [List.length_take]; omega
    have h4 : 256 ^ ((l.drop 1).take (tnK l)).length ≤ 256 ^ 8 := Nat.pow_le_pow_right (by omega) h3
    have h5 : (256 : Nat) ^ 8 = 2 ^ 64 := by decide
    omega
  · omega
theorem tnR_length (l : List UInt8) : (tnR l).length ≤ l.length := by
  unfold tnR
  split
  · rw [List.length_drop]; omega
  · simp

/-- A text: 0: one begins; 2: too long. -/
def ttW (l : List UInt8) : Nat :=
  if tnW l ≠ 0 then tnW l else if 65536 < tnN l then 2 else if (tnR l).length < tnN l then 3 else 0
def ttT (l : List UInt8) : List UInt8 := if ttW l = 0 then (tnR l).take (tnN l) else []
def ttR (l : List UInt8) : List UInt8 := if ttW l = 0 then (tnR l).drop (tnN l) else []

/-- The head of a frame: its size and its check. -/
def sizeOf4 (l : List UInt8) : Nat := val (l.take 4)
def chk (l : List UInt8) : List UInt8 := be 2 (crc l)
def tfW (l : List UInt8) : Nat :=
  if l.length < 4 then 3 else if 65536 < sizeOf4 l then 2 else if l.length < 6 + sizeOf4 l then 3
  else if (l.drop 4).take 2 ≠ chk (l.take 4 ++ (l.drop 6).take (sizeOf4 l)) then 4 else 0
def tfP (l : List UInt8) : List UInt8 := if tfW l = 0 then (l.drop 6).take (sizeOf4 l) else []
def tfR (l : List UInt8) : List UInt8 := if tfW l = 0 then l.drop (6 + sizeOf4 l) else []
def txt (l : List UInt8) : List UInt8 := num l.length ++ l
def frm (l : List UInt8) : List UInt8 := be 4 l.length ++ chk (be 4 l.length ++ l) ++ l

theorem extract_bs (s : ByteArray) (a b : Nat) : s.extract a b = bs ((s.data.toList.drop a).take (b - a)) := by
  apply ByteArray.ext
  apply Array.ext'
  simp [bs, ByteArray.data_extract, Array.toList_extract, List.extract]
theorem extract_end (s : ByteArray) (a : Nat) : s.extract a s.size = bs (s.data.toList.drop a) := by
  rw [extract_bs]
  congr 1
  apply List.take_of_length_le
  rw [List.length_drop]
  exact Nat.le_refl _
theorem size_length (s : ByteArray) : s.data.toList.length = s.size := rfl
theorem cons_of (s : ByteArray) (h : 0 < s.size) : s.data.toList = s[0] :: s.data.toList.drop 1 := by
  have h2 : 0 < s.data.toList.length := h
  have e := List.getElem_cons_drop h2
  rw [List.drop_zero] at e
  exact e.symm
theorem head_of (s : ByteArray) (h : 1 < s.size) : (s.data.toList.drop 1).head? = some s[1] := by
  rw [List.head?_drop]
  exact List.getElem?_eq_getElem (by exact h)
theorem rest_length (s : ByteArray) : (s.data.toList.drop 1).length = s.size - 1 := by rw [List.length_drop]; rfl
theorem rest_byte (s : ByteArray) (h : 0 < (s.extract 1 s.size).size) (h1 : 1 < s.size) : (s.extract 1 s.size)[0] = s[1] := by
  rw [ByteArray.getElem_extract]
theorem tnW_of (s : ByteArray) (hp : 0 < s.size) :
    tnW s.data.toList = if 8 < s[0].toNat then 4 else if 0 < s[0].toNat ∧ (s.data.toList.drop 1).head? = some 0 then 4 else if s.size - 1 < s[0].toNat then 3 else 0 := by
  rw [cons_of s hp]
  simp only [tnW, rest_length, List.drop_succ_cons, List.drop_zero]
theorem tnK_of (s : ByteArray) (hp : 0 < s.size) : tnK s.data.toList = s[0].toNat := by rw [cons_of s hp]; rfl
theorem tn_a (s : ByteArray) (hp : 0 < s.size) (h : 8 < s[0].toNat) : tnW s.data.toList = 4 := by rw [tnW_of s hp, if_pos h]
theorem tn_b (s : ByteArray) (hp : 0 < s.size) (h : s[0].toNat ≤ 8) (h1 : 0 < s[0].toNat) (h2 : 1 < s.size) (h3 : s[1].toNat = 0) : tnW s.data.toList = 4 := by
  have e : (s.data.toList.drop 1).head? = some 0 := by
    rw [head_of s h2]
    exact congrArg some (UInt8.toNat_inj.1 h3)
  rw [tnW_of s hp, if_neg (by omega), if_pos ⟨h1, e⟩]
/-- The next byte is not 0, if one is wanted and there. -/
def Fine (s : ByteArray) : Prop := ∀ hp : 0 < s.size, 0 < s[0].toNat → ∀ h : 1 < s.size, s[1].toNat ≠ 0
theorem tn_fine (s : ByteArray) (hp : 0 < s.size) (h : s[0].toNat ≤ 8) (hf : Fine s) : tnW s.data.toList = if s.size - 1 < s[0].toNat then 3 else 0 := by
  rw [tnW_of s hp, if_neg (by omega), if_neg]
  rintro ⟨h1, h2⟩
  by_cases h3 : 1 < s.size
  · rw [head_of s h3] at h2
    injection h2 with h2
    exact hf hp h1 h3 (by rw [h2]; rfl)
  · rw [List.head?_drop, List.getElem?_eq_none (by rw [size_length]; omega)] at h2
    cases h2
theorem tn_c (s : ByteArray) (hp : 0 < s.size) (h : s[0].toNat ≤ 8) (hf : Fine s) (h2 : s.size - 1 < s[0].toNat) : tnW s.data.toList = 3 := by
  rw [tn_fine s hp h hf, if_pos h2]
theorem tn_d (s : ByteArray) (hp : 0 < s.size) (h : s[0].toNat ≤ 8) (hf : Fine s) (h2 : ¬ s.size - 1 < s[0].toNat) : tnW s.data.toList = 0 := by
  rw [tn_fine s hp h hf, if_neg h2]
theorem fine_no (s : ByteArray) (hf : Fine s) (hp : 0 < s.size) (h1 : 0 < s[0].toNat) (h2 : 0 < s.size - 1) (h : 0 < (s.extract 1 s.size).size) (h3 : ((((s.extract 1 s.size)[0]'h).toNat : Int) == 0) = true) : False := by
  have e := rest_byte s h (by omega)
  rw [e] at h3
  exact hf hp h1 (by omega) (by simpa using h3)
theorem not_fine (s : ByteArray) (hf : ¬ Fine s) : ∃ (hp : 0 < s.size) (_ : 0 < s[0].toNat) (h : 1 < s.size), s[1].toNat = 0 := by
  apply Classical.byContradiction
  intro hn
  exact hf fun hp h1 h2 h3 => hn ⟨hp, h1, h2, h3⟩
theorem fine_yes (s : ByteArray) (h2 : 1 < s.size) (hz : s[1].toNat = 0) (h : 0 < (s.extract 1 s.size).size) (h3 : ((((s.extract 1 s.size)[0]'h).toNat : Int) == 0) = false) : False := by
  rw [rest_byte s h h2] at h3
  simp [hz] at h3
end PM
end Go.Proofs.YthbmnkeigmbbdaaGreat

/-
  CONTRACTS: pack.TakeNumber and the document's own.
-/
namespace Go.Proofs.YthbmnkeigmbbdaaGreat
open Go.RowKit
namespace PackTakeNum
open PM PackBytes

/-- What a call that takes a number leaves. -/
def Took (l : List UInt8) (e : Ending) : Prop := e = .returned (.tuple #[.int .u64 (tnN l : Nat), .string (bs (tnR l)), .int .i64 (tnW l : Nat)])

theorem took_bad (l : List UInt8) (k : Nat) (h : tnW l = k) (h0 : k ≠ 0) : Took l (.returned (.tuple #[.int .u64 0, .string ⟨#[]⟩, .int .i64 k])) := by
  have e1 : tnN l = 0 := by unfold tnN; rw [if_neg (by omega)]
  have e2 : tnR l = [] := by unfold tnR; rw [if_neg (by omega)]
  unfold Took
  rw [e1, e2, h]
  rfl

def valB (s : ByteArray) : Nat := val s.data.toList
theorem took_good (s : ByteArray) (hp : 0 < s.size) (h : tnW s.data.toList = 0) :
    Took s.data.toList (.returned (.tuple #[.int .u64 (valB ((s.extract 1 s.size).extract 0 s[0].toNat) : Nat), .string ((s.extract 1 s.size).extract s[0].toNat (s.size - 1)), .int .i64 0])) := by
  have e1 : tnN s.data.toList = valB ((s.extract 1 s.size).extract 0 s[0].toNat) := by
    unfold tnN valB
    rw [if_pos h, extract_bs, bs_data, extract_end, bs_data, tnK_of s hp]
    rfl
  have e2 : bs (tnR s.data.toList) = (s.extract 1 s.size).extract s[0].toNat (s.size - 1) := by
    unfold tnR
    rw [if_pos h, tnK_of s hp, extract_bs, extract_end, bs_data, List.drop_drop]
    congr 1
    rw [List.take_of_length_le]
    rw [List.length_drop, size_length]; omega
  unfold Took
  rw [e1, e2, h]
  rfl

theorem below_drewN (w : World) (n : Nat) : Below w.heap.size w (w.drewN n) := ⟨rfl, rfl, rfl, Nat.le_refl _, fun _ _ => rfl⟩

end PackTakeNum
end Go.Proofs.YthbmnkeigmbbdaaGreat

/-
  CONTRACTS: the document's own TakeNumber.
-/
namespace Go.Proofs.YthbmnkeigmbbdaaGreat
open Go.RowKit
namespace PackTakeRef
open PM PackBytes PackTakeNum

theorem toList_data (s : ByteArray) : s.toList = s.data.toList := ByteArray.toList_eq s
theorem val_next (s : ByteArray) (j : Nat) (h : j + 1 < s.size) : val ((s.data.toList.drop 1).take (j + 1)) = 256 * val ((s.data.toList.drop 1).take j) + s[j + 1].toNat := by
  have e : (s.data.toList.drop 1).take (j + 1) = (s.data.toList.drop 1).take j ++ [s[j + 1]] := by
    rw [List.take_succ_eq_append_getElem (by rw [rest_length]; omega)]
    congr 2
    rw [List.getElem_drop]
    simp only [Nat.add_comm 1 j]
    rfl
  rw [e, val_snoc]; omega
theorem val_take_lt (l : List UInt8) (j : Nat) : val (l.take j) < 256 ^ j := by
  have h := val_lt (l.take j)
  have h2 : (l.take j).length ≤ j := List.length_take_le _ _
  exact Nat.lt_of_lt_of_le h (Nat.pow_le_pow_right (by omega) h2)

theorem nz_no (s : ByteArray) (h : 1 < s.size) (hz : s[1].toNat = 0) (h3 : ((s[1].toNat : Int) == 0) = false) : False := by simp [hz] at h3
theorem fz_no (s : ByteArray) (hf : Fine s) (hp : 0 < s.size) (h1 : 0 < s[0].toNat) (h : 1 < s.size) (h3 : ((s[1].toNat : Int) == 0) = true) : False :=
  hf hp h1 h (by simpa using h3)
theorem took_ref (s : ByteArray) (hp : 0 < s.size) (h : tnW s.data.toList = 0) (k : Nat) (hk : k = s[0].toNat) :
    Took s.data.toList (.returned (.tuple #[.int .u64 (val ((s.data.toList.drop 1).take k) : Nat), .string (s.extract (k + 1) s.size), .int .i64 0])) := by
  subst hk
  have e1 : tnN s.data.toList = val ((s.data.toList.drop 1).take s[0].toNat) := by
    unfold tnN; rw [if_pos h, tnK_of s hp]
  have e2 : bs (tnR s.data.toList) = s.extract (s[0].toNat + 1) s.size := by
    unfold tnR
    rw [if_pos h, tnK_of s hp, extract_end, Nat.add_comm]
  unfold Took
  rw [e1, e2, h]
  rfl

end PackTakeRef
end Go.Proofs.YthbmnkeigmbbdaaGreat

/-
  MEMORY: an append of a row that the call owns, nil or not, to a row that it owns; a slice literal of one cell.
-/
namespace Go.Proofs.YthbmnkeigmbbdaaGreat
open Go.RowKit
namespace Mem

theorem own_lit (w : World) (base : Nat) (e : TypeId) (x : Value) (hb : base ≤ w.heap.size) :
    (w.alloc (.cells #[x] e)).ownsRow base e 1 (.slice (some ⟨w.heap.size, 0, none⟩) 1 1) 1 [x] :=
  ⟨by simp, .inr ⟨w.heap.size, 1, #[x], rfl, hb, heap_alloc_new w _, Nat.le_refl _, by unfold maxLen; omega, by simp, by simp⟩⟩

section
variable {P : Program} {w : World}
theorem run_append_row (base : Nat) (t ty e : TypeId) (i : TypeInfo) (z : Value) (bytes : Nat) (ht : P.underlying t = some (.slice e)) (hi : P.info? e = some i) (hz : i.zero = some z)
    (hsize : i.size = 1) (hby : i.bytes = bytes) (hzs : z.cells.size = 1)
    (v : Value) (n : Nat) (xs : List Value) (hown : w.ownsRow base e 1 v n xs)
    (base2 : Nat) (u : Value) (m : Nat) (ys : List Value) (hsrc : w.ownsRow base2 e 1 u m ys) (h1 : ∀ u ∈ ys, u.oneCell' = true)
    (h63 : n + m ≤ maxLen) (hbytes : (n + m) * bytes ≤ 140737488355328) (hbase : base ≤ w.heap.size) :
    ∃ v' w', (Builtin.append_ #[t, t] ty #[v, u]).run P w = .ok v' w' ∧ w'.ownsRow base e 1 v' (n + m) (xs ++ ys) ∧ w.grownBy w' v.ownBlock := by
  rcases hsrc.2 with ⟨rfl, rfl⟩ | ⟨g, cap, cur, rfl, hbg, hh, hnc, hcm, hcs, htk⟩
  · have hy : ys = [] := List.eq_nil_of_length_eq_zero (by simpa using hsrc.1)
    subst hy
    exact ⟨v, w, run_append_owned_none (P := P) (w := w) base t ty e i 1 ht hi v n xs hown, by simpa using hown, World.grownBy.refl w _⟩
  · obtain ⟨v', w', hrun, h2, h3, _⟩ := run_append_own (P := P) w base t ty e i z 1 bytes ht hi hz hsize hby hzs (by omega) v n xs hown ⟨g, 0, none⟩ m cap ys
      (by simpa using hsrc.1) (hsrc.cells rfl) h1 h63 hbytes hbase
    exact ⟨v', w', hrun, h2, h3⟩

theorem wpList_append_row {ops : Array Oper} {rest : List Oper} {o : Oper} {a : Act} {Q : Exit → Act → World → Prop} (hgd : o.guard = none) (s x : Operand) (t : TypeId)
    (ho : o.op = .call { callee := .builtin .append, args := #[s, x], argTypes := #[t, t] })
    (base : Nat) (e : TypeId) (i : TypeInfo) (z : Value) (bytes : Nat) (ht : P.underlying t = some (.slice e)) (hi : P.info? e = some i) (hz : i.zero = some z)
    (hsize : i.size = 1) (hby : i.bytes = bytes) (hzs : z.cells.size = 1)
    (v : Value) (n : Nat) (xs : List Value) (hs : a.eval s = v) (hown : w.ownsRow base e 1 v n xs)
    (base2 : Nat) (u : Value) (m : Nat) (ys : List Value) (hx : a.eval x = u) (hsrc : w.ownsRow base2 e 1 u m ys) (h1 : ∀ u ∈ ys, u.oneCell' = true)
    (h63 : n + m ≤ maxLen) (hbytes : (n + m) * bytes ≤ 140737488355328) (hbase : base ≤ w.heap.size)
    (h : ∀ v' w', w'.ownsRow base e 1 v' (n + m) (xs ++ ys) → w.grownBy w' v.ownBlock → wpList P ops Q rest (a.put o.dst v') w') : wpList P ops Q (o :: rest) a w := by
  obtain ⟨v', w', hrun, h2, h3⟩ := run_append_row (P := P) (w := w) base t o.type e i z bytes ht hi hz hsize hby hzs v n xs hown base2 u m ys hsrc h1 h63 hbytes hbase
  refine wpList_plain hgd fun K hK => ?_
  unfold Oper.wp execOp
  simp only [ho, resolve, invoke, builtin, Sem.run_bind, Sem.run_pure, Result.andThen_ok, List.map_toArray, List.map_cons, List.map_nil, hs, hx, hrun]
  exact hK _ _ (h v' w' h2 h3)
end
end Mem
end Go.Proofs.YthbmnkeigmbbdaaGreat

/-
  CONTRACTS: the document's own Number hands back the number's bytes.
-/
namespace Go.Proofs.YthbmnkeigmbbdaaGreat
open Go.RowKit
namespace PackRefNum
open PM PackBytes

def enc (b : UInt8) : Value := .int .u8 (b.toNat : Nat)
theorem enc_one (l : List UInt8) : ∀ u ∈ l.map enc, u.oneCell' = true := by
  intro u hu
  obtain ⟨b, _, rfl⟩ := List.mem_map.1 hu
  rfl

theorem len_own (w : World) (base n : Nat) (v : Value) (xs : List Value) (h : w.ownsRow base 5 1 v n xs) : ∃ a c, v = .slice a n c := by
  rcases h.2 with ⟨rfl, rfl⟩ | ⟨g, cap, cur, rfl, _⟩
  · exact ⟨_, _, rfl⟩
  · exact ⟨_, _, rfl⟩

end PackRefNum
end Go.Proofs.YthbmnkeigmbbdaaGreat

/-
  CONTRACTS: pack.Text, pack.TakeText and the document's own.
-/
namespace Go.Proofs.YthbmnkeigmbbdaaGreat
open Go.RowKit
namespace PackText
open PM PackBytes PackTakeNum PackTakeRef PackRefNum

theorem bdN {B : Nat} {a w : World} (h : Below B a w) (n : Nat) : Below B a (w.drewN n) := ⟨h.os, h.tape, h.output, h.size, h.block⟩

def txtB (s : ByteArray) : ByteArray := bs (txt s.data.toList)
theorem txtB_of (s : ByteArray) : bs (num s.size) ++ s = txtB s := by
  rw [bs_append_ba]; rfl

/-- What a call that takes a text leaves. -/
def TookT (l : List UInt8) (e : Ending) : Prop := e = .returned (.tuple #[.string (bs (ttT l)), .string (bs (ttR l)), .int .i64 (ttW l : Nat)])
theorem tookT_bad (l : List UInt8) (k : Nat) (h : ttW l = k) (h0 : k ≠ 0) : TookT l (.returned (.tuple #[.string ⟨#[]⟩, .string ⟨#[]⟩, .int .i64 k])) := by
  have e1 : ttT l = [] := by unfold ttT; rw [if_neg (by omega)]
  have e2 : ttR l = [] := by unfold ttR; rw [if_neg (by omega)]
  unfold TookT
  rw [e1, e2, h]
  rfl
theorem tookT_good (l : List UInt8) (h : ttW l = 0) (R : List UInt8) (n : Nat) (hR : R = tnR l) (hn : n = tnN l) :
    TookT l (.returned (.tuple #[.string ((bs R).extract 0 n), .string ((bs R).extract n R.length), .int .i64 0])) := by
  subst hR; subst hn
  have e1 : bs (ttT l) = (bs (tnR l)).extract 0 (tnN l) := by
    unfold ttT; rw [if_pos h, extract_bs, bs_data]; rfl
  have e2 : bs (ttR l) = (bs (tnR l)).extract (tnN l) (tnR l).length := by
    have e := extract_end (bs (tnR l)) (tnN l)
    rw [bs_size, bs_data] at e
    unfold ttR; rw [if_pos h, e]
  unfold TookT
  rw [e1, e2, h]
  rfl

end PackText
end Go.Proofs.YthbmnkeigmbbdaaGreat

/-
  CONTRACTS: pack.Sum and the document's own Sum hand back the check of any bytes; the world is as it was.
-/
namespace Go.Proofs.YthbmnkeigmbbdaaGreat
open Go.RowKit
namespace PackSum
open PM

theorem ref_in (c b : Nat) (hc : c < 65536) (hb : b < 256) : bits .xor .u32 (c : Int) ((b : Int) * 256) = ((c ^^^ b * 256 : Nat) : Int) := by
  have e : ((b : Int) * 256) = ((b * 256 : Nat) : Int) := by omega
  rw [e]; exact u32_xor_nat c (b * 256) (by omega) (by omega)
theorem ref_hi (d : Nat) (h : 32768 ≤ d) : crcBit d = (2 * d - 65536) ^^^ 4129 := by unfold crcBit; rw [if_pos h]
theorem ref_lo (d : Nat) (h : ¬ 32768 ≤ d) : crcBit d = 2 * d := by unfold crcBit; rw [if_neg h]

theorem own_in (c b : Nat) (hc : c < 65536) (hb : b < 256) : bits .xor .u16 (c : Int) ((b : Int) * 256) = ((c ^^^ b * 256 : Nat) : Int) := by
  have e : ((b : Int) * 256) = ((b * 256 : Nat) : Int) := by omega
  rw [e]; exact u16_xor_nat c (b * 256) (by omega) (by omega)
theorem and_top (c : Nat) (h : c < 65536) : c &&& 32768 = if 32768 ≤ c then 32768 else 0 := by
  have e : (32768 : Nat) = 2 ^ 15 := rfl
  apply Nat.eq_of_testBit_eq
  intro i
  rw [Nat.testBit_and, e, Nat.testBit_two_pow]
  by_cases g : 15 = i
  · subst g
    rw [Nat.testBit_eq_decide_div_mod_eq]
    by_cases g2 : 2 ^ 15 ≤ c
    · have : c / 2 ^ 15 % 2 = 1 := by omega
      rw [if_pos g2, Nat.testBit_two_pow]; simp [this]
    · have : c / 2 ^ 15 % 2 = 0 := by omega
      rw [if_neg g2]; simp [this]
  · split
    · rw [Nat.testBit_two_pow]; simp [g]
    · simp [g]
theorem own_top (c : Nat) (h : c < 65536) : bits .and .u16 (c : Int) 32768 = if 32768 ≤ c then 32768 else 0 := by
  have h1 := u16_and_nat c 32768 h (by omega)
  rw [show ((32768 : Nat) : Int) = 32768 from rfl] at h1
  rw [h1]
  have h2 : c &&& 32768 = if 32768 ≤ c then 32768 else 0 := and_top c h
  rw [h2]; split <;> rfl

set_option maxRecDepth 100000 in
set_option maxHeartbeats 400000 in
theorem sum_own (s : ByteArray) (w : World) (hs : s.size ≤ maxLen) :
    Calls Tryz.prog 71 #[.string s] w fun e w' => e = .returned (.int .u16 (crc s.data.toList : Nat)) ∧ w = w' := by
  unfold maxLen at hs
  go_enter Tryz.func71, Tryz.ntmps71
  go_wp2
  go_step3
  go_wp2
  go_step3
  go_wp2
  go_loopg [3, 8] s.size (fun g c i wx => wx = w ∧ ∃ (k d : Nat), k + g = s.size ∧ i = .int .i64 k ∧ c = .int .u16 (d : Nat) ∧ d < 65536 ∧ Aside (d = crc (s.data.toList.take k)))
  case atStart => exact ⟨rfl, 0, 65535, by omega, rfl, rfl, by omega, rfl⟩
  case round =>
    obtain ⟨rfl, k, d, hkg, rfl, rfl, hd, HA⟩ := hrel
    cases gk with
    | zero =>
      have hlk : s.size ≤ k := by omega
      have hlk2 : k ≤ s.size := by omega
      clear hkg
      go_wp2
      rw [Exit.noGoto_ret]
      go_ret
      have e := HA.out
      rw [take_all s k hlk] at e
      subst e
      exact ⟨rfl, rfl⟩
    | succ g =>
      have hlk : k < s.size := by omega
      have HG := Lib.hid hkg
      clear hkg
      have hb := s[k].toNat_lt
      have HS := HA.out
      have HT : Aside (crcBits 8 (d ^^^ s[k].toNat * 256) = crc (s.data.toList.take (k + 1))) := by
        show _ = _
        rw [take_snoc s k hlk, crc_snoc, ← HS]; rfl
      clear HS
      have HI := Lib.hid (own_in d s[k].toNat hd hb)
      have hx := xor_lt d (s[k].toNat * 256) hd (by omega)
      go_wp2
      rw [HI.out]
      clear HI hb
      generalize d ^^^ (s[k].toNat * 256) = c0 at *
      go_loopg [3, 18] 8 (fun g2 c i wy => wy = wr ∧ ∃ j c1 : Nat, j + g2 = 8 ∧ i = .int .i64 j ∧ c = .int .u16 (c1 : Nat) ∧ c1 < 65536 ∧ Aside (c1 = crcBits j c0))
      case atStart => exact ⟨rfl, 0, c0, by omega, rfl, rfl, hx, rfl⟩
      case round =>
        obtain ⟨rfl, j, c1, hjg, rfl, rfl, h1, HJ⟩ := hrel
        cases gk with
        | zero =>
          have t1 : (8 : Int) ≤ j := by omega
          obtain rfl : j = 8 := by omega
          clear hjg
          go_wp2
          go_roundg g
          case measure => omega
          case rel => exact ⟨rfl, k + 1, c1, by have := HG.out; omega, by go_num, rfl, h1, by show _ = _; rw [← HT.out]; exact HJ.out⟩
        | succ g2 =>
          have t1 : (j : Int) < 8 := by omega
          have HG2 := Lib.hid hjg
          have HJ8 := Lib.hid (show j ≤ 8 from by omega)
          clear hjg
          by_cases h0 : c1 = 0
          · subst h0
            go_wp2
            go_roundg g
            case measure => omega
            case rel => exact ⟨rfl, k + 1, 0, by have := HG.out; omega, by go_num, rfl, by omega, by show _ = _; rw [← HT.out]; exact (crcBits_zero_from j 8 c0 HJ.out.symm HJ8.out).symm⟩
          · have t0 : ((c1 : Int) == 0) = false := by simp; omega
            clear h0
            by_cases h3 : 32768 ≤ c1
            · have t2 : bits BinOp.and IntKind.u16 (c1 : Int) 32768 = 32768 := by rw [own_top c1 h1, if_pos h3]
              have HX := Lib.hid (u16_xor_nat (2 * c1 - 65536) 4129 (by omega) (by omega))
              go_wp2
              go_roundg g2
              case measure => omega
              case rel =>
                refine ⟨rfl, j + 1, (2 * c1 - 65536) ^^^ 4129, by have := HG2.out; omega, by go_num, ?_, xor_lt _ _ (by omega) (by omega), by show _ = crcBit _; rw [← HJ.out, ref_hi _ h3]⟩
                rw [← HX.out, show ((2 * c1 - 65536 : Nat) : Int) = (c1 : Int) * 2 % 65536 from by omega]
                rfl
            · have t2 : bits BinOp.and IntKind.u16 (c1 : Int) 32768 = 0 := by rw [own_top c1 h1, if_neg h3]
              go_wp2
              go_roundg g2
              case measure => omega
              case rel => exact ⟨rfl, j + 1, c1 * 2, by have := HG2.out; omega, by go_num, by go_num, by omega, by show _ = crcBit _; rw [← HJ.out, ref_lo _ h3]; omega⟩
end PackSum
end Go.Proofs.YthbmnkeigmbbdaaGreat

/-
  CONTRACTS: pack.check, the document's own check and four; the makers of frames.
-/
namespace Go.Proofs.YthbmnkeigmbbdaaGreat
open Go.RowKit
namespace PackChk
open PM PackBytes PackTakeNum PackTakeRef PackRefNum PackText

def chkB (s : ByteArray) : ByteArray := bs (chk s.data.toList)
theorem chkB_def (s : ByteArray) : bs (be 2 (crc s.data.toList)) = chkB s := rfl
theorem chk_length (l : List UInt8) : (chk l).length = 2 := be_length 2 _

theorem sumB (s : ByteArray) (w : World) (hs : s.size ≤ maxLen) :
    Calls Tryz.prog 71 #[.string s] w fun e w' => e = .returned (.int .u16 ((crc s.data.toList : Nat) : Int)) ∧ w = w' := PackSum.sum_own s w hs
theorem two_bytes (c : Nat) (h : c < 65536) : [UInt8.ofNat ((c : Int) / 256).toNat, UInt8.ofNat ((c : Int) % 256).toNat] = be 2 c := by
  have e1 : ((c : Int) / 256).toNat = c / 256 := by omega
  have e2 : ((c : Int) % 256).toNat = c % 256 := by omega
  rw [e1, e2]
  show _ = [UInt8.ofNat (c / 256), UInt8.ofNat c]
  have e3 : UInt8.ofNat (c % 256) = UInt8.ofNat c := by apply UInt8.toNat_inj.1; simp
  rw [e3]

theorem four_bytes (n : Nat) : [UInt8.ofNat (n / 16777216), UInt8.ofNat (n / 65536), UInt8.ofNat (n / 256 % 256), UInt8.ofNat (n % 256)] = be 4 n := by
  show _ = [UInt8.ofNat (n / 256 / 256 / 256), UInt8.ofNat (n / 256 / 256), UInt8.ofNat (n / 256), UInt8.ofNat n]
  have f : ∀ m : Nat, UInt8.ofNat (m % 256) = UInt8.ofNat m := fun m => by apply UInt8.toNat_inj.1; simp
  rw [f, f, show n / 256 / 256 = n / 65536 by omega, show n / 65536 / 256 = n / 16777216 by omega]

end PackChk
end Go.Proofs.YthbmnkeigmbbdaaGreat

/-
  CONTRACTS: pack.Frame and the document's own.
-/
namespace Go.Proofs.YthbmnkeigmbbdaaGreat
open Go.RowKit
namespace PackFrame
open PM PackBytes PackTakeNum PackTakeRef PackRefNum PackText PackChk

def frW (s : ByteArray) : Nat := if 65536 < s.size then 2 else 0
def frS (s : ByteArray) : ByteArray := if 65536 < s.size then ⟨#[]⟩ else bs (frm s.data.toList)
def Framed (s : ByteArray) (e : Ending) : Prop := e = .returned (.tuple #[.string (frS s), .int .i64 (frW s : Nat)])
theorem framed_long (s : ByteArray) (h : 65536 < s.size) : Framed s (.returned (.tuple #[.string ⟨#[]⟩, .int .i64 2])) := by
  unfold Framed frW frS; rw [if_pos h, if_pos h]; rfl
theorem framed_ok (s : ByteArray) (h : ¬ 65536 < s.size) : Framed s (.returned (.tuple #[.string (bs (be 4 s.size) ++ chkB (bs (be 4 s.size) ++ s) ++ s), .int .i64 0])) := by
  unfold Framed frW frS chkB frm
  rw [if_neg h, if_neg h]
  simp only [bs_append_ba, bs_data, size_length]
  rfl
theorem frame_size (l : List UInt8) : (frm l).length = 6 + l.length := by
  unfold frm; rw [List.length_append, List.length_append, be_length, chk_length]

end PackFrame
end Go.Proofs.YthbmnkeigmbbdaaGreat

/-
  CONTRACTS: pack.TakeFrame and the document's own.
-/
namespace Go.Proofs.YthbmnkeigmbbdaaGreat
open Go.RowKit
namespace PackTakeFr
open PM PackBytes PackTakeNum PackTakeRef PackRefNum PackText PackChk PackFrame

/-- What a call that takes a frame leaves. -/
def TookF (l : List UInt8) (e : Ending) : Prop := e = .returned (.tuple #[.string (bs (tfP l)), .string (bs (tfR l)), .int .i64 (tfW l : Nat)])
theorem tookF_bad (l : List UInt8) (k : Nat) (h : tfW l = k) (h0 : k ≠ 0) : TookF l (.returned (.tuple #[.string ⟨#[]⟩, .string ⟨#[]⟩, .int .i64 k])) := by
  have e1 : tfP l = [] := by unfold tfP; rw [if_neg (by omega)]
  have e2 : tfR l = [] := by unfold tfR; rw [if_neg (by omega)]
  unfold TookF
  rw [e1, e2, h]
  rfl
theorem tookF_good (s : ByteArray) (h : tfW s.data.toList = 0) (n : Nat) (hn : n = sizeOf4 s.data.toList) :
    TookF s.data.toList (.returned (.tuple #[.string (s.extract 6 (6 + n)), .string (s.extract (6 + n) s.size), .int .i64 0])) := by
  subst hn
  have e1 : bs (tfP s.data.toList) = s.extract 6 (6 + sizeOf4 s.data.toList) := by
    unfold tfP; rw [if_pos h, extract_bs, Nat.add_sub_cancel_left]
  have e2 : bs (tfR s.data.toList) = s.extract (6 + sizeOf4 s.data.toList) s.size := by
    unfold tfR; rw [if_pos h, extract_end]
  unfold TookF
  rw [e1, e2, h]
  rfl
def headB (s : ByteArray) : Nat := sizeOf4 s.data.toList
theorem headB_of (s : ByteArray) : valB (s.extract 0 4) = headB s := by
  unfold valB headB sizeOf4; rw [extract_bs, bs_data]; rfl
/-- Whether the check is right. -/
def okB (s : ByteArray) : Bool := (s.extract 4 6).toList == (chkB (s.extract 0 4 ++ s.extract 6 (6 + headB s))).toList
theorem tfW_of (s : ByteArray) : tfW s.data.toList = if s.size < 4 then 3 else if 65536 < headB s then 2 else if s.size < 6 + headB s then 3 else if okB s = true then 0 else 4 := by
  have e : okB s = decide ((s.data.toList.drop 4).take 2 = chk (s.data.toList.take 4 ++ (s.data.toList.drop 6).take (headB s))) := by
    unfold okB chkB
    rw [toList_data, toList_data, extract_bs, extract_bs, extract_bs, bs_data, bs_append, Nat.add_sub_cancel_left, bs_data, bs_data, List.drop_zero]
    exact Bool.beq_eq_decide_eq _ _
  rw [e]
  unfold tfW
  rw [size_length]
  show (if s.size < 4 then 3 else if 65536 < headB s then 2 else if s.size < 6 + headB s then 3 else if ¬ ((s.data.toList.drop 4).take 2 = chk (s.data.toList.take 4 ++ (s.data.toList.drop 6).take (headB s))) then 4 else 0) = _
  by_cases hq : (s.data.toList.drop 4).take 2 = chk (s.data.toList.take 4 ++ (s.data.toList.drop 6).take (headB s))
  · have e2 : (if ¬ ((s.data.toList.drop 4).take 2 = chk (s.data.toList.take 4 ++ (s.data.toList.drop 6).take (headB s))) then 4 else 0) = 0 := if_neg (fun h => h hq)
    have e3 : (if decide ((s.data.toList.drop 4).take 2 = chk (s.data.toList.take 4 ++ (s.data.toList.drop 6).take (headB s))) = true then 0 else 4) = 0 := if_pos (decide_eq_true hq)
    rw [e2, e3]
  · have e2 : (if ¬ ((s.data.toList.drop 4).take 2 = chk (s.data.toList.take 4 ++ (s.data.toList.drop 6).take (headB s))) then 4 else 0) = 4 := if_pos hq
    have e3 : (if decide ((s.data.toList.drop 4).take 2 = chk (s.data.toList.take 4 ++ (s.data.toList.drop 6).take (headB s))) = true then 0 else 4) = 4 := if_neg (by simp [hq])
    rw [e2, e3]

end PackTakeFr
end Go.Proofs.YthbmnkeigmbbdaaGreat

/-
  PLAIN: what is taken of what was made; what is cut short.
-/
namespace Go.Proofs.YthbmnkeigmbbdaaGreat
namespace PM

theorem be_head (n k : Nat) (h : n < 256 ^ k) (h2 : 0 < k → 256 ^ (k - 1) ≤ n) (hk : 0 < k) (r : List UInt8) : (be k n ++ r).head? ≠ some 0 := by
  obtain ⟨j, rfl⟩ : ∃ j, k = j + 1 := ⟨k - 1, by omega⟩
  rw [be_cons]
  simp only [List.cons_append, List.head?_cons]
  intro e
  injection e with e
  have e2 := congrArg UInt8.toNat e
  rw [Nat.pow_succ] at h
  have h3 : n / 256 ^ j < 256 := (Nat.div_lt_iff_lt_mul (Nat.pow_pos (by omega))).2 (by rw [Nat.mul_comm]; exact h)
  have h4 : 0 < n / 256 ^ j := Nat.div_pos (by simpa using h2 hk) (Nat.pow_pos (by omega))
  have e3 : (UInt8.ofNat (n / 256 ^ j)).toNat = n / 256 ^ j := by simp; omega
  rw [e3, show (0 : UInt8).toNat = 0 from rfl] at e2
  omega

theorem tn_back (n : Nat) (hn : n < 2 ^ 64) (r : List UInt8) : tnW (num n ++ r) = 0 ∧ tnN (num n ++ r) = n ∧ tnR (num n ++ r) = r := by
  obtain ⟨h8, hlt, hge⟩ := nsz_spec n hn
  have hb := nsz_byte n hn
  have hW : tnW (num n ++ r) = 0 := by
    show tnW (UInt8.ofNat (nsz n) :: (be (nsz n) n ++ r)) = 0
    simp only [tnW]
    rw [hb, if_neg (by omega), if_neg, if_neg (by rw [List.length_append, be_length]; omega)]
    rintro ⟨h1, h2⟩
    exact be_head n (nsz n) hlt hge h1 r h2
  have hK : tnK (num n ++ r) = nsz n := hb
  refine ⟨hW, ?_, ?_⟩
  · unfold tnN
    rw [if_pos hW, hK]
    show val ((be (nsz n) n ++ r).take (nsz n)) = n
    rw [List.take_append_of_le_length (by rw [be_length]; exact Nat.le_refl _), List.take_of_length_le (by rw [be_length]; exact Nat.le_refl _), val_be, Nat.mod_eq_of_lt hlt]
  · unfold tnR
    rw [if_pos hW, hK, Nat.add_comm]
    show (be (nsz n) n ++ r).drop (nsz n) = r
    rw [List.drop_append_of_le_length (by rw [be_length]; exact Nat.le_refl _), List.drop_of_length_le (by rw [be_length]; exact Nat.le_refl _)]
    rfl

theorem tt_back_long (l r : List UInt8) (hl : l.length < 2 ^ 64) (h : 65536 < l.length) : ttW (txt l ++ r) = 2 := by
  obtain ⟨a, b, c⟩ := tn_back l.length hl (l ++ r)
  unfold ttW
  rw [show txt l ++ r = num l.length ++ (l ++ r) from by simp [txt], a, b, if_neg (by omega), if_pos h]
theorem tt_back (l r : List UInt8) (h : ¬ 65536 < l.length) : ttW (txt l ++ r) = 0 ∧ ttT (txt l ++ r) = l ∧ ttR (txt l ++ r) = r := by
  obtain ⟨a, b, c⟩ := tn_back l.length (by omega) (l ++ r)
  have e : txt l ++ r = num l.length ++ (l ++ r) := by simp [txt]
  have hW : ttW (txt l ++ r) = 0 := by
    unfold ttW
    rw [e, a, b, c, if_neg (by omega), if_neg h, if_neg (by rw [List.length_append]; omega)]
  refine ⟨hW, ?_, ?_⟩
  · unfold ttT; rw [if_pos hW, e, b, c]; simp
  · unfold ttR; rw [if_pos hW, e, b, c]; simp

theorem frm_take4 (l r : List UInt8) : (frm l ++ r).take 4 = be 4 l.length := by
  unfold frm
  rw [List.append_assoc, List.append_assoc, List.take_append_of_le_length (by rw [be_length]; omega), List.take_of_length_le (by rw [be_length]; omega)]
theorem frm_drop4 (l r : List UInt8) : (frm l ++ r).drop 4 = chk (be 4 l.length ++ l) ++ (l ++ r) := by
  unfold frm
  rw [List.append_assoc, List.append_assoc, List.drop_append_of_le_length (by rw [be_length]; omega), List.drop_of_length_le (by rw [be_length]; omega)]
  rfl
theorem chk_len (l : List UInt8) : (chk l).length = 2 := be_length 2 _
theorem frm_drop6 (l r : List UInt8) : (frm l ++ r).drop 6 = l ++ r := by
  rw [show 6 = 4 + 2 from rfl, ← List.drop_drop, frm_drop4, List.drop_append_of_le_length (by rw [chk_len]; omega), List.drop_of_length_le (by rw [chk_len]; omega)]
  rfl
theorem frm_length (l : List UInt8) : (frm l).length = 6 + l.length := by
  unfold frm; rw [List.length_append, List.length_append, be_length, chk_len]
theorem frm_size (l r : List UInt8) (h : l.length < 4294967296) : sizeOf4 (frm l ++ r) = l.length := by
  unfold sizeOf4
  rw [frm_take4, val_be]
  exact Nat.mod_eq_of_lt (by omega)
theorem tf_back (l r : List UInt8) (h : ¬ 65536 < l.length) : tfW (frm l ++ r) = 0 ∧ tfP (frm l ++ r) = l ∧ tfR (frm l ++ r) = r := by
  have hs := frm_size l r (by omega)
  have hW : tfW (frm l ++ r) = 0 := by
    unfold tfW
    rw [hs, frm_take4, frm_drop4, frm_drop6, List.length_append, frm_length, if_neg (by omega), if_neg h, if_neg (by omega), if_neg]
    intro hn
    apply hn
    rw [List.take_append_of_le_length (by rw [chk_len]; omega), List.take_of_length_le (by rw [chk_len]; omega), List.take_append_of_le_length (by omega), List.take_of_length_le (by omega)]
  refine ⟨hW, ?_, ?_⟩
  · unfold tfP; rw [if_pos hW, hs, frm_drop6]; simp
  · unfold tfR; rw [if_pos hW, hs, ← List.drop_drop, frm_drop6]; simp

/-- Cut short. -/
theorem tn_short (n : Nat) (hn : n < 2 ^ 64) (k : Nat) (hk : k < (num n).length) : tnW ((num n).take k) = 3 := by
  obtain ⟨h8, hlt, hge⟩ := nsz_spec n hn
  have hb := nsz_byte n hn
  cases k with
  | zero => rfl
  | succ k =>
    rw [num_length] at hk
    show tnW (UInt8.ofNat (nsz n) :: (be (nsz n) n).take k) = 3
    simp only [tnW]
    rw [hb, if_neg (by omega), if_neg, if_pos (by rw [List.length_take, be_length]; omega)]
    rintro ⟨h1, h2⟩
    cases k with
    | zero => simp at h2
    | succ j =>
      have h3 := be_head n (nsz n) hlt hge h1 []
      rw [List.append_nil] at h3
      apply h3
      rw [← h2]
      cases h : be (nsz n) n <;> simp
theorem tt_short (l : List UInt8) (hl : ¬ 65536 < l.length) (k : Nat) (hk : k < (txt l).length) : ttW ((txt l).take k) = 3 := by
  rcases Nat.lt_or_ge k (num l.length).length with h | h
  · have e : (txt l).take k = (num l.length).take k := by unfold txt; rw [List.take_append_of_le_length (by omega)]
    have e2 := tn_short l.length (by omega) k h
    unfold ttW
    rw [e, e2, if_pos (by omega)]
  · have e : (txt l).take k = num l.length ++ l.take (k - (num l.length).length) := by
      unfold txt; rw [List.take_append, List.take_of_length_le h]
    obtain ⟨a, b, c⟩ := tn_back l.length (by omega) (l.take (k - (num l.length).length))
    have h2 : (txt l).length = (num l.length).length + l.length := by unfold txt; rw [List.length_append]
    unfold ttW
    rw [e, a, b, c, if_neg (by omega), if_neg hl, if_pos (by rw [List.length_take]; omega)]
theorem tf_short (l : List UInt8) (hl : ¬ 65536 < l.length) (k : Nat) (hk : k < (frm l).length) : tfW ((frm l).take k) = 3 := by
  have hlen : ((frm l).take k).length = k := by rw [List.length_take]; omega
  unfold tfW
  rw [hlen]
  by_cases h4 : k < 4
  · rw [if_pos h4]
  · have hs : sizeOf4 ((frm l).take k) = l.length := by
      have e := frm_size l [] (by omega)
      rw [List.append_nil] at e
      rw [← e]
      unfold sizeOf4
      rw [List.take_take, Nat.min_eq_left (by omega)]
    rw [frm_length] at hk
    rw [hs, if_neg h4, if_neg hl, if_pos (by omega)]
end PM
end Go.Proofs.YthbmnkeigmbbdaaGreat

/-
  A TAKER OF PARTS: parts.Of, Framed, Number, Upto, Done.
-/
namespace Go.Proofs.YthbmnkeigmbbdaaGreat
open Go.RowKit
namespace Hd
open PM
/-- Block g is a taker: the bytes l are left; whether something was wrong. -/
def Tk (w : World) (g : Nat) (l : List UInt8) (b : Bool) : Prop := ∃ T, w.heap[g]? = some (.cells #[.string (bs l), .bool b] T (0, 0))
theorem Tk.cells {w : World} {g : Nat} {l : List UInt8} {b : Bool} (h : Tk w g l b) : w.cell? ⟨g, 0, none⟩ = some (.string (bs l)) ∧ w.cell? ⟨g, 1, none⟩ = some (.bool b) ∧ w.frozen? ⟨g, 0, none⟩ = false ∧ w.frozen? ⟨g, 1, none⟩ = false := by
  obtain ⟨T, h⟩ := h
  refine ⟨?_, ?_, ?_, ?_⟩ <;> simp [World.cell?, World.frozen?, h]
theorem Tk.lt {w : World} {g : Nat} {l : List UInt8} {b : Bool} (h : Tk w g l b) : g < w.heap.size := by
  rcases Nat.lt_or_ge g w.heap.size with hlt | hge
  · exact hlt
  · obtain ⟨T, h⟩ := h; rw [Array.getElem?_eq_none hge] at h; cases h
theorem Tk.set {w : World} {g : Nat} {l m : List UInt8} {b c : Bool} (h : Tk w g l b) : Tk ((w.setCell ⟨g, 0, none⟩ (.string (bs m))).setCell ⟨g, 1, none⟩ (.bool c)) g m c := by
  obtain ⟨T, h⟩ := h
  exact ⟨T, by simp [World.setCell, Array.getElem?_modify, h]⟩
theorem Tk.below {w w' : World} {B g : Nat} {l : List UInt8} {b : Bool} (h : Tk w g l b) (hb : Below B w w') (hg : g < B) : Tk w' g l b := h.imp fun _ h => (hb.block g hg).trans h
theorem Tk.made (T : TypeId) (w : World) (l : List UInt8) (b : Bool) : Tk (w.alloc (.cells #[.string (bs l), .bool b] T)) w.heap.size l b := ⟨T, heap_alloc_new w _⟩
/-- Only block g, and what is new, has turned. -/
def Only (g : Nat) (w w' : World) : Prop := w.grownBy w' (some g)
theorem Only.refl (g : Nat) (w : World) : Only g w w := ⟨rfl, rfl, rfl, Nat.le_refl _, fun _ _ _ => rfl⟩
theorem Only.of_below {g : Nat} {w w' : World} (h : Below w.heap.size w w') : Only g w w' := ⟨h.os, h.tape, h.output, h.size, fun i hi _ => h.block i hi⟩
theorem Only.set {g : Nat} {a w : World} (h : Only g a w) (o : Nat) (u : Value) : Only g a (w.setCell ⟨g, o, none⟩ u) :=
  ⟨h.os, h.tape, h.output, by simpa [World.setCell] using h.size, fun i hi hne => (Below.heap_setCell w ⟨g, o, none⟩ u i (by rintro rfl; exact hne rfl)).trans (h.block i hi hne)⟩
theorem Only.trans {g : Nat} {a b c : World} (h : Only g a b) (k : Only g b c) : Only g a c :=
  ⟨k.os.trans h.os, k.tape.trans h.tape, k.output.trans h.output, Nat.le_trans h.size k.size, fun i hi hne => (k.block i (Nat.lt_of_lt_of_le hi h.size) hne).trans (h.block i hi hne)⟩
theorem Only.below {g B : Nat} {w w' : World} (h : Only g w w') (hB : B ≤ w.heap.size) (hg : B ≤ g) : Below B w w' := (Below.refl B w).grown h hB (fun k e => by injection e with e; omega)

theorem one_result {fn : Func} {p : Tmp} {ty : TypeId} (h : fn.results = #[.cell p ty]) (tmps : Array Value) (P : Program) (w : World) :
    (results fn tmps).run P w = ((asAddr (tmps.getD p undef)).run P w).andThen fun a w₁ => (loadVar ty a).run P w₁ := by
  simp [results, h]
/-- What a frame that is all of some bytes holds; whether it is none. -/
def fmL (l : List UInt8) : List UInt8 := if tfW l = 0 then (if tfR l = [] then tfP l else []) else []
def fmB (l : List UInt8) : Bool := if tfW l = 0 then (if tfR l = [] then false else true) else true
theorem fm_bad (l : List UInt8) (h : tfW l ≠ 0) : fmL l = [] ∧ fmB l = true := by unfold fmL fmB; rw [if_neg h, if_neg h]; exact ⟨rfl, rfl⟩
theorem fm_more (l : List UInt8) (h : tfW l = 0) (h2 : tfR l ≠ []) : fmL l = [] ∧ fmB l = true := by unfold fmL fmB; rw [if_pos h, if_pos h, if_neg h2, if_neg h2]; exact ⟨rfl, rfl⟩
theorem fm_ok (l : List UInt8) (h : tfW l = 0) (h2 : tfR l = []) : fmL l = tfP l ∧ fmB l = false := by unfold fmL fmB; rw [if_pos h, if_pos h, if_pos h2, if_pos h2]; exact ⟨rfl, rfl⟩
theorem bs_nil (l : List UInt8) : (bs l).toList = [] ↔ l = [] := by
  rw [ByteArray.toList_eq, bs_data]
def FramedIs (l : List UInt8) (e : Ending) : Prop := e = .returned (.agg #[.string (bs (fmL l)), .bool (fmB l)])
theorem FramedIs.bad {l : List UInt8} (h : fmL l = [] ∧ fmB l = true) : FramedIs l (.returned (.agg #[.string ⟨#[]⟩, .bool true])) := by unfold FramedIs; rw [h.1, h.2]; rfl
theorem FramedIs.ok {l : List UInt8} (h : fmL l = tfP l ∧ fmB l = false) : FramedIs l (.returned (.agg #[.string (bs (tfP l)), .bool false])) := by unfold FramedIs; rw [h.1, h.2]
/-- What a number that may be at most so much comes to. -/
def upV (m : Nat) (l : List UInt8) : Nat := if m < tnN l then 0 else tnN l
def upR (m : Nat) (l : List UInt8) : List UInt8 := if m < tnN l then [] else tnR l
def upB (m : Nat) (l : List UInt8) : Bool := if m < tnN l then true else decide (tnW l ≠ 0)
theorem upV_le (m : Nat) (l : List UInt8) : upV m l ≤ m := by unfold upV; split <;> omega
theorem upR_length (m : Nat) (l : List UInt8) : (upR m l).length ≤ l.length := by
  unfold upR
  split
  · exact Nat.zero_le _
  · exact tnR_length l
end Hd
end Go.Proofs.YthbmnkeigmbbdaaGreat

/-
  A MAKER OF PARTS: parts.Maker's Number, Text, Bytes.
-/
namespace Go.Proofs.YthbmnkeigmbbdaaGreat
open Go.RowKit
namespace Hd
open PM
/-- Nothing has turned but block g, and rows of bytes from B on. -/
def Fr (B g : Nat) (w w' : World) : Prop := Below B w w' ∧ Lib.OthersKept 5 (some g) w w'
theorem Fr.refl (B g : Nat) (w : World) : Fr B g w w := ⟨Below.refl B w, Lib.OthersKept.refl _ _ w⟩
theorem Fr.trans {B g : Nat} {a b c : World} (h : Fr B g a b) (k : Fr B g b c) : Fr B g a c := ⟨h.1.trans k.1, h.2.trans k.2⟩
theorem kept_of_below {e : TypeId} {b : Option Nat} {w w' : World} (h : Below w.heap.size w w') : Lib.OthersKept e b w w' := by
  intro k o hk _ _
  have hlt : k < w.heap.size := (Array.getElem?_eq_some_iff.1 hk).1
  exact (h.block k hlt).trans hk
theorem Fr.of_below {B g : Nat} {w w' : World} (h : Below w.heap.size w w') (hB : B ≤ w.heap.size) : Fr B g w w' := ⟨h.mono hB, kept_of_below h⟩
theorem Fr.keep {B g b : Nat} {w w' : World} {cs : Array Value} {T : TypeId} (h : Fr B g w w') (hk : w.heap[b]? = some (.cells cs T (0, 0))) (hb : b ≠ g) (hT : T ≠ 5) : w'.heap[b]? = some (.cells cs T (0, 0)) :=
  h.2 b _ hk (by intro e; exact hb (Option.some.inj e)) (by intro c fz e; injection e with e1 e2; exact hT e2)
theorem own_keep {w w' : World} {base : Nat} {e : TypeId} {size n : Nat} {v : Value} {xs : List Value} (h : w.ownsRow base e size v n xs) (hb : Below w.heap.size w w') : w'.ownsRow base e size v n xs := by
  refine ⟨h.1, ?_⟩
  rcases h.2 with h2 | ⟨g, cap, cur, h3, h4, h5, h6⟩
  · exact .inl h2
  · exact .inr ⟨g, cap, cur, h3, h4, (hb.block g ((Array.getElem?_eq_some_iff.1 h5).1)).trans h5, h6⟩
theorem bat_keep {T e : TypeId} {B b : Nat} {p : Value} {xs : List Value} {w w' : World} (h : Lib.BuilderAt T e B b p xs w) (hb : Below w.heap.size w w') : Lib.BuilderAt T e B b p xs w' := by
  have hlt := h.lt
  obtain ⟨hB, v, hv, ho, hn⟩ := h
  exact ⟨hB, v, (hb.block b hlt).trans hv, own_keep ho hb, hn⟩
theorem cells_u8 : Tryz.prog.cellsOf 5 = 1 := by kernel_rfl
end Hd
end Go.Proofs.YthbmnkeigmbbdaaGreat

/-
  WHAT IS TOLD, as bytes: made and taken by cluster and order.
-/
namespace Go.Proofs.YthbmnkeigmbbdaaGreat
open Go.RowKit
namespace Hd
open PM
theorem box_cells {w : World} {b : Nat} {cs : Array Value} {T : TypeId} (h : w.heap[b]? = some (.cells cs T (0, 0))) : (∀ i, w.cell? ⟨b, i, none⟩ = cs[i]?) := by
  intro i
  simp [World.cell?, h]
def tlB (why : Nat) (s : ByteArray) : List UInt8 := num why ++ txt s.data.toList
/-- A box of two cells. -/
def Bx2 (w : World) (B : Nat) (a b : Value) : Prop := ∃ T, w.heap[B]? = some (.cells #[a, b] T (0, 0))
theorem Bx2.lt {w : World} {B : Nat} {a b : Value} (h : Bx2 w B a b) : B < w.heap.size := by
  obtain ⟨T, h⟩ := h
  exact (Array.getElem?_eq_some_iff.1 h).1
theorem Bx2.cells {w : World} {B : Nat} {a b : Value} (h : Bx2 w B a b) : w.cell? ⟨B, 0, none⟩ = some a ∧ w.cell? ⟨B, 1, none⟩ = some b := by
  obtain ⟨T, h⟩ := h
  refine ⟨?_, ?_⟩ <;> simp [World.cell?, h]
theorem Bx2.fz {w : World} {B : Nat} {a b : Value} (h : Bx2 w B a b) : w.frozen? ⟨B, 0, none⟩ = false ∧ w.frozen? ⟨B, 1, none⟩ = false := by
  obtain ⟨T, h⟩ := h
  refine ⟨?_, ?_⟩ <;> simp [World.frozen?, h]
theorem Bx2.set0 {w : World} {B : Nat} {a b : Value} (h : Bx2 w B a b) (u : Value) : Bx2 (w.setCell ⟨B, 0, none⟩ u) B u b := by obtain ⟨T, h⟩ := h; exact ⟨T, by simp [World.setCell, Array.getElem?_modify, h]⟩
theorem Bx2.set1 {w : World} {B : Nat} {a b : Value} (h : Bx2 w B a b) (u : Value) : Bx2 (w.setCell ⟨B, 1, none⟩ u) B a u := by obtain ⟨T, h⟩ := h; exact ⟨T, by simp [World.setCell, Array.getElem?_modify, h]⟩
theorem Bx2.below {w w' : World} {B : Nat} {a b : Value} (h : Bx2 w B a b) (hb : Below w.heap.size w w') : Bx2 w' B a b := by
  have hl := h.lt
  obtain ⟨T, h⟩ := h
  exact ⟨T, (hb.block B hl).trans h⟩
theorem Bx2.only {w w' : World} {B g : Nat} {a b : Value} (h : Bx2 w B a b) (ho : Only g w w') (hg : B ≠ g) : Bx2 w' B a b := by
  have hl := h.lt
  obtain ⟨T, h⟩ := h
  exact ⟨T, (ho.block B hl (by intro e; injection e with e; exact hg e)).trans h⟩
theorem Bx2.made (w : World) (a b : Value) (T : TypeId) : Bx2 (w.alloc (.cells #[a, b] T)) w.heap.size a b := ⟨T, heap_alloc_new w _⟩
theorem Tk.far {w : World} {g : Nat} {l : List UInt8} {b : Bool} (h : Tk w g l b) {B : Nat} (hg : g ≠ B) (o : Nat) (u : Value) : Tk (w.setCell ⟨B, o, none⟩ u) g l b := by
  obtain ⟨T, h⟩ := h
  refine ⟨T, ?_⟩
  rw [Below.heap_setCell w ⟨B, o, none⟩ u g hg]
  exact h
theorem Only.put2 {w w' : World} {g B : Nat} (h : Only g w w') (hB : w.heap.size ≤ B) (o : Nat) (u : Value) : Only g w (w'.setCell ⟨B, o, none⟩ u) := by
  refine ⟨h.os, h.tape, h.output, ?_, ?_⟩
  · have := h.size; simpa [World.setCell] using this
  · intro i hi hn
    rw [Below.heap_setCell w' ⟨B, o, none⟩ u i (by show i ≠ B; omega)]
    exact h.block i hi hn
theorem load_told (w : World) (B : Nat) (v : Int) (s : ByteArray) (h : Bx2 w B (.int .i64 v) (.string s)) :
    (loadVar 50 ⟨B, 0, none⟩).run Tryz.prog w = .ok (.agg #[.int .i64 v, .string s]) w := by
  obtain ⟨c0, c1⟩ := h.cells
  have a := Tryz.isAgg50 w
  have c := Tryz.sizeOf50 w
  go_simp
theorem bodyPost_told {fn : Func} {p : Tmp} (h : fn.results = #[.cell p 50]) {R : Ending → World → Prop} {a : Act} {w : World} (B : Nat) (v : Int) (s : ByteArray) (hd : a.defers = [])
    (hp : a.tmps.getD p undef = .pointer (some ⟨B, 0, none⟩)) (hx : Bx2 w B (.int .i64 v) (.string s))
    (hR : R (.returned (.agg #[.int .i64 v, .string s])) w) : bodyPost Tryz.prog fn R .ret a w := by
  refine bodyPost_ret ?_ hd hR
  rw [one_result h, hp]
  have := load_told w B v s hx
  simp [asAddr, this, Result.andThen]
/-- What is taken of something told. -/
def tdW (l : List UInt8) : Nat := upV 255 l
def tdR (l : List UInt8) : List UInt8 := upR 255 l
/-- Where the taking stands: what is left, the box of what was taken, the box of the result. -/
structure Ts (w0 : World) (g : Nat) (l : List UInt8) (b : Bool) (a0 a1 r0 r1 : Value) (x : World) : Prop where
  tk : Tk x g l b
  bx : Bx2 x (w0.heap.size + 1) a0 a1
  rb : Bx2 x w0.heap.size r0 r1
  on : Only g w0 x
  lt : g < w0.heap.size
theorem Ts.go {w0 : World} {g : Nat} {l l2 : List UInt8} {b b2 : Bool} {a0 a1 r0 r1 : Value} {x x' : World} (h : Ts w0 g l b a0 a1 r0 r1 x) (ht : Tk x' g l2 b2) (ho : Only g x x') : Ts w0 g l2 b2 a0 a1 r0 r1 x' :=
  ⟨ht, h.bx.only ho (by have := h.lt; omega), h.rb.only ho (by have := h.lt; omega), h.on.trans ho, h.lt⟩
theorem Bx2.apart {w : World} {B p : Nat} {a b : Value} (h : Bx2 w B a b) (hp : p ≠ B) (o : Nat) (u : Value) : Bx2 (w.setCell ⟨p, o, none⟩ u) B a b :=
  h.imp fun _ h => (Below.heap_setCell w ⟨p, o, none⟩ u B (by rintro rfl; exact hp rfl)).trans h
theorem Ts.p0 {w0 : World} {g : Nat} {l : List UInt8} {b : Bool} {a0 a1 r0 r1 : Value} {x : World} (h : Ts w0 g l b a0 a1 r0 r1 x) (u : Value) : Ts w0 g l b u a1 r0 r1 (x.setCell ⟨w0.heap.size + 1, 0, none⟩ u) :=
  ⟨h.tk.far (by have := h.lt; omega) 0 u, h.bx.set0 u, h.rb.apart (by omega) 0 u, h.on.put2 (by omega) 0 u, h.lt⟩
theorem Ts.p1 {w0 : World} {g : Nat} {l : List UInt8} {b : Bool} {a0 a1 r0 r1 : Value} {x : World} (h : Ts w0 g l b a0 a1 r0 r1 x) (u : Value) : Ts w0 g l b a0 u r0 r1 (x.setCell ⟨w0.heap.size + 1, 1, none⟩ u) :=
  ⟨h.tk.far (by have := h.lt; omega) 1 u, h.bx.set1 u, h.rb.apart (by omega) 1 u, h.on.put2 (by omega) 1 u, h.lt⟩
theorem Ts.q0 {w0 : World} {g : Nat} {l : List UInt8} {b : Bool} {a0 a1 r0 r1 : Value} {x : World} (h : Ts w0 g l b a0 a1 r0 r1 x) (u : Value) : Ts w0 g l b a0 a1 u r1 (x.setCell ⟨w0.heap.size, 0, none⟩ u) :=
  ⟨h.tk.far (by have := h.lt; omega) 0 u, h.bx.apart (by omega) 0 u, h.rb.set0 u, h.on.put2 (by omega) 0 u, h.lt⟩
theorem Ts.q1 {w0 : World} {g : Nat} {l : List UInt8} {b : Bool} {a0 a1 r0 r1 : Value} {x : World} (h : Ts w0 g l b a0 a1 r0 r1 x) (u : Value) : Ts w0 g l b a0 a1 r0 u (x.setCell ⟨w0.heap.size, 1, none⟩ u) :=
  ⟨h.tk.far (by have := h.lt; omega) 1 u, h.bx.apart (by omega) 1 u, h.rb.set1 u, h.on.put2 (by omega) 1 u, h.lt⟩
theorem Ts.made {w : World} {g : Nat} {l : List UInt8} {b : Bool} (h : Tk w g l b) : Ts w g l b (.int .i64 0) (.string ⟨#[]⟩) (.int .i64 0) (.string ⟨#[]⟩) ((w.alloc (.cells #[.int .i64 0, .string ⟨#[]⟩] 50)).alloc (.cells #[.int .i64 0, .string ⟨#[]⟩] 50)) := by
  have hl := h.lt
  have h1 : Below w.heap.size w (w.alloc (.cells #[.int .i64 0, .string ⟨#[]⟩] 50)) := (Below.refl _ _).alloc (Nat.le_refl _) _
  have h2 : Below (w.alloc (.cells #[.int .i64 0, .string ⟨#[]⟩] 50)).heap.size (w.alloc (.cells #[.int .i64 0, .string ⟨#[]⟩] 50)) ((w.alloc (.cells #[.int .i64 0, .string ⟨#[]⟩] 50)).alloc (.cells #[.int .i64 0, .string ⟨#[]⟩] 50)) := (Below.refl _ _).alloc (Nat.le_refl _) _
  have h3 := h1.trans (h2.mono h1.size)
  refine ⟨h.below h3 hl, ?_, (Bx2.made w _ _ _).below h2, Only.of_below h3, hl⟩
  have := Bx2.made (w.alloc (.cells #[.int .i64 0, .string ⟨#[]⟩] 50)) (.int .i64 0) (.string ⟨#[]⟩) 50
  rw [World.size_alloc] at this
  exact this
/-- Whether something told is right. -/
def tdOk (why : Int) (s : ByteArray) : Bool := decide (0 ≤ why) && (decide (why ≤ 255) && decide (s.size ≤ 32))
def teS (why : Int) (s : ByteArray) : List UInt8 := if tdOk why s = true then tlB why.toNat s else []
def teE (why : Int) (s : ByteArray) : Nat := if tdOk why s = true then 0 else 4
def ToldIs (why : Int) (s : ByteArray) (e : Ending) : Prop := e = .returned (.tuple #[.string (bs (teS why s)), .int .i64 (teE why s : Nat)])
theorem tlB_ne (n : Nat) (s : ByteArray) : tlB n s ≠ [] := by simp [tlB, num]
end Hd
end Go.Proofs.YthbmnkeigmbbdaaGreat
