/-
  CONTRACTS: math/bits.Len64, pack.spread, pack.gather.
-/
import Derived.Test.YtjgdmdgiicpemaaRows
import Derived.Test.YtjgdmdgiicpemaaPackNum
import Derived.Test.YtjgdmdgiicpemaaPackMath
import Derived.WalkKit
import Derived.WalkLawsBesides
import Derived.WalkSpells
import Derived.Lib.Hide
import Derived.Deep.LoopGhost
import Derived.Deep.OwnRows
import Derived.Deep.RegionWith
namespace Go.Proofs.Ytjgdmdgiicpemaa
open Go.RowKit
namespace PackBytes
open PM

theorem tab_size : Lib.len8tab.size = 256 := by decide +kernel
theorem tab_get (y : Nat) (h : y < Lib.len8tab.size) : ((Lib.len8tab[y]'h).toNat : Int) = (Lib.bitLen y : Nat) := by
  have h2 : y < 256 := by rw [← tab_size]; exact h
  have e := Lib.len8_eq ⟨y, h2⟩
  simp only [Lib.len8, Int.toNat_natCast] at e
  rw [← e, ByteArray.getElem?_lt' _ _ h]; rfl
theorem bitLen_cut (x k : Nat) (hx : x < 18446744073709551616) (hk : k = 0 ∨ 2 ^ k ≤ x) : Lib.bitLen x = k + Lib.bitLen (x / 2 ^ k) := by
  rcases hk with rfl | hk
  · simp
  · exact Lib.bitLen_shift k x hk hx
theorem bitLen_small (y : Nat) (h : y < 256) : Lib.bitLen y ≤ 8 := Lib.bitLen_le8 ⟨y, h⟩
/-- What the four ways of Len64 come to. -/
theorem len_way (x : Int) (k y : Nat) (h0 : 0 ≤ x) (h1 : x ≤ 18446744073709551615) (hy : y < Lib.len8tab.size) (e : x.toNat / 2 ^ k = y) (hk : k = 0 ∨ 2 ^ k ≤ x.toNat) (hk8 : k ≤ 64) :
    wrap64 ((k : Int) + wrap64 (Lib.len8tab[y]'hy).toNat) = (Lib.bitLen x.toNat : Nat) := by
  have h2 : y < 256 := by rw [← tab_size]; exact hy
  have h3 := bitLen_small y h2
  rw [tab_get, bitLen_cut x.toNat k (by omega) hk, e]
  unfold wrap64
  omega

set_option maxRecDepth 100000 in
set_option maxHeartbeats 4000000 in
theorem len64 (x : Int) (w : World) (h0 : 0 ≤ x) (h1 : x ≤ 18446744073709551615) :
    Calls Try.prog 51 #[.int .u64 x] w fun e w' => e = .returned (.int .i64 (Lib.bitLen x.toNat : Nat)) ∧ w = w' := by
  go_enter Try.func51, Try.ntmps51
  have hz : Lib.len8tab.size = 256 := tab_size
  go_wp2
  all_goals go_ret
  all_goals refine ⟨congrArg Ending.returned (congrArg (Value.int IntKind.i64) ?_), rfl⟩
  · exact len_way x 56 _ h0 h1 _ (by omega) (by omega) (by omega)
  · exact len_way x 48 _ h0 h1 _ (by omega) (by omega) (by omega)
  · exact len_way x 40 _ h0 h1 _ (by omega) (by omega) (by omega)
  · exact len_way x 32 _ h0 h1 _ (by omega) (by omega) (by omega)
  · exact len_way x 24 _ h0 h1 _ (by omega) (by omega) (by omega)
  · exact len_way x 16 _ h0 h1 _ (by omega) (by omega) (by omega)
  · exact len_way x 8 _ h0 h1 _ (by omega) (by omega) (by omega)
  · have e := len_way x 0 x.toNat h0 h1 (by omega) (by omega) (by omega) (by omega)
    rw [← e]; simp


def gat (l : List UInt8) (k : Nat) : Nat := val (l.take k)
theorem or_low (a b : Nat) (ha : a < 72057594037927936) (hb : b < 256) : bits .or .u64 ((a : Int) * 256) (b : Int) = ((a * 256 + b : Nat) : Int) := by
  have e : ((a : Int) * 256) = ((a * 256 : Nat) : Int) := by omega
  rw [e, u64_or_nat _ _ (by omega) (by omega), nat_join 8 (a * 256) b (by omega) (by omega)]

set_option maxRecDepth 100000 in
set_option maxHeartbeats 400000 in
theorem gather (s : ByteArray) (w : World) (hs : s.size ≤ 8) :
    Calls Try.prog 56 #[.string s] w fun e w' => e = .returned (.int .u64 (val s.data.toList : Nat)) ∧ w = w' := by
  go_enter Try.func56, Try.ntmps56
  go_wp2
  go_loopg [3, 7] s.size (fun g c i wx => wx = w ∧ ∃ (k d : Nat), k + g = s.size ∧ i = .int .i64 k ∧ c = .int .u64 (d : Nat) ∧ d < 256 ^ k ∧ Aside (d = val (s.data.toList.take k)))
  case atStart => exact ⟨rfl, 0, 0, by omega, rfl, rfl, by omega, rfl⟩
  case round =>
    obtain ⟨rfl, k, d, hkg, rfl, rfl, hd, HA⟩ := hrel
    cases gk with
    | zero =>
      have hlk : s.size ≤ k := by omega
      have hlk2 : k ≤ s.size := by omega
      clear hkg hd
      go_wp2
      go_ret
      have e := HA.out
      rw [take_all s k hlk] at e
      subst e
      exact ⟨rfl, rfl⟩
    | succ g =>
      have hlk : k < s.size := by omega
      have HG := Lib.hid hkg
      clear hkg
      have hb := s[k].toNat_lt
      have hd7 : d < 72057594037927936 := by
        have : 256 ^ k ≤ 256 ^ 7 := Nat.pow_le_pow_right (by omega) (by omega)
        omega
      have HD := Lib.hid hd
      clear hd
      have HI := Lib.hid (or_low d s[k].toNat hd7 hb)
      go_wp2
      go_roundg g
      case measure => omega
      case rel =>
        refine ⟨rfl, k + 1, d * 256 + s[k].toNat, by have := HG.out; omega, by go_num, by rw [HI.out], ?_, ?_⟩
        · have := HD.out
          rw [Nat.pow_succ]; omega
        · show _ = _
          rw [take_snoc s k hlk, val_snoc, ← HA.out]

/-- What a shift to byte i comes to. -/
theorem shr_byte (n k i : Nat) :
    ((n : Int) / 2 ^ (8 * (k - 1 - i))) % 256 = ((UInt8.ofNat (n / 256 ^ (k - 1 - i))).toNat : Int) := by
  have e2 : (UInt8.ofNat (n / 256 ^ (k - 1 - i))).toNat = n / 256 ^ (k - 1 - i) % 256 := by simp
  rw [e2, ← pow8]
  generalize 8 * (k - 1 - i) = m
  rw [Int.natCast_emod, Int.natCast_ediv, Int.natCast_pow]
  rfl
theorem push_all (l : List UInt8) : ∀ r : ByteArray, (l.map (fun b => (b.toNat : Int))).foldl (fun r n => r.push (UInt8.ofNat n.toNat)) r = r ++ bs l := by
  induction l with
  | nil =>
    intro r
    apply ByteArray.ext
    simp [bs]
  | cons b l ih =>
    intro r
    rw [List.map_cons, List.foldl_cons, ih]
    apply ByteArray.ext
    simp [bs]
theorem conv_bytes {P : Program} (src dst e : TypeId) (hs : P.underlying src = some (.slice e)) (he : P.underlying e = some (.int .u8)) (hd : P.underlying dst = some .string)
    (w : World) (a : Addr) (l : List UInt8) (n c : Nat) (hn : l.length = n) (h : ∀ j b, l[j]? = some b → w.cell? (a.add j) = some (.int .u8 (b.toNat : Nat))) :
    (convert src dst (.slice (some a) n c)).run P w = .ok (.string (bs l)) w := by
  subst hn
  have hl := run_loadCells_list (P := P) w a (l.map (fun b => Value.int .u8 (b.toNat : Nat))) (by
    intro j v hv
    rw [List.getElem?_map] at hv
    obtain ⟨b, hb, rfl⟩ := Option.map_eq_some_iff.1 hv
    exact h j b hb)
  rw [List.length_map] at hl
  rw [run_convert_bytes_string w src dst e _ _ _ hs he hd, run_bytesToString w a l.length c (l.map (fun b => (b.toNat : Int))) (by
    rw [hl, List.map_map]; rfl)]
  rw [push_all]
  congr 2
theorem cell_alloc_new (w : World) (C : Array Value) (t : TypeId) (j : Nat) : (w.alloc (.cells C t)).cell? ((⟨w.heap.size, 0, none⟩ : Addr).add j) = C[j]? := by
  have h := cell_of_row (w.alloc (.cells C t)) w.heap.size j C t (0, 0) (heap_alloc_new w _)
  rw [← h]
  unfold Addr.add
  split
  · rename_i e; subst e; rfl
  · simp

theorem info_u8 : (Try.prog.info? 5).map (fun i => (i.zero, i.size, i.bytes)) = some (some (.int .u8 0), 1, 1) := by kernel_rfl

set_option maxRecDepth 100000 in
set_option maxHeartbeats 400000 in
theorem spread (n k : Nat) (w : World) (hk : k ≤ 8) :
    Calls Try.prog 30 #[.int .u64 n, .int .i64 k] w fun e w' => e = .returned (.string (bs (be k n))) ∧ Below w.heap.size w w' := by
  have hmk := fun W => run_make_row' (P := Try.prog) 92 5 (.int .u8 0) 1 Try.underlying92 info_u8 rfl .i64 .i64 k (by omega) (by omega) W
  go_enter Try.func30, Try.ntmps30
  go_wp2
  go_loopg [11] k (fun g i wx => ∃ (j : Nat) (C : Array Value), j + g = k ∧ i = .int .i64 j ∧ wx = w.alloc (.cells C 5) ∧ C.size = k ∧ Aside (∀ x, x < j → C[x]? = some (.int .u8 (UInt8.ofNat (n / 256 ^ (k - 1 - x))).toNat)))
  case atStart => exact ⟨0, _, by omega, rfl, rfl, size_madeCells _ _, fun x hx => by omega⟩
  case round =>
    obtain ⟨j, C, hjg, rfl, rfl, hC, HC⟩ := hrel
    cases gk with
    | zero =>
      have hlk : ¬ ((j : Int) < (k : Int)) := by omega
      obtain rfl : j = k := by omega
      clear hjg
      have hcv := conv_bytes (P := Try.prog) 92 9 5 Try.underlying92 Try.underlying5 Try.underlying9 (w.alloc (.cells C 5)) ⟨w.heap.size, 0, none⟩ (be j n) j j (be_length j n) (by
        intro x b hb
        have hx : x < j := by
          have := (List.getElem?_eq_some_iff.1 hb).1
          rwa [be_length] at this
        rw [be_get j n x hx] at hb
        rw [cell_alloc_new, HC.out x hx]
        injection hb with hb
        rw [hb])
      go_wp2
      go_ret
      exact ⟨rfl, (Below.refl _ _).alloc (Nat.le_refl _) _⟩
    | succ g =>
      have hlk : j < k := by omega
      have HG := Lib.hid hjg
      clear hjg
      go_wp2
      go_roundg g
      case measure => omega
      case rel =>
        refine ⟨j + 1, _, by have := HG.out; omega, by go_num, rfl, by simpa using hC, ?_⟩
        show ∀ x, x < j + 1 → _
        intro x hx
        rw [shr_byte]
        by_cases e : x = j
        · subst e; rw [Array.getElem?_setIfInBounds_self_of_lt (by omega)]
        · rw [Array.getElem?_setIfInBounds_ne (by omega)]; exact HC.out x (by omega)

theorem conv_one (W : World) (b : Nat) (h : ∃ x : Int, W.cell? ⟨b, 0, none⟩ = some (.int .u8 x)) :
    (convert 92 9 (.slice (some ⟨b, 0, none⟩) 1 1)).run Try.prog W = .ok (.string (bs [UInt8.ofNat (intOf ((W.cell? ⟨b, 0, none⟩).getD undef)).toNat])) W := by
  obtain ⟨x, hx⟩ := h
  have hl := run_loadCells_list (P := Try.prog) W ⟨b, 0, none⟩ [Value.int .u8 x] (by
    intro j v hv
    match j, hv with
    | 0, hv => simp at hv; subst hv; simpa [Addr.add] using hx)
  rw [run_convert_bytes_string W 92 9 5 _ _ _ Try.underlying92 Try.underlying5 Try.underlying9, run_bytesToString W ⟨b, 0, none⟩ 1 1 [x] hl]
  rw [hx]
  congr 2

set_option maxRecDepth 100000 in
set_option maxHeartbeats 400000 in
theorem number_own (n : Nat) (w : World) (hn : n < 2 ^ 64) :
    Calls Try.prog 27 #[.int .u64 n] w fun e w' => e = .returned (.string (bs (num n))) ∧ Below w.heap.size w w' := by
  have HL := Lib.hid (nsz_spec n hn)
  have hc := conv_one
  go_enter Try.func27, Try.ntmps27
  go_wp2_with fail
  refine (len64 n _ (by omega) (by omega)).mono ?_
  rintro e w' ⟨rfl, rfl⟩
  rw [Int.toNat_natCast]
  have hb : Lib.bitLen n ≤ 64 := (PM.bitLen_spec 64 n hn (by omega)).2.2.1
  go_wp2_with fail
  rw [show (((Lib.bitLen n : Nat) : Int) + 7) / 8 = ((nsz n : Nat) : Int) from by unfold nsz; omega]
  have hz : nsz n ≤ 8 := HL.out.1
  have HE := Lib.hid (show num n = UInt8.ofNat (nsz n) :: be (nsz n) n from rfl)
  generalize hk : nsz n = k at *
  clear hk HL hb
  have hbs := bs_size
  have hbl := be_length
  go_region_with ((go_at_call 30; refine (spread n k _ hz).mono ?_; rintro e w' ⟨rfl, hbw⟩; have hcell := hbw.cell (p := ⟨w.heap.size, 0, none⟩)))
  all_goals go_wp2
  all_goals go_ret
  all_goals refine ⟨?_, ?_⟩
  all_goals first
    | exact (((Below.refl _ _).alloc (Nat.le_refl _) _).drew).trans (hbw.mono (by simp))
    | exact ((Below.refl _ _).drew.trans (hbw.mono (Nat.le_refl _))).alloc hbw.size _
    | (rw [HE.out]; exact congrArg (fun x => Ending.returned (.string x)) (bs_append [UInt8.ofNat k] (be k n)))
end PackBytes
end Go.Proofs.Ytjgdmdgiicpemaa
