/-
  CONTRACTS: math/bits.Len64, pack.spread, pack.gather.
-/
import Derived.Test.YtaipbaegbpebkaaGreatRows
import Derived.Test.YtaipbaegbpebkaaGreatPackNum
import Derived.Test.YtaipbaegbpebkaaGreatPackMath
import Derived.WalkKit
import Derived.WalkLawsBesides
import Derived.WalkSpells
import Derived.Lib.Hide
import Derived.Deep.LoopGhost
import Derived.Deep.OwnRows
import Derived.Deep.RegionWith
namespace Go.Proofs.YtaipbaegbpebkaaGreat
open Go.RowKit
namespace PackBytes
open PM

theorem tab_size : Lib.len8tab.size = 256 := by decide +kernel
theorem tab_get (y : Nat) (h : y < Lib.len8tab.size) : ((Lib.len8tab[y]'h).toNat : Int) = (Lib.bitLen y : Nat) := by
  have h2 : y < 256 := by rw [← tab_size]; exact h
  have e := Lib.len8_eq ⟨y, h2⟩
  simp only [Lib.len8, Int.toNat_natCast] at e
  rw [← e, ByteArray.getElem?_lt' _ _ h]; rfl
theorem bitLen_cut (x k : Nat) (hx : x < 18446744073709551616) (hk : k = 0 ∨ 2 ^ k ≤ x) : Lib.bitLen x = k + Lib.bitLen (x / 2 ^ k) := by
  rcases hk with rfl | hk
  · simp
  · exact Lib.bitLen_shift k x hk hx
theorem bitLen_small (y : Nat) (h : y < 256) : Lib.bitLen y ≤ 8 := Lib.bitLen_le8 ⟨y, h⟩
/-- What the four ways of Len64 come to. -/
theorem len_way (x : Int) (k y : Nat) (h0 : 0 ≤ x) (h1 : x ≤ 18446744073709551615) (hy : y < Lib.len8tab.size) (e : x.toNat / 2 ^ k = y) (hk : k = 0 ∨ 2 ^ k ≤ x.toNat) (hk8 : k ≤ 64) :
    wrap64 ((k : Int) + wrap64 (Lib.len8tab[y]'hy).toNat) = (Lib.bitLen x.toNat : Nat) := by
  have h2 : y < 256 := by rw [← tab_size]; exact hy
  have h3 := bitLen_small y h2
  rw [tab_get, bitLen_cut x.toNat k (by omega) hk, e]
  unfold wrap64
  omega

def gat (l : List UInt8) (k : Nat) : Nat := val (l.take k)
theorem or_low (a b : Nat) (ha : a < 72057594037927936) (hb : b < 256) : bits .or .u64 ((a : Int) * 256) (b : Int) = ((a * 256 + b : Nat) : Int) := by
  have e : ((a : Int) * 256) = ((a * 256 : Nat) : Int) := by omega
  rw [e, u64_or_nat _ _ (by omega) (by omega), nat_join 8 (a * 256) b (by omega) (by omega)]

/-- What a shift to byte i comes to. -/
theorem shr_byte (n k i : Nat) :
    ((n : Int) / 2 ^ (8 * (k - 1 - i))) % 256 = ((UInt8.ofNat (n / 256 ^ (k - 1 - i))).toNat : Int) := by
  have e2 : (UInt8.ofNat (n / 256 ^ (k - 1 - i))).toNat = n / 256 ^ (k - 1 - i) % 256 := by simp
  rw [e2, ← pow8]
  generalize 8 * (k - 1 - i) = m
  rw [Int.natCast_emod, Int.natCast_ediv, Int.natCast_pow]
  rfl
theorem push_all (l : List UInt8) : ∀ r : ByteArray, (l.map (fun b => (b.toNat : Int))).foldl (fun r n => r.push (UInt8.ofNat n.toNat)) r = r ++ bs l := by
  induction l with
  | nil =>
    intro r
    apply ByteArray.ext
    simp [bs]
  | cons b l ih =>
    intro r
    rw [List.map_cons, List.foldl_cons, ih]
    apply ByteArray.ext
    simp [bs]
theorem conv_bytes {P : Program} (src dst e : TypeId) (hs : P.underlying src = some (.slice e)) (he : P.underlying e = some (.int .u8)) (hd : P.underlying dst = some .string)
    (w : World) (a : Addr) (l : List UInt8) (n c : Nat) (hn : l.length = n) (h : ∀ j b, l[j]? = some b → w.cell? (a.add j) = some (.int .u8 (b.toNat : Nat))) :
    (convert src dst (.slice (some a) n c)).run P w = .ok (.string (bs l)) w := by
  subst hn
  have hl := run_loadCells_list (P := P) w a (l.map (fun b => Value.int .u8 (b.toNat : Nat))) (by
    intro j v hv
    rw [List.getElem?_map] at hv
    obtain ⟨b, hb, rfl⟩ := Option.map_eq_some_iff.1 hv
    exact h j b hb)
  rw [List.length_map] at hl
  rw [run_convert_bytes_string w src dst e _ _ _ hs he hd, run_bytesToString w a l.length c (l.map (fun b => (b.toNat : Int))) (by
    rw [hl, List.map_map]; rfl)]
  rw [push_all]
  congr 2
theorem cell_alloc_new (w : World) (C : Array Value) (t : TypeId) (j : Nat) : (w.alloc (.cells C t)).cell? ((⟨w.heap.size, 0, none⟩ : Addr).add j) = C[j]? := by
  have h := cell_of_row (w.alloc (.cells C t)) w.heap.size j C t (0, 0) (heap_alloc_new w _)
  rw [← h]
  unfold Addr.add
  split
  · rename_i e; subst e; rfl
  · simp

theorem info_u8 : (Tryz.prog.info? 5).map (fun i => (i.zero, i.size, i.bytes)) = some (some (.int .u8 0), 1, 1) := by kernel_rfl

end PackBytes
end Go.Proofs.YtaipbaegbpebkaaGreat
