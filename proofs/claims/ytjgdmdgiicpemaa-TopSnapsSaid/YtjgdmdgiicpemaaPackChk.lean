/-
  CONTRACTS: pack.check, the document's own check and four; the makers of frames.
-/
import Derived.Test.YtjgdmdgiicpemaaPackText
import Derived.Test.YtjgdmdgiicpemaaPackSum
namespace Go.Proofs.Ytjgdmdgiicpemaa
open Go.RowKit
namespace PackChk
open PM PackBytes PackTakeNum PackTakeRef PackRefNum PackText

def chkB (s : ByteArray) : ByteArray := bs (chk s.data.toList)
theorem chkB_def (s : ByteArray) : bs (be 2 (crc s.data.toList)) = chkB s := rfl
theorem chk_length (l : List UInt8) : (chk l).length = 2 := be_length 2 _

/-- A slice literal of bytes, as a string: its cells in a new block. -/
theorem conv_lit (W : World) (xs : List Int) (n : Nat) (hn : xs.length = n) :
    (convert 92 9 (.slice (some ⟨W.heap.size, 0, none⟩) n n)).run Try.prog (W.alloc (.cells (xs.map (Value.int .u8)).toArray 5)) =
      .ok (.string (bs (xs.map fun x => UInt8.ofNat x.toNat))) (W.alloc (.cells (xs.map (Value.int .u8)).toArray 5)) := by
  subst hn
  have hl := run_loadCells_list (P := Try.prog) (W.alloc (.cells (xs.map (Value.int .u8)).toArray 5)) ⟨W.heap.size, 0, none⟩ (xs.map (Value.int .u8)) (by
    intro j v hv
    rw [cell_alloc_new]
    simpa using hv)
  rw [List.length_map] at hl
  rw [run_convert_bytes_string _ 92 9 5 _ _ _ Try.underlying92 Try.underlying5 Try.underlying9, run_bytesToString _ ⟨W.heap.size, 0, none⟩ xs.length xs.length xs hl]
  congr 2
  have hp : ∀ (l : List Int) (r : ByteArray), l.foldl (fun r n => r.push (UInt8.ofNat n.toNat)) r = r ++ bs (l.map fun x => UInt8.ofNat x.toNat) := by
    intro l
    induction l with
    | nil => intro r; apply ByteArray.ext; simp [bs]
    | cons b l ih =>
      intro r
      rw [List.foldl_cons, ih]
      apply ByteArray.ext
      simp [bs]
  rw [hp]
  rfl
theorem conv_lit2 (W : World) (x y : Int) :
    (convert 92 9 (.slice (some ⟨W.heap.size, 0, none⟩) 2 2)).run Try.prog (W.alloc (.cells #[.int .u8 x, .int .u8 y] 5)) =
      .ok (.string (bs [UInt8.ofNat x.toNat, UInt8.ofNat y.toNat])) (W.alloc (.cells #[.int .u8 x, .int .u8 y] 5)) := conv_lit W [x, y] 2 rfl
theorem conv_lit4 (W : World) (x y z u : Int) :
    (convert 92 9 (.slice (some ⟨W.heap.size, 0, none⟩) 4 4)).run Try.prog (W.alloc (.cells #[.int .u8 x, .int .u8 y, .int .u8 z, .int .u8 u] 5)) =
      .ok (.string (bs [UInt8.ofNat x.toNat, UInt8.ofNat y.toNat, UInt8.ofNat z.toNat, UInt8.ofNat u.toNat])) (W.alloc (.cells #[.int .u8 x, .int .u8 y, .int .u8 z, .int .u8 u] 5)) := conv_lit W [x, y, z, u] 4 rfl

theorem sumB (s : ByteArray) (w : World) (hs : s.size ≤ maxLen) :
    Calls Try.prog 11 #[.string s] w fun e w' => e = .returned (.int .u16 ((crc s.data.toList : Nat) : Int)) ∧ w = w' := PackSum.sum_own s w hs
set_option maxRecDepth 100000 in
set_option maxHeartbeats 400000 in
theorem check_own (x s : ByteArray) (w : World) (hx : x.size ≤ 8) (hs : s.size ≤ 1000000) :
    Calls Try.prog 31 #[.string x, .string s] w fun e w' => e = .returned (.string (chkB (x ++ s))) ∧ Below w.heap.size w w' := by
  have hsz : (x ++ s).size ≤ maxLen := by rw [ByteArray.size_append]; unfold maxLen; omega
  have HZ := Lib.hid hsz
  have hd := Lib.hid (chkB_def (x ++ s))
  have hcl := crc_lt (x ++ s).data.toList
  clear hsz
  have hcalls := Lib.hid (fun w => sumB (x ++ s) w HZ.out)
  generalize hc : crc (x ++ s).data.toList = c at *
  clear hc
  go_enter Try.func31, Try.ntmps31
  go_wp2_with fail
  refine (hcalls.out _).mono ?_
  rintro e w' ⟨rfl, rfl⟩
  go_wp2_with fail
  refine (spread c 2 _ (by omega)).mono ?_
  rintro e w' ⟨rfl, hb⟩
  go_wp2
  go_ret
  exact ⟨by rw [← hd.out]; rfl, hb⟩

theorem two_bytes (c : Nat) (h : c < 65536) : [UInt8.ofNat ((c : Int) / 256).toNat, UInt8.ofNat ((c : Int) % 256).toNat] = be 2 c := by
  have e1 : ((c : Int) / 256).toNat = c / 256 := by omega
  have e2 : ((c : Int) % 256).toNat = c % 256 := by omega
  rw [e1, e2]
  show _ = [UInt8.ofNat (c / 256), UInt8.ofNat c]
  have e3 : UInt8.ofNat (c % 256) = UInt8.ofNat c := by apply UInt8.toNat_inj.1; simp
  rw [e3]

theorem four_bytes (n : Nat) : [UInt8.ofNat (n / 16777216), UInt8.ofNat (n / 65536), UInt8.ofNat (n / 256 % 256), UInt8.ofNat (n % 256)] = be 4 n := by
  show _ = [UInt8.ofNat (n / 256 / 256 / 256), UInt8.ofNat (n / 256 / 256), UInt8.ofNat (n / 256), UInt8.ofNat n]
  have f : ∀ m : Nat, UInt8.ofNat (m % 256) = UInt8.ofNat m := fun m => by apply UInt8.toNat_inj.1; simp
  rw [f, f, show n / 256 / 256 = n / 65536 by omega, show n / 65536 / 256 = n / 16777216 by omega]

end PackChk
end Go.Proofs.Ytjgdmdgiicpemaa
