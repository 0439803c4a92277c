/-
  WALK of the law on a frame of which one bit is turned.
-/
import Derived.Test.YtmhhaajoddkfcaaPackLaw2
import Derived.Test.YtmhhaajoddkfcaaPackTurnMath
import Derived.Lib.ConvBytes
namespace Go.Proofs.Ytmhhaajoddkfcaa
open Go.RowKit
namespace PackLaw6
open PM PackBytes PackTakeNum PackTakeRef PackRefNum PackText PackChk PackFrame PackTakeFr PackTakeFrRef PackLaw2

theorem below_bytes (w : World) (e : TypeId) (s : ByteArray) : Below w.heap.size w (Lib.bytesWorld w e s) :=
  ⟨rfl, rfl, rfl, by rw [Lib.bytesWorld_size]; omega, fun k hk => Lib.bytesWorld_at_old w e s k hk⟩
theorem bytes_frozen (w : World) (e : TypeId) (s : ByteArray) (j : Nat) (hj : j < s.size) : (Lib.bytesWorld w e s).frozen? ⟨w.heap.size, j, none⟩ = false := by
  have h := Lib.bytesWorld_at_new w e s
  have h2 : s.size ≤ (Lib.bytesCells w e s).size := by
    unfold Lib.bytesCells
    rw [Array.size_append, Array.size_map]
    exact Nat.le_add_right _ _
  simp [World.frozen?, h]
  omega

theorem conv_ints (w : World) (a : Addr) (ns : List Int) (n c : Nat) (hn : ns.length = n) (h : ∀ j x, ns[j]? = some x → w.cell? (a.add j) = some (.int .u8 x)) :
    (convert 41 9 (.slice (some a) n c)).run Try.prog w = .ok (.string (bs (ns.map fun x => UInt8.ofNat x.toNat))) w := by
  subst hn
  have hl := run_loadCells_list (P := Try.prog) w a (ns.map (Value.int .u8)) (by
    intro j v hv
    rw [List.getElem?_map] at hv
    obtain ⟨b, hb, rfl⟩ := Option.map_eq_some_iff.1 hv
    exact h j b hb)
  rw [List.length_map] at hl
  rw [run_convert_bytes_string _ 41 9 5 _ _ _ Try.underlying41 Try.underlying5 Try.underlying9, run_bytesToString w a ns.length c ns hl]
  have hp : ∀ (l : List Int) (r : ByteArray), l.foldl (fun r n => r.push (UInt8.ofNat n.toNat)) r = r ++ bs (l.map fun x => UInt8.ofNat x.toNat) := by
    intro l
    induction l with
    | nil => intro r; apply ByteArray.ext; simp [bs]
    | cons b l ih =>
      intro r
      rw [List.foldl_cons, ih]
      apply ByteArray.ext
      simp [bs]
  rw [hp]
  rfl
/-- Bytes of a string in new memory, one of them set, as a string. -/
theorem conv_set (w : World) (l : List UInt8) (k : Nat) (Y : Int) (n c : Nat) (hn : l.length = n) :
    (convert 41 9 (.slice (some ⟨w.heap.size, 0, none⟩) n c)).run Try.prog ((Lib.bytesWorld w 5 (bs l)).setCell ⟨w.heap.size, k, none⟩ (.int .u8 Y)) =
      .ok (.string (bs (l.set k (UInt8.ofNat Y.toNat)))) ((Lib.bytesWorld w 5 (bs l)).setCell ⟨w.heap.size, k, none⟩ (.int .u8 Y)) := by
  have e : ((l.map fun b => (b.toNat : Int)).set k Y).map (fun x => UInt8.ofNat x.toNat) = l.set k (UInt8.ofNat Y.toNat) := by
    rw [List.map_set, List.map_map]
    congr 1
    have : ((fun x : Int => UInt8.ofNat x.toNat) ∘ fun b : UInt8 => (b.toNat : Int)) = id := by funext b; simp
    rw [this, List.map_id]
  have h := conv_ints ((Lib.bytesWorld w 5 (bs l)).setCell ⟨w.heap.size, k, none⟩ (.int .u8 Y)) ⟨w.heap.size, 0, none⟩ ((l.map fun b => (b.toNat : Int)).set k Y) n c (by rw [List.length_set, List.length_map]; exact hn) (by
    intro j x hx
    have hj : j < l.length := by
      have := (List.getElem?_eq_some_iff.1 hx).1
      rwa [List.length_set, List.length_map] at this
    have ha : ((⟨w.heap.size, 0, none⟩ : Addr).add j) = ⟨w.heap.size, j, none⟩ := by
      unfold Addr.add; split
      · rename_i e; subst e; rfl
      · simp
    have hc := Lib.bytesWorld_cell w 5 (bs l) j (by rw [bs_size]; exact hj)
    rw [bs_data] at hc
    rw [ha]
    rw [List.getElem?_set] at hx
    by_cases ek : k = j
    · subst ek
      rw [if_pos rfl, if_pos (by rw [List.length_map]; exact hj)] at hx
      injection hx with hx
      subst hx
      exact World.cell?_setCell_same _ _ _ hc
    · rw [if_neg ek, List.getElem?_map, List.getElem?_eq_getElem hj] at hx
      injection hx with hx
      rw [World.cell?_setCell_other _ _ _ _ (by intro h; injection h with _ h; exact ek h), hc, ← hx]
      simp [List.getD, hj])
  rw [e] at h
  exact h

theorem tfP_length (l : List UInt8) : (tfP l).length ≤ l.length := by
  unfold tfP; split
  · rw [List.length_take, List.length_drop]; omega
  · simp
theorem tfR_length (l : List UInt8) : (tfR l).length ≤ l.length := by
  unfold tfR; split
  · rw [List.length_drop]; omega
  · simp
theorem flip_ne (b : UInt8) (z : Int) : UInt8.ofNat (bits BinOp.xor IntKind.u8 (b.toNat : Int) (2 ^ (z % 8).toNat % 256)).toNat ≠ b := by
  have hb := b.toNat_lt
  obtain ⟨m, hm, e⟩ : ∃ m : Nat, m < 8 ∧ (z % 8).toNat = m := ⟨(z % 8).toNat, by omega, rfl⟩
  rw [e]
  have hp : (2 : Nat) ^ m < 256 := Nat.lt_of_lt_of_le (Nat.pow_lt_pow_right (by omega) hm) (by decide)
  have e2 : ((2 : Int) ^ m % 256) = ((2 ^ m : Nat) : Int) := by
    rw [Int.natCast_pow]
    have : (((2 ^ m : Nat) : Int)) < 256 := by omega
    rw [Int.natCast_pow] at this
    exact Int.emod_eq_of_lt (Int.pow_nonneg (by decide)) this
  rw [e2, u8_xor_nat _ _ (by omega) hp, Int.toNat_natCast]
  intro h
  have h2 := congrArg UInt8.toNat h
  have hx : b.toNat ^^^ 2 ^ m < 256 := Nat.xor_lt_two_pow (n := 8) (by omega) hp
  have h3 : (UInt8.ofNat (b.toNat ^^^ 2 ^ m)).toNat = b.toNat ^^^ 2 ^ m := by rw [UInt8.toNat_ofNat']; exact Nat.mod_eq_of_lt hx
  rw [h3] at h2
  have h4 : b.toNat ^^^ 2 ^ m = b.toNat ^^^ 0 := by rw [h2, Nat.xor_zero]
  have h5 := xor_cancel_left _ _ _ h4
  have h6 : 0 < 2 ^ m := Nat.pow_pos (by omega)
  omega
theorem flip_at (l : List UInt8) (k : Nat) (z : Int) (hk : k < l.length) :
    ∃ y, y ≠ l[k] ∧ ∀ h : k < (bs l).data.size, UInt8.ofNat (bits BinOp.xor IntKind.u8 (((bs l).data[k]'h).toNat : Int) (2 ^ (z % 8).toNat % 256)).toNat = y :=
  ⟨_, flip_ne l[k] z, fun h => rfl⟩

set_option maxRecDepth 100000 in
set_option maxHeartbeats 1000000 in
theorem packTurned (t : ByteArray) (x z : Int) (ht : t.size ≤ maxLen) (hx : (Lit.int .i64 x).wf = true) (hz : (Lit.int .u8 z).wf = true) (w : World) :
    Calls Try.prog 10 #[.string t, .int .i64 x, .int .u8 z] w fun e w' => e = .returned (.bool true) ∧ Below w.heap.size w w' := by
  have hx2 : -9223372036854775808 ≤ x ∧ x ≤ 9223372036854775807 := by simpa [Lit.wf, IntKind.min, IntKind.max, IntKind.signed, IntKind.bits] using hx
  have hz2 : 0 ≤ z ∧ z ≤ 255 := by simpa [Lit.wf, IntKind.min, IntKind.max, IntKind.signed, IntKind.bits] using hz
  have HT := Lib.hid ht
  clear hx hz ht
  have hf := fun w => frame_own t w HT.out
  unfold Framed at hf
  by_cases h : 65536 < t.size
  · have e1 : frS t = bs [] := by unfold frS; rw [if_pos h]; rfl
    have e2 : frW t = 2 := by unfold frW; rw [if_pos h]
    rw [e1, e2] at hf
    have HF := Lib.hid hf
    clear hf e1 e2
    go_enter Try.func10, Try.ntmps10
    go_wp2_with fail
    refine (frames_true _).mono ?_
    rintro e w1 ⟨rfl, hb1⟩
    go_wp2_with fail
    refine (HF.out _).mono ?_
    rintro e w2 ⟨rfl, hb2⟩
    go_wp2
    go_ret
    exact ⟨rfl, hb1.trans (hb2.mono hb1.size)⟩
  · have e1 : frS t = bs (frm t.data.toList) := by unfold frS; rw [if_neg h]
    have e2 : frW t = 0 := by unfold frW; rw [if_neg h]
    rw [e1, e2] at hf
    have HF := Lib.hid hf
    have hfs := bs_size (frm t.data.toList)
    have hfl := frm_length t.data.toList
    have hsl := size_length t
    have hts : t.size ≤ 65536 := by omega
    have H := Lib.hid h
    clear hf e1 e2 h
    by_cases hin : 0 ≤ x ∧ x < 6 + (t.size : Int)
    · obtain ⟨k, rfl⟩ := Int.eq_ofNat_of_zero_le hin.1
      have hk : k < 6 + t.size := by omega
      have t1 : decide ((k : Int) < 0) = false := by simp
      have t2 : (k : Int) < 6 + (t.size : Int) := by omega
      have hcv := fun w => Lib.run_convert_string_bytes (P := Try.prog) w 9 41 5 (bs (frm t.data.toList)) Try.underlying9 Try.underlying41 Try.underlying5
      go_enter Try.func10, Try.ntmps10
      go_wp2_with fail
      refine (frames_true _).mono ?_
      rintro e w1 ⟨rfl, hb1⟩
      go_wp2_with fail
      refine (HF.out _).mono ?_
      rintro e w2 ⟨rfl, hb2⟩
      have HB := Lib.hid (hb1.trans (hb2.mono hb1.size))
      clear hb1 hb2
      have hcell := Lib.bytesWorld_cell w2 5 (bs (frm t.data.toList)) k (by rw [bs_size, hfl, hsl]; exact hk)
      have hfz := bytes_frozen w2 5 (bs (frm t.data.toList)) k (by rw [bs_size, hfl, hsl]; exact hk)
      have hset := fun Y c => conv_set w2 (frm t.data.toList) k Y (6 + t.size) c (by rw [hfl, hsl])
      have hkl : k < (frm t.data.toList).length := by rw [hfl, hsl]; exact hk
      obtain ⟨y, hy, hyy⟩ := flip_at (frm t.data.toList) k z hkl
      have HY := Lib.hid hyy
      have HM : Hid ((bs ((frm t.data.toList).set k y)).size ≤ maxLen) := by
        show _ ≤ _
        rw [bs_size, List.length_set, hfl]; unfold maxLen; omega
      have HD : Hid (tfW ((frm t.data.toList).set k y) = 0 → (tfP ((frm t.data.toList).set k y)).length ≠ t.size) := turned t.data.toList k y H.out hkl hy
      have htk := fun w => takeFrame_own _ w HM.out
      unfold TookF at htk
      rw [bs_data] at htk
      have HTK := Lib.hid htk
      clear hyy hy htk
      have hPl := tfP_length ((frm t.data.toList).set k y)
      have hRl := tfR_length ((frm t.data.toList).set k y)
      rw [List.length_set, hfl, hsl] at hPl hRl
      generalize tfP ((frm t.data.toList).set k y) = P at *
      generalize tfR ((frm t.data.toList).set k y) = R at *
      generalize tfW ((frm t.data.toList).set k y) = W at *
      have hPs := bs_size P
      have hRs := bs_size R
      go_wp2_with fail
      rw [HY.out]
      have hbw := fun v => (below_bytes w2 5 (bs (frm t.data.toList))).setCell (p := ⟨w2.heap.size, k, none⟩) (Nat.le_refl _) v
      have HW := Lib.hid hbw
      clear hbw hset hcv hcell hfz
      refine (HTK.out _).mono ?_
      rintro e w3 ⟨rfl, hb3⟩
      have HB3 := Lib.hid (HB.out.trans (((HW.out _).mono HB.out.size).trans (hb3.mono (Nat.le_trans HB.out.size (HW.out _).size))))
      clear hb3
      by_cases h0 : W = 0
      · have hn := HD.out h0
        subst h0
        have t5 : ((P.length : Int) != (t.size : Int)) = true := by rw [bne_iff_ne]; omega
        by_cases h5 : P.length + R.length = t.size
        · have t6 : ((P.length : Int) + (R.length : Int) != (t.size : Int)) = false := by rw [bne_eq_false_iff_eq]; omega
          have H5 := Lib.hid h5
          clear h5 hn
          go_wp2
          go_ret
          exact ⟨rfl, HB3.out⟩
        · have t6 : ((P.length : Int) + (R.length : Int) != (t.size : Int)) = true := by rw [bne_iff_ne]; omega
          clear h5 hn
          go_wp2
          go_ret
          exact ⟨rfl, HB3.out⟩
      · have t5 : ((W : Int) != 0) = true := by rw [bne_iff_ne]; omega
        clear h0
        go_wp2
        go_ret
        exact ⟨rfl, HB3.out⟩
    · have hin2 : x < 0 ∨ (0 ≤ x ∧ 6 + (t.size : Int) ≤ x) := by omega
      rcases hin2 with hx3 | ⟨hx3, hx4⟩
      all_goals (
        go_enter Try.func10, Try.ntmps10
        go_wp2_with fail
        refine (frames_true _).mono ?_
        rintro e w1 ⟨rfl, hb1⟩
        go_wp2_with fail
        refine (HF.out _).mono ?_
        rintro e w2 ⟨rfl, hb2⟩
        go_wp2
        go_ret
        exact ⟨rfl, hb1.trans (hb2.mono hb1.size)⟩)
end PackLaw6
end Go.Proofs.Ytmhhaajoddkfcaa
