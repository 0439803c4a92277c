/-
  THE LAW MsgTurned.
-/
import Derived.Test.YtlkdjnnlbccjdaaMsgLaw1
import Derived.Test.YtlkdjnnlbccjdaaPackTurnMath
import Derived.Lib.ConvBytes
namespace Go.Proofs.Ytlkdjnnlbccjdaa
open Go.RowKit
namespace MsgFlip
open PM PackBytes PackTakeNum PackTakeRef PackRefNum PackText PackChk PackFrame PackTakeFr
theorem below_bytes (w : World) (e : TypeId) (s : ByteArray) : Below w.heap.size w (Lib.bytesWorld w e s) :=
  ⟨rfl, rfl, rfl, by rw [Lib.bytesWorld_size]; omega, fun k hk => Lib.bytesWorld_at_old w e s k hk⟩
theorem bytes_frozen (w : World) (e : TypeId) (s : ByteArray) (j : Nat) (hj : j < s.size) : (Lib.bytesWorld w e s).frozen? ⟨w.heap.size, j, none⟩ = false := by
  have h := Lib.bytesWorld_at_new w e s
  have h2 : s.size ≤ (Lib.bytesCells w e s).size := by
    unfold Lib.bytesCells
    rw [Array.size_append, Array.size_map]
    exact Nat.le_add_right _ _
  simp [World.frozen?, h]
  omega

theorem conv_ints (w : World) (a : Addr) (ns : List Int) (n c : Nat) (hn : ns.length = n) (h : ∀ j x, ns[j]? = some x → w.cell? (a.add j) = some (.int .u8 x)) :
    (convert 39 9 (.slice (some a) n c)).run Try.prog w = .ok (.string (bs (ns.map fun x => UInt8.ofNat x.toNat))) w := by
  subst hn
  have hl := run_loadCells_list (P := Try.prog) w a (ns.map (Value.int .u8)) (by
    intro j v hv
    rw [List.getElem?_map] at hv
    obtain ⟨b, hb, rfl⟩ := Option.map_eq_some_iff.1 hv
    exact h j b hb)
  rw [List.length_map] at hl
  rw [run_convert_bytes_string _ 39 9 5 _ _ _ Try.underlying39 Try.underlying5 Try.underlying9, run_bytesToString w a ns.length c ns hl]
  have hp : ∀ (l : List Int) (r : ByteArray), l.foldl (fun r n => r.push (UInt8.ofNat n.toNat)) r = r ++ bs (l.map fun x => UInt8.ofNat x.toNat) := by
    intro l
    induction l with
    | nil => intro r; apply ByteArray.ext; simp [bs]
    | cons b l ih =>
      intro r
      rw [List.foldl_cons, ih]
      apply ByteArray.ext
      simp [bs]
  rw [hp]
  rfl
/-- Bytes of a string in new memory, one of them set, as a string. -/
theorem conv_set (w : World) (l : List UInt8) (k : Nat) (Y : Int) (n c : Nat) (hn : l.length = n) :
    (convert 39 9 (.slice (some ⟨w.heap.size, 0, none⟩) n c)).run Try.prog ((Lib.bytesWorld w 5 (bs l)).setCell ⟨w.heap.size, k, none⟩ (.int .u8 Y)) =
      .ok (.string (bs (l.set k (UInt8.ofNat Y.toNat)))) ((Lib.bytesWorld w 5 (bs l)).setCell ⟨w.heap.size, k, none⟩ (.int .u8 Y)) := by
  have e : ((l.map fun b => (b.toNat : Int)).set k Y).map (fun x => UInt8.ofNat x.toNat) = l.set k (UInt8.ofNat Y.toNat) := by
    rw [List.map_set, List.map_map]
    congr 1
    have : ((fun x : Int => UInt8.ofNat x.toNat) ∘ fun b : UInt8 => (b.toNat : Int)) = id := by funext b; simp
    rw [this, List.map_id]
  have h := conv_ints ((Lib.bytesWorld w 5 (bs l)).setCell ⟨w.heap.size, k, none⟩ (.int .u8 Y)) ⟨w.heap.size, 0, none⟩ ((l.map fun b => (b.toNat : Int)).set k Y) n c (by rw [List.length_set, List.length_map]; exact hn) (by
    intro j x hx
    have hj : j < l.length := by
      have := (List.getElem?_eq_some_iff.1 hx).1
      rwa [List.length_set, List.length_map] at this
    have ha : ((⟨w.heap.size, 0, none⟩ : Addr).add j) = ⟨w.heap.size, j, none⟩ := by
      unfold Addr.add; split
      · rename_i e; subst e; rfl
      · simp
    have hc := Lib.bytesWorld_cell w 5 (bs l) j (by rw [bs_size]; exact hj)
    rw [bs_data] at hc
    rw [ha]
    rw [List.getElem?_set] at hx
    by_cases ek : k = j
    · subst ek
      rw [if_pos rfl, if_pos (by rw [List.length_map]; exact hj)] at hx
      injection hx with hx
      subst hx
      exact World.cell?_setCell_same _ _ _ hc
    · rw [if_neg ek, List.getElem?_map, List.getElem?_eq_getElem hj] at hx
      injection hx with hx
      rw [World.cell?_setCell_other _ _ _ _ (by intro h; injection h with _ h; exact ek h), hc, ← hx]
      simp [List.getD, hj])
  rw [e] at h
  exact h

theorem flip_ne (b : UInt8) (z : Int) : UInt8.ofNat (bits BinOp.xor IntKind.u8 (b.toNat : Int) (2 ^ (z % 8).toNat % 256)).toNat ≠ b := by
  have hb := b.toNat_lt
  obtain ⟨m, hm, e⟩ : ∃ m : Nat, m < 8 ∧ (z % 8).toNat = m := ⟨(z % 8).toNat, by omega, rfl⟩
  rw [e]
  have hp : (2 : Nat) ^ m < 256 := Nat.lt_of_lt_of_le (Nat.pow_lt_pow_right (by omega) hm) (by decide)
  have e2 : ((2 : Int) ^ m % 256) = ((2 ^ m : Nat) : Int) := by
    rw [Int.natCast_pow]
    have : (((2 ^ m : Nat) : Int)) < 256 := by omega
    rw [Int.natCast_pow] at this
    exact Int.emod_eq_of_lt (Int.pow_nonneg (by decide)) this
  rw [e2, u8_xor_nat _ _ (by omega) hp, Int.toNat_natCast]
  intro h
  have h2 := congrArg UInt8.toNat h
  have hx : b.toNat ^^^ 2 ^ m < 256 := Nat.xor_lt_two_pow (n := 8) (by omega) hp
  have h3 : (UInt8.ofNat (b.toNat ^^^ 2 ^ m)).toNat = b.toNat ^^^ 2 ^ m := by rw [UInt8.toNat_ofNat']; exact Nat.mod_eq_of_lt hx
  rw [h3] at h2
  have h4 : b.toNat ^^^ 2 ^ m = b.toNat ^^^ 0 := by rw [h2, Nat.xor_zero]
  have h5 := xor_cancel_left _ _ _ h4
  have h6 : 0 < 2 ^ m := Nat.pow_pos (by omega)
  omega
theorem flip_at (l : List UInt8) (k : Nat) (z : Int) (hk : k < l.length) :
    ∃ y, y ≠ l[k] ∧ ∀ h : k < (bs l).data.size, UInt8.ofNat (bits BinOp.xor IntKind.u8 (((bs l).data[k]'h).toNat : Int) (2 ^ (z % 8).toNat % 256)).toNat = y :=
  ⟨_, flip_ne l[k] z, fun h => rfl⟩

end MsgFlip
namespace Hd
open PM
set_option linter.unusedVariables false
theorem de_turned (p : List UInt8) (k : Nat) (y : UInt8) (hp : p.length ≤ 65536) (hk : k < (frm p).length) (hy : y ≠ (frm p)[k]) : dmOk ((frm p).set k y) = false := by
  apply dm_nil
  unfold fmL
  by_cases hw : tfW ((frm p).set k y) = 0
  · rw [if_pos hw]
    have ht := turned p k y (by omega) hk hy hw
    have hc := congrArg List.length (tf_canon _ hw)
    rw [List.length_set, List.length_append, frm_length, frm_length] at hc
    have hr : tfR ((frm p).set k y) ≠ [] := by
      intro e
      rw [e, List.length_nil] at hc
      omega
    rw [if_neg hr]
  · rw [if_neg hw]
set_option maxRecDepth 100000 in
set_option maxHeartbeats 4000000 in
theorem msgTurned (v : Value) (x : Mg × Option Addr × Nat × Value) (at' z : Int) (w : World) (hx : MsgA w v x) (hat : (Lit.int .i64 at').wf = true) (hz : (Lit.int .u8 z).wf = true) :
    Calls Try.prog 5 #[v, .int .i64 at', .int .u8 z] w fun e w' => e = .returned (.bool true) ∧ Below w.heap.size w w' := by
  have hx2 : -9223372036854775808 ≤ at' ∧ at' ≤ 9223372036854775807 := by simpa [Lit.wf, IntKind.min, IntKind.max, IntKind.signed, IntKind.bits] using hat
  have hz2 : 0 ≤ z ∧ z ≤ 255 := by simpa [Lit.wf, IntKind.min, IntKind.max, IntKind.signed, IntKind.bits] using hz
  obtain ⟨m, a, cp, u⟩ := x
  obtain ⟨rfl, hs, hi, hl⟩ := hx
  simp only at hs hi hl ⊢
  obtain ⟨sa, sc, rfl⟩ := hi.slice
  have HM0 : Hid (MsgIn w m a cp (.slice sa m.s.ks.length sc)) := ⟨hs, hi⟩
  have hb0 : Below w.heap.size w (w.alloc (.cells #[.int .u8 (m.k : Nat), .int .u64 (m.t : Nat), .int .u64 (m.x : Nat), .int .u64 (m.u : Nat), .int .u64 (m.c : Nat), .bool m.ok, .slice a m.l.length cp, .int .u64 (m.s.i : Nat), .int .u64 (m.s.t : Nat), .slice sa m.s.ks.length sc, .string m.s.d] 29)) := (Below.refl _ _).alloc (Nat.le_refl _) _
  have HB0 := Lib.hid hb0
  have R0 := Lib.hid (show Bxn (w.alloc (.cells #[.int .u8 (m.k : Nat), .int .u64 (m.t : Nat), .int .u64 (m.x : Nat), .int .u64 (m.u : Nat), .int .u64 (m.c : Nat), .bool m.ok, .slice a m.l.length cp, .int .u64 (m.s.i : Nat), .int .u64 (m.s.t : Nat), .slice sa m.s.ks.length sc, .string m.s.d] 29)) w.heap.size [.int .u8 (m.k : Nat), .int .u64 (m.t : Nat), .int .u64 (m.x : Nat), .int .u64 (m.u : Nat), .int .u64 (m.c : Nat), .bool m.ok, .slice a m.l.length cp, .int .u64 (m.s.i : Nat), .int .u64 (m.s.t : Nat), .slice sa m.s.ks.length sc, .string m.s.d] from Bxn.made w _ _)
  have HM1 := Lib.hid (HM0.out.on hb0)
  have KE := Lib.hid (fun z (h : MsgIn z m a cp (.slice sa m.s.ks.length sc)) => msg_encode m a cp _ z h.1 h.2 hl)
  have KL := Lib.hid lives
  have HLM := Lib.hid hl
  unfold mgV at KE ⊢
  clear hb0 hs hi hl hat hz HM0
  cases hk : okM m
  · rw [erM_f hk] at KE
    clear hk
    go_enter Try.func5, Try.ntmps5
    go_wp2_with (go_at_call 13; go_loud ((with_reducible refine (KL.out _).mono ?_); rintro e w1 ⟨rfl, hb⟩; have R1 := Lib.hid (R0.out.below hb); have c0 : w1.cell? ⟨w.heap.size, 0, none⟩ = some (.int .u8 (m.k : Nat)) := R1.out.cell 0; have c1 : w1.cell? ⟨w.heap.size, 1, none⟩ = some (.int .u64 (m.t : Nat)) := R1.out.cell 1; have c2 : w1.cell? ⟨w.heap.size, 2, none⟩ = some (.int .u64 (m.x : Nat)) := R1.out.cell 2; have c3 : w1.cell? ⟨w.heap.size, 3, none⟩ = some (.int .u64 (m.u : Nat)) := R1.out.cell 3; have c4 : w1.cell? ⟨w.heap.size, 4, none⟩ = some (.int .u64 (m.c : Nat)) := R1.out.cell 4; have c5 : w1.cell? ⟨w.heap.size, 5, none⟩ = some (.bool m.ok) := R1.out.cell 5; have c6 : w1.cell? ⟨w.heap.size, 6, none⟩ = some (.slice a m.l.length cp) := R1.out.cell 6; have c7 : w1.cell? ⟨w.heap.size, 7, none⟩ = some (.int .u64 (m.s.i : Nat)) := R1.out.cell 7; have c8 : w1.cell? ⟨w.heap.size, 8, none⟩ = some (.int .u64 (m.s.t : Nat)) := R1.out.cell 8; have c9 : w1.cell? ⟨w.heap.size, 9, none⟩ = some (.slice sa m.s.ks.length sc) := R1.out.cell 9; have c10 : w1.cell? ⟨w.heap.size, 10, none⟩ = some (.string m.s.d) := R1.out.cell 10; have HM2 := Lib.hid (HM1.out.on hb); have HB1 := Lib.hid (HB0.out.trans (hb.mono HB0.out.size)); clear hb))
    go_wp2_with (go_at_call 9; go_loud ((with_reducible refine (KE.out _ HM2.out).mono ?_); rintro e w2 ⟨rfl, hb⟩; have HB2 := Lib.hid (HB1.out.trans (hb.mono HB1.out.size)); clear hb))
    go_wp2
    go_ret
    exact ⟨rfl, HB2.out⟩
  · have hrt := (okM_iff m).1 hk
    rw [erM_t hk, show enM m = frm (mgB m) by unfold enM; rw [if_pos hk]] at KE
    clear hk
    have hlm := mgB_len hrt HLM.out
    generalize mgB m = p at *
    have hfs := bs_size (frm p)
    have hfl := frm_length p
    have HP := Lib.hid hlm
    clear hrt HLM
    by_cases hin : 0 ≤ at' ∧ at' < 6 + (p.length : Int)
    · obtain ⟨k, rfl⟩ := Int.eq_ofNat_of_zero_le hin.1
      have hk : k < 6 + p.length := by omega
      have t1 : decide ((k : Int) < 0) = false := by simp
      have t2 : (k : Int) < 6 + (p.length : Int) := by omega
      have hcv := fun w => Lib.run_convert_string_bytes (P := Try.prog) w 9 39 5 (bs (frm p)) Try.underlying9 Try.underlying39 Try.underlying5
      have hkl : k < (frm p).length := by rw [hfl]; exact hk
      obtain ⟨y, hy, hyy⟩ := MsgFlip.flip_at (frm p) k z hkl
      have HY := Lib.hid hyy
      have KD := Lib.hid (dec_no ((frm p).set k y) (by rw [List.length_set, hfl]; unfold maxLen; omega) (de_turned p k y HP.out hkl hy))
      have HKK := Lib.hid hk
      have HKL := Lib.hid hkl
      clear hy hyy hlm
      go_enter Try.func5, Try.ntmps5
      go_wp2_with (go_at_call 13; go_loud ((with_reducible refine (KL.out _).mono ?_); rintro e w1 ⟨rfl, hb⟩; have R1 := Lib.hid (R0.out.below hb); have c0 : w1.cell? ⟨w.heap.size, 0, none⟩ = some (.int .u8 (m.k : Nat)) := R1.out.cell 0; have c1 : w1.cell? ⟨w.heap.size, 1, none⟩ = some (.int .u64 (m.t : Nat)) := R1.out.cell 1; have c2 : w1.cell? ⟨w.heap.size, 2, none⟩ = some (.int .u64 (m.x : Nat)) := R1.out.cell 2; have c3 : w1.cell? ⟨w.heap.size, 3, none⟩ = some (.int .u64 (m.u : Nat)) := R1.out.cell 3; have c4 : w1.cell? ⟨w.heap.size, 4, none⟩ = some (.int .u64 (m.c : Nat)) := R1.out.cell 4; have c5 : w1.cell? ⟨w.heap.size, 5, none⟩ = some (.bool m.ok) := R1.out.cell 5; have c6 : w1.cell? ⟨w.heap.size, 6, none⟩ = some (.slice a m.l.length cp) := R1.out.cell 6; have c7 : w1.cell? ⟨w.heap.size, 7, none⟩ = some (.int .u64 (m.s.i : Nat)) := R1.out.cell 7; have c8 : w1.cell? ⟨w.heap.size, 8, none⟩ = some (.int .u64 (m.s.t : Nat)) := R1.out.cell 8; have c9 : w1.cell? ⟨w.heap.size, 9, none⟩ = some (.slice sa m.s.ks.length sc) := R1.out.cell 9; have c10 : w1.cell? ⟨w.heap.size, 10, none⟩ = some (.string m.s.d) := R1.out.cell 10; have HM2 := Lib.hid (HM1.out.on hb); have HB1 := Lib.hid (HB0.out.trans (hb.mono HB0.out.size)); clear hb))
      go_wp2_with fail
      refine (KE.out _ HM2.out).mono ?_
      rintro e w2 ⟨rfl, hb⟩
      have HB2 := Lib.hid (HB1.out.trans (hb.mono HB1.out.size))
      clear hb c0 c1 c2 c3 c4 c5 c6 c7 c8 c9 c10
      have hcell := Lib.bytesWorld_cell w2 5 (bs (frm p)) k (by rw [bs_size, hfl]; exact hk)
      have hfz := MsgFlip.bytes_frozen w2 5 (bs (frm p)) k (by rw [bs_size, hfl]; exact hk)
      have hset := fun Y c => MsgFlip.conv_set w2 (frm p) k Y (6 + p.length) c (by rw [hfl])
      go_wp2_with fail
      rw [HY.out]
      have hbw := fun v => (MsgFlip.below_bytes w2 5 (bs (frm p))).setCell (p := ⟨w2.heap.size, k, none⟩) (Nat.le_refl _) v
      have HW := Lib.hid hbw
      clear hbw hset hcv hcell hfz
      refine (KD.out _).mono ?_
      rintro e w3 ⟨⟨a8, c8, u8, d8, rfl, -⟩, hb⟩
      have HB3 := Lib.hid (HB2.out.trans (((HW.out _).mono HB2.out.size).trans (hb.mono (Nat.le_trans HB2.out.size (HW.out _).size))))
      clear hb
      go_wp2
      go_ret
      exact ⟨rfl, HB3.out.alloc HB3.out.size _⟩
    · have hin2 : at' < 0 ∨ (0 ≤ at' ∧ 6 + (p.length : Int) ≤ at') := by omega
      clear hin hlm
      rcases hin2 with h1 | ⟨h1, h2⟩
      · have t1 : decide (at' < 0) = true := by simpa using h1
        go_enter Try.func5, Try.ntmps5
        go_wp2_with (go_at_call 13; go_loud ((with_reducible refine (KL.out _).mono ?_); rintro e w1 ⟨rfl, hb⟩; have R1 := Lib.hid (R0.out.below hb); have c0 : w1.cell? ⟨w.heap.size, 0, none⟩ = some (.int .u8 (m.k : Nat)) := R1.out.cell 0; have c1 : w1.cell? ⟨w.heap.size, 1, none⟩ = some (.int .u64 (m.t : Nat)) := R1.out.cell 1; have c2 : w1.cell? ⟨w.heap.size, 2, none⟩ = some (.int .u64 (m.x : Nat)) := R1.out.cell 2; have c3 : w1.cell? ⟨w.heap.size, 3, none⟩ = some (.int .u64 (m.u : Nat)) := R1.out.cell 3; have c4 : w1.cell? ⟨w.heap.size, 4, none⟩ = some (.int .u64 (m.c : Nat)) := R1.out.cell 4; have c5 : w1.cell? ⟨w.heap.size, 5, none⟩ = some (.bool m.ok) := R1.out.cell 5; have c6 : w1.cell? ⟨w.heap.size, 6, none⟩ = some (.slice a m.l.length cp) := R1.out.cell 6; have c7 : w1.cell? ⟨w.heap.size, 7, none⟩ = some (.int .u64 (m.s.i : Nat)) := R1.out.cell 7; have c8 : w1.cell? ⟨w.heap.size, 8, none⟩ = some (.int .u64 (m.s.t : Nat)) := R1.out.cell 8; have c9 : w1.cell? ⟨w.heap.size, 9, none⟩ = some (.slice sa m.s.ks.length sc) := R1.out.cell 9; have c10 : w1.cell? ⟨w.heap.size, 10, none⟩ = some (.string m.s.d) := R1.out.cell 10; have HM2 := Lib.hid (HM1.out.on hb); have HB1 := Lib.hid (HB0.out.trans (hb.mono HB0.out.size)); clear hb))
        go_wp2_with (go_at_call 9; go_loud ((with_reducible refine (KE.out _ HM2.out).mono ?_); rintro e w2 ⟨rfl, hb⟩; have HB2 := Lib.hid (HB1.out.trans (hb.mono HB1.out.size)); clear hb))
        go_wp2
        go_ret
        exact ⟨rfl, HB2.out⟩
      · have t0 : ¬ at' < 0 := by omega
        have t1 : decide (at' < 0) = false := by simpa using h1
        have t2 : decide (6 + (p.length : Int) ≤ at') = true := by simpa using h2
        have t3 : ¬ at' < 6 + (p.length : Int) := by omega
        go_enter Try.func5, Try.ntmps5
        go_wp2_with (go_at_call 13; go_loud ((with_reducible refine (KL.out _).mono ?_); rintro e w1 ⟨rfl, hb⟩; have R1 := Lib.hid (R0.out.below hb); have c0 : w1.cell? ⟨w.heap.size, 0, none⟩ = some (.int .u8 (m.k : Nat)) := R1.out.cell 0; have c1 : w1.cell? ⟨w.heap.size, 1, none⟩ = some (.int .u64 (m.t : Nat)) := R1.out.cell 1; have c2 : w1.cell? ⟨w.heap.size, 2, none⟩ = some (.int .u64 (m.x : Nat)) := R1.out.cell 2; have c3 : w1.cell? ⟨w.heap.size, 3, none⟩ = some (.int .u64 (m.u : Nat)) := R1.out.cell 3; have c4 : w1.cell? ⟨w.heap.size, 4, none⟩ = some (.int .u64 (m.c : Nat)) := R1.out.cell 4; have c5 : w1.cell? ⟨w.heap.size, 5, none⟩ = some (.bool m.ok) := R1.out.cell 5; have c6 : w1.cell? ⟨w.heap.size, 6, none⟩ = some (.slice a m.l.length cp) := R1.out.cell 6; have c7 : w1.cell? ⟨w.heap.size, 7, none⟩ = some (.int .u64 (m.s.i : Nat)) := R1.out.cell 7; have c8 : w1.cell? ⟨w.heap.size, 8, none⟩ = some (.int .u64 (m.s.t : Nat)) := R1.out.cell 8; have c9 : w1.cell? ⟨w.heap.size, 9, none⟩ = some (.slice sa m.s.ks.length sc) := R1.out.cell 9; have c10 : w1.cell? ⟨w.heap.size, 10, none⟩ = some (.string m.s.d) := R1.out.cell 10; have HM2 := Lib.hid (HM1.out.on hb); have HB1 := Lib.hid (HB0.out.trans (hb.mono HB0.out.size)); clear hb))
        go_wp2_with (go_at_call 9; go_loud ((with_reducible refine (KE.out _ HM2.out).mono ?_); rintro e w2 ⟨rfl, hb⟩; have HB2 := Lib.hid (HB1.out.trans (hb.mono HB1.out.size)); clear hb))
        go_wp2
        go_ret
        exact ⟨rfl, HB2.out⟩
end Hd
end Go.Proofs.Ytlkdjnnlbccjdaa
