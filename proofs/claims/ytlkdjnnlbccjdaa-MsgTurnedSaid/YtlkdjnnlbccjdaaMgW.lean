/-
  Merged: WalEnc, WalDec, WalMath.
-/
import Derived.Test.YtlkdjnnlbccjdaaSnQ
import Derived.Test.YtlkdjnnlbccjdaaLogChk
import Derived.Test.YtlkdjnnlbccjdaaMsgInt
import Derived.Test.YtlkdjnnlbccjdaaPkQ
/-
  AN ENTRY's BYTES: wal.numbersOf, wal.Encode.
-/
namespace Go.Proofs.Ytlkdjnnlbccjdaa
open Go.RowKit
namespace Hd
open PM
set_option linter.unusedVariables false
theorem fits_bld : Fits 44 := ⟨by kernel_rfl, by decide⟩
theorem numbers_of (i t k : Nat) (d : ByteArray) (u : Value) (w : World) (hk : k < 256) :
    Calls Try.prog 93 #[.agg #[.int .u64 (i : Nat), .int .u64 (t : Nat), .int .u8 (k : Nat), .string d, u]] w fun e w' => e = .returned (.agg #[.int .u64 (i : Nat), .int .u64 (t : Nat), .int .u64 (k : Nat)]) ∧ Below w.heap.size w w' := by
  have tk : IntKind.u64.wrap (k : Int) = (k : Int) := by rw [IntKind.wrap_u64]; omega
  go_enter Try.func93, Try.ntmps93
  go_wp2
  refine bodyPost_ret (v := .agg #[.int .u64 (i : Nat), .int .u64 (t : Nat), .int .u64 (k : Nat)]) (by simp [results, Try.results93, go_sem]) rfl ⟨rfl, ?_⟩
  exact ((Below.refl _ _).alloc (Nat.le_refl _) _).alloc (by simp) _
/-- The bytes of an entry. -/
def weB (e : Lo.En) : List UInt8 := num e.i ++ num e.t ++ num e.k ++ txt e.d.data.toList ++ mbs (e.ks.map Int.toNat)
def weS (e : Lo.En) : List UInt8 := if Lo.enB e = true then weB e else []
def weE (e : Lo.En) : Nat := if Lo.enB e = true then 0 else 4
def preW (a b c : List UInt8) : Nat → List UInt8
  | 0 => []
  | 1 => a
  | 2 => a ++ b
  | _ => a ++ b ++ c
theorem weS_ok {e : Lo.En} (h : Lo.enB e = true) : weS e = weB e ∧ weE e = 0 := by unfold weS weE; rw [if_pos h, if_pos h]; exact ⟨rfl, rfl⟩
theorem weS_no {e : Lo.En} (h : Lo.enB e = false) : weS e = [] ∧ weE e = 4 := by unfold weS weE; rw [if_neg (by rw [h]; simp), if_neg (by rw [h]; simp)]; exact ⟨rfl, rfl⟩
theorem lo_rmF_small (ks : List Int) : ∀ la : Int, 0 ≤ la → Lo.rmF la ks = true → (∀ k ∈ ks, 0 ≤ k ∧ k ≤ 7) ∧ (la : Int) + ks.length ≤ max la 7 := by
  induction ks with
  | nil => intro la h0 _; exact ⟨by simp, by simp; omega⟩
  | cons x r ih =>
    intro la h0 h
    unfold Lo.rmF at h
    by_cases h1 : x ≤ la
    · rw [if_pos h1] at h; cases h
    · rw [if_neg h1] at h
      by_cases h2 : 7 < x
      · rw [if_pos h2] at h; cases h
      · rw [if_neg h2] at h
        obtain ⟨i1, i2⟩ := ih x (by omega) h
        refine ⟨fun k hk => ?_, ?_⟩
        · rcases List.mem_cons.1 hk with rfl | hk
          · omega
          · exact i1 k hk
        · simp only [List.length_cons]
          omega
/-- What a right entry is. -/
theorem en_fits {e : Lo.En} (h : Lo.enB e = true) : (∀ k ∈ e.ks, 0 ≤ k ∧ k ≤ 7) ∧ e.ks.length ≤ 7 ∧ e.d.size ≤ 4096 ∧ e.k < 4 ∧ e.i ≠ 0 := by
  have h0 := Lo.en_pos h
  unfold Lo.enB at h
  rw [if_neg h0] at h
  have hz : ∀ d : ByteArray, d.toList.isEmpty = true → d.size = 0 := by
    intro d hd
    have : d.toList = [] := by simpa using hd
    rw [ByteArray.toList_eq] at this
    show d.data.size = 0
    have h2 := congrArg List.length this
    simpa using h2
  by_cases h1 : e.k = 1
  · rw [if_pos h1] at h
    simp only [Bool.and_eq_true, decide_eq_true_eq] at h
    have hn : e.ks = [] := List.eq_nil_of_length_eq_zero h.2
    exact ⟨by rw [hn]; simp, by omega, by rw [hz _ h.1]; omega, by omega, h0⟩
  · rw [if_neg h1] at h
    by_cases h2 : e.k = 2
    · rw [if_pos h2] at h
      simp only [Bool.and_eq_true, decide_eq_true_eq] at h
      have hn : e.ks = [] := List.eq_nil_of_length_eq_zero h.2
      exact ⟨by rw [hn]; simp, by omega, h.1, by omega, h0⟩
    · rw [if_neg h2] at h
      by_cases h3 : e.k = 3
      · rw [if_pos h3] at h
        simp only [Bool.and_eq_true, Lo.rmB] at h
        obtain ⟨i1, i2⟩ := lo_rmF_small e.ks 0 (by omega) h.2.1
        exact ⟨i1, by omega, by rw [hz _ h.1]; omega, by omega, h0⟩
      · rw [if_neg h3] at h; cases h
theorem nu0 (z0 z1 z2 : Int) (w : World) : (Instr.index 128 (.agg #[.int .u64 z0, .int .u64 z1, .int .u64 z2]) (.int .i64 0)).run Try.prog w = .ok (.int .u64 z0) w := by kernel_rfl
theorem nu1 (z0 z1 z2 : Int) (w : World) : (Instr.index 128 (.agg #[.int .u64 z0, .int .u64 z1, .int .u64 z2]) (.int .i64 1)).run Try.prog w = .ok (.int .u64 z1) w := by kernel_rfl
theorem nu2 (z0 z1 z2 : Int) (w : World) : (Instr.index 128 (.agg #[.int .u64 z0, .int .u64 z1, .int .u64 z2]) (.int .i64 2)).run Try.prog w = .ok (.int .u64 z2) w := by kernel_rfl
set_option maxRecDepth 100000 in
set_option maxHeartbeats 2000000 in
theorem wal_encode (e : Lo.En) (u : Value) (w : World) {A : Nat} (hu : Lo.IntsR w A w.heap.size u e.ks) (hi : e.i < 2 ^ 64) (ht : e.t < 2 ^ 64) :
    Calls Try.prog 75 #[Lo.enV e u] w fun en w' => en = .returned (.tuple #[.string (bs (weS e)), .int .i64 (weE e : Nat)]) ∧ Below w.heap.size w w' := by
  have HWE := Lib.hid (@weS_ok e)
  have HWN := Lib.hid (@weS_no e)
  have HEF := Lib.hid (@en_fits e)
  have eB : weB e = num e.i ++ num e.t ++ num e.k ++ txt e.d.data.toList ++ mbs (e.ks.map Int.toNat) := rfl
  have EB := Lib.hid eB
  clear eB
  obtain ⟨i, t, k, d, ks⟩ := e
  simp only [Lo.enV] at *
  have HU := Lib.hid hu
  obtain ⟨ua, uc, rfl⟩ := hu.slice
  have hB0 : Below w.heap.size w (w.alloc (.cells #[.int .u64 (i : Nat), .int .u64 (t : Nat), .int .u8 (k : Nat), .string d, .slice ua ks.length uc] 73)) := (Below.refl _ w).alloc (Nat.le_refl _) _
  have HB0 := Lib.hid hB0
  have HU1 := Lib.hid ((HU.out.keep hB0).more hB0.size (Nat.le_refl _))
  have HC := Lib.hid (Lo.entry_check i t k d ks _ _ HU1.out)
  clear hu hB0
  cases hr : Lo.enB ⟨i, t, k, d, ks⟩
  · obtain ⟨e1, e2⟩ := HWN.out hr
    rw [e1, e2]
    rw [hr] at HC
    clear hr e1 e2 HWE HWN HEF
    go_enter Try.func75, Try.ntmps75
    go_wp2_with (go_at_call 68; go_loud ((with_reducible refine (HC.out).mono ?_); rintro e w1 ⟨rfl, hb⟩; have HB1 := Lib.hid (HB0.out.trans (hb.mono HB0.out.size)); clear hb))
    go_wp2
    go_ret2
    exact ⟨rfl, HB1.out⟩
  · obtain ⟨e1, e2⟩ := HWE.out hr
    obtain ⟨f1, f2, f3, f4, f5⟩ := HEF.out hr
    rw [e1, e2]
    rw [hr, if_pos rfl] at HC
    have W0 := Lib.hid (show ∀ j v, #[(.int .u64 (i : Nat) : Value), .int .u64 (t : Nat), .int .u8 (k : Nat), .string d, .slice ua ks.length uc][j]? = some v → (w.alloc (.cells #[.int .u64 (i : Nat), .int .u64 (t : Nat), .int .u8 (k : Nat), .string d, .slice ua ks.length uc] 73)).cell? ⟨w.heap.size, j, none⟩ = some v from fun j v hj => by rw [cell_of_row _ _ j _ _ (0, 0) (heap_alloc_new w _)]; simpa using hj)
    have G1 := Lib.hid (fun w => PackBytes.number_own i w hi)
    have G2 := Lib.hid (fun w => PackBytes.number_own t w ht)
    have G3 := Lib.hid (fun w => PackBytes.number_own k w (by omega))
    have G4 := Lib.hid (fun w => PackText.text_own d w (by show d.size ≤ 140737488351232; omega))
    unfold PackText.txtB at G4
    have hk7 : (ks.map Int.toNat).map (fun (k : Nat) => (k : Int)) = ks := toNat_map ks f1
    have G5 := Lib.hid (fun w (hw : Dk.Ints w w.heap.size (.slice ua ks.length uc) ks) => members_make (.slice ua ks.length uc) (ks.map Int.toNat) w (by rw [hk7]; exact hw) (by rw [List.length_map]; omega) (by
      intro m hm
      obtain ⟨k, hk, rfl⟩ := List.mem_map.1 hm
      have := f1 k hk
      omega))
    have l1 := num_le9 i hi
    have l2 := num_le9 t ht
    have l3 := num_le9 k (by omega)
    have l5 := mbs_len (ks.map Int.toNat) (by rw [List.length_map]; omega) (by
      intro m hm
      obtain ⟨k, hk, rfl⟩ := List.mem_map.1 hm
      have := f1 k hk
      omega)
    have l4 : (txt d.data.toList).length ≤ 64600 := by
      unfold txt
      rw [List.length_append]
      have := num_le9 d.data.toList.length (by show d.size < _; omega)
      have e : d.data.toList.length = d.size := rfl
      omega
    rw [List.length_map] at l5
    have hne : weB ⟨i, t, k, d, ks⟩ ≠ [] := by rw [EB.out]; simp [num]
    have HNE := Lib.hid hne
    have HN := Lib.hid (numbers_of i t k d (.slice ua ks.length uc))
    have hk4 : k < 256 := by omega
    have HNO := Lib.hid (fun w => numbers_of i t k d (.slice ua ks.length uc) w hk4)
    generalize weB ⟨i, t, k, d, ks⟩ = q0 at *
    generalize num i = q1 at *
    generalize num t = q2 at *
    generalize num k = q3 at *
    generalize txt d.data.toList = q4 at *
    generalize mbs (ks.map Int.toNat) = q5 at *
    have L1 := Lib.hid l1
    have L2 := Lib.hid l2
    have L3 := Lib.hid l3
    have L4 := Lib.hid l4
    have L5 := Lib.hid (show q5.length ≤ 100 by omega)
    clear hr e1 e2 HWE HWN HEF f1 f2 f3 f5 l1 l2 l3 l4 l5 hk7 hne HN hi ht f4 hk4
    go_enter Try.func75, Try.ntmps75
    go_wp2_with (go_at_call 68; go_loud ((with_reducible refine (HC.out).mono ?_); rintro e w1 ⟨rfl, hb⟩; have HB1 := Lib.hid (HB0.out.trans (hb.mono HB0.out.size)); have S1 := Lib.hid hb.size; have b0 := Lib.cell?_alloc_some (.cells #[.pointer none, .slice none 0 0] 44) ((hb.cell (p := ⟨w.heap.size, 0, none⟩) (by simp)).trans (W0.out 0 _ rfl)); have b1 := Lib.cell?_alloc_some (.cells #[.pointer none, .slice none 0 0] 44) ((hb.cell (p := ⟨w.heap.size, 1, none⟩) (by simp)).trans (W0.out 1 _ rfl)); have b2 := Lib.cell?_alloc_some (.cells #[.pointer none, .slice none 0 0] 44) ((hb.cell (p := ⟨w.heap.size, 2, none⟩) (by simp)).trans (W0.out 2 _ rfl)); have b3 := Lib.cell?_alloc_some (.cells #[.pointer none, .slice none 0 0] 44) ((hb.cell (p := ⟨w.heap.size, 3, none⟩) (by simp)).trans (W0.out 3 _ rfl)); have b4 := Lib.cell?_alloc_some (.cells #[.pointer none, .slice none 0 0] 44) ((hb.cell (p := ⟨w.heap.size, 4, none⟩) (by simp)).trans (W0.out 4 _ rfl)); clear hb))
    have hz1 : w.heap.size < w1.heap.size := by have := S1.out; simp at this; omega
    have HM0 := Lib.hid (Mk.made 44 fits_bld w1)
    have HB2 := Lib.hid (HB1.out.alloc HB1.out.size (.cells #[.pointer none, .slice none 0 0] 44))
    generalize hW2 : w1.alloc (.cells #[.pointer none, .slice none 0 0] 44) = W2 at *
    have hz2 : W2.heap.size = w1.heap.size + 1 := by rw [← hW2]; simp
    have HZ2 := Lib.hid hz2
    generalize w1.heap.size = g at *
    clear hW2 hz2 S1
    go_wp2_with (go_at_call 93; go_loud ((with_reducible refine (HNO.out _).mono ?_); rintro e w2 ⟨rfl, hb⟩; have HM2 := Lib.hid (HM0.out.below hb); have HB3 := Lib.hid (HB2.out.trans (hb.mono HB2.out.size)); have b3' := (hb.cell (p := ⟨w.heap.size, 3, none⟩) (by show w.heap.size < _; have := HZ2.out; omega)).trans b3; have b4' := (hb.cell (p := ⟨w.heap.size, 4, none⟩) (by show w.heap.size < _; have := HZ2.out; omega)).trans b4; have HS2 := Lib.hid (show g + 1 ≤ w2.heap.size by have := HZ2.out; have := hb.size; omega); clear hb))
    go_loopg [15] 3 (fun gg i wx => ∃ k : Nat, k + gg = 3 ∧ i = .int .i64 k ∧ Aside (Mk wx g g (preW q1 q2 q3 k) ∧ Below g w2 wx ∧ g + 1 ≤ wx.heap.size))
    case atStart => exact ⟨0, by omega, rfl, HM2.out, Below.refl _ _, HS2.out⟩
    case round =>
      obtain ⟨k2, hkg, rfl, HA⟩ := hrel
      cases gk with
      | zero =>
        obtain rfl : k2 = 3 := by omega
        have c3 := (HA.out.2.1.cell (p := ⟨w.heap.size, 3, none⟩) (by exact hz1)).trans b3'
        have c4 := (HA.out.2.1.cell (p := ⟨w.heap.size, 4, none⟩) (by exact hz1)).trans b4'
        have HM3 := Lib.hid (show Mk wr g g (q1 ++ q2 ++ q3) from HA.out.1)
        have HB4 := Lib.hid (HB3.out.trans (HA.out.2.1.mono (Nat.le_of_lt hz1)))
        have HS3 := Lib.hid HA.out.2.2
        have w1a := Lib.hid (fun x (hx : Mk x g g (q1 ++ q2 ++ q3)) (hB : g ≤ x.heap.size) => write_any g g (q1 ++ q2 ++ q3) q4 x hx (by rw [List.length_append, List.length_append]; have := L1.out; have := L2.out; have := L3.out; have := L4.out; omega) hB)
        have w2a := Lib.hid (fun x (hx : Mk x g g (q1 ++ q2 ++ q3 ++ q4)) (hB : g ≤ x.heap.size) => write_any g g (q1 ++ q2 ++ q3 ++ q4) q5 x hx (by rw [List.length_append, List.length_append, List.length_append]; have := L1.out; have := L2.out; have := L3.out; have := L4.out; have := L5.out; omega) hB)
        clear hkg HA
        go_wp2_with (go_at_call 94; go_loud ((with_reducible refine (G4.out _).mono ?_); rintro e w4 ⟨rfl, hb⟩; have HM4 := Lib.hid (HM3.out.below hb); have HB5 := Lib.hid (HB4.out.trans (hb.mono HB4.out.size)); have HS4 := Lib.hid (show g + 1 ≤ w4.heap.size from Nat.le_trans HS3.out hb.size); have d4 := (hb.cell (p := ⟨w.heap.size, 4, none⟩) (by show w.heap.size < _; have := HS3.out; omega)).trans c4; clear hb))
        go_wp2_with (go_at_call 73; go_loud ((with_reducible refine (w1a.out _ HM4.out (Nat.le_of_succ_le HS4.out)).mono ?_); rintro e w5 ⟨⟨x, rfl⟩, h2, hf⟩; have HM5 := Lib.hid h2; have HB6 := Lib.hid (HB5.out.trans (hf.1.mono (Nat.le_of_lt hz1))); have HS5 := Lib.hid (show g + 1 ≤ w5.heap.size from Nat.le_trans HS4.out hf.1.size); have e4 := (hf.1.cell (p := ⟨w.heap.size, 4, none⟩) (by exact hz1)).trans d4; clear h2 hf))
        have HU5 := Lib.hid (G5.out w5 ((HU.out.keep HB6.out).more HB6.out.size (Nat.le_refl _)).ints)
        go_wp2_with (go_at_call 95; go_loud ((with_reducible refine HU5.out.mono ?_); rintro e w6 ⟨rfl, hb⟩; have HM6 := Lib.hid (HM5.out.below hb); have HB7 := Lib.hid (HB6.out.trans (hb.mono HB6.out.size)); have HS6 := Lib.hid (show g + 1 ≤ w6.heap.size from Nat.le_trans HS5.out hb.size); clear hb))
        go_wp2_with (go_at_call 73; go_loud ((with_reducible refine (w2a.out _ HM6.out (Nat.le_of_succ_le HS6.out)).mono ?_); rintro e w7 ⟨⟨x, rfl⟩, h2, hf⟩; have HM7 := Lib.hid (show Mk w7 g g q0 by rw [EB.out]; exact h2); have HB8 := Lib.hid (HB7.out.trans (hf.1.mono (Nat.le_of_lt hz1))); clear h2 hf))
        go_wp2_with (go_at_call 43; go_loud ((with_reducible refine (string_any g g q0 _ HM7.out HNE.out).mono ?_); rintro e w8 ⟨rfl, hb⟩; have HB9 := Lib.hid (HB8.out.trans (hb.mono (Nat.le_of_lt hz1))); clear hb))
        go_wp2
        go_ret2
        exact ⟨rfl, HB9.out⟩
      | succ gg =>
        have h3 : k2 = 0 ∨ k2 = 1 ∨ k2 = 2 := by omega
        have HM3 := Lib.hid HA.out.1
        have HS3 := Lib.hid HA.out.2.2
        have HB4 := Lib.hid HA.out.2.1
        clear HA
        rcases h3 with rfl | rfl | rfl
        · obtain rfl : gg = 2 := by omega
          clear hkg
          have w1a := Lib.hid (fun x (hx : Mk x g g (preW q1 q2 q3 0)) (hB : g ≤ x.heap.size) => write_any g g (preW q1 q2 q3 0) q1 x hx (by simp [preW]; have := L1.out; have := L2.out; have := L3.out; omega) hB)
          have i0 := nu0 (i : Nat) (t : Nat) (k : Nat)
          go_wp2_with (go_at_call 74; go_loud ((with_reducible refine (G1.out _).mono ?_); rintro e w4 ⟨rfl, hb⟩; have HM4 := Lib.hid (HM3.out.below hb); have HB5 := Lib.hid (HB4.out.trans (hb.mono (Nat.le_of_succ_le HS3.out))); have HS4 := Lib.hid (show g + 1 ≤ w4.heap.size from Nat.le_trans HS3.out hb.size); clear hb))
          go_wp2_with (go_at_call 73; go_loud ((with_reducible refine (w1a.out _ HM4.out (Nat.le_of_succ_le HS4.out)).mono ?_); rintro e w5 ⟨⟨x, rfl⟩, h2, hf⟩; have HM5 := Lib.hid h2; have HB6 := Lib.hid (HB5.out.trans hf.1); have HS5 := Lib.hid (show g + 1 ≤ w5.heap.size from Nat.le_trans HS4.out hf.1.size); clear h2 hf))
          go_wp2
          go_roundg 2
          case measure => omega
          case rel => exact ⟨1, by omega, rfl, HM5.out, HB6.out, HS5.out⟩
        · obtain rfl : gg = 1 := by omega
          clear hkg
          have w1a := Lib.hid (fun x (hx : Mk x g g (preW q1 q2 q3 1)) (hB : g ≤ x.heap.size) => write_any g g (preW q1 q2 q3 1) q2 x hx (by simp [preW]; have := L1.out; have := L2.out; have := L3.out; omega) hB)
          have i0 := nu1 (i : Nat) (t : Nat) (k : Nat)
          go_wp2_with (go_at_call 74; go_loud ((with_reducible refine (G2.out _).mono ?_); rintro e w4 ⟨rfl, hb⟩; have HM4 := Lib.hid (HM3.out.below hb); have HB5 := Lib.hid (HB4.out.trans (hb.mono (Nat.le_of_succ_le HS3.out))); have HS4 := Lib.hid (show g + 1 ≤ w4.heap.size from Nat.le_trans HS3.out hb.size); clear hb))
          go_wp2_with (go_at_call 73; go_loud ((with_reducible refine (w1a.out _ HM4.out (Nat.le_of_succ_le HS4.out)).mono ?_); rintro e w5 ⟨⟨x, rfl⟩, h2, hf⟩; have HM5 := Lib.hid h2; have HB6 := Lib.hid (HB5.out.trans hf.1); have HS5 := Lib.hid (show g + 1 ≤ w5.heap.size from Nat.le_trans HS4.out hf.1.size); clear h2 hf))
          go_wp2
          go_roundg 1
          case measure => omega
          case rel => exact ⟨2, by omega, rfl, HM5.out, HB6.out, HS5.out⟩
        · obtain rfl : gg = 0 := by omega
          clear hkg
          have w1a := Lib.hid (fun x (hx : Mk x g g (preW q1 q2 q3 2)) (hB : g ≤ x.heap.size) => write_any g g (preW q1 q2 q3 2) q3 x hx (by simp [preW]; have := L1.out; have := L2.out; have := L3.out; omega) hB)
          have i0 := nu2 (i : Nat) (t : Nat) (k : Nat)
          go_wp2_with (go_at_call 74; go_loud ((with_reducible refine (G3.out _).mono ?_); rintro e w4 ⟨rfl, hb⟩; have HM4 := Lib.hid (HM3.out.below hb); have HB5 := Lib.hid (HB4.out.trans (hb.mono (Nat.le_of_succ_le HS3.out))); have HS4 := Lib.hid (show g + 1 ≤ w4.heap.size from Nat.le_trans HS3.out hb.size); clear hb))
          go_wp2_with (go_at_call 73; go_loud ((with_reducible refine (w1a.out _ HM4.out (Nat.le_of_succ_le HS4.out)).mono ?_); rintro e w5 ⟨⟨x, rfl⟩, h2, hf⟩; have HM5 := Lib.hid h2; have HB6 := Lib.hid (HB5.out.trans hf.1); have HS5 := Lib.hid (show g + 1 ≤ w5.heap.size from Nat.le_trans HS4.out hf.1.size); clear h2 hf))
          go_wp2
          go_roundg 0
          case measure => omega
          case rel => exact ⟨3, by omega, rfl, HM5.out, HB6.out, HS5.out⟩
end Hd
end Go.Proofs.Ytlkdjnnlbccjdaa

/-
  AN ENTRY OUT OF BYTES: wal.kindOf, wal.Decode.
-/
namespace Go.Proofs.Ytlkdjnnlbccjdaa
open Go.RowKit
namespace Hd
open PM
set_option linter.unusedVariables false
def kd (n : Nat) : Nat := if 4 ≤ n then 0 else n
theorem kind_of (n : Nat) (w : World) (hn : n < 2 ^ 64) :
    Calls Try.prog 96 #[.int .u64 (n : Nat)] w fun e w' => e = .returned (.int .u8 (kd n : Nat)) ∧ w = w' := by
  by_cases h : 4 ≤ n
  · have h1 : (4 : Int) ≤ (n : Int) := by omega
    have e1 : kd n = 0 := by unfold kd; rw [if_pos h]
    rw [e1]
    go_enter Try.func96, Try.ntmps96
    go_wp2
    go_ret
    exact ⟨rfl, rfl⟩
  · have h1 : ¬ (4 : Int) ≤ (n : Int) := by omega
    have e1 : kd n = n := by unfold kd; rw [if_neg h]
    have t1 : IntKind.u8.wrap (n : Int) = (n : Int) := by rw [IntKind.wrap_u8]; omega
    rw [e1]
    go_enter Try.func96, Try.ntmps96
    go_wp2
    go_ret
    exact ⟨rfl, rfl⟩
def wdl (l : List UInt8) : Nat → List UInt8
  | 0 => l
  | k + 1 => tnR (wdl l k)
def wdb (l : List UInt8) : Nat → Bool
  | 0 => false
  | k + 1 => decide (tnW (wdl l k) ≠ 0)
def wdn (l : List UInt8) : Nat → List Value
  | 0 => [.int .u64 0, .int .u64 0, .int .u64 0]
  | 1 => [.int .u64 (tnN l : Nat), .int .u64 0, .int .u64 0]
  | 2 => [.int .u64 (tnN l : Nat), .int .u64 (tnN (tnR l) : Nat), .int .u64 0]
  | _ => [.int .u64 (tnN l : Nat), .int .u64 (tnN (tnR l) : Nat), .int .u64 (tnN (tnR (tnR l)) : Nat)]
theorem wdl_length (l : List UInt8) : ∀ k, (wdl l k).length ≤ l.length
  | 0 => Nat.le_refl _
  | k + 1 => Nat.le_trans (tnR_length _) (wdl_length l k)
/-- What is left behind the text. -/
def wx (l : List UInt8) : List UInt8 := ttR (wdl l 3)
def wdMs (l : List UInt8) : List Nat := mbL (wx l) (upV 7 (wx l))
def wdDn (l : List UInt8) : Bool := !(mbB (wx l) (upV 7 (wx l))) && (mbR (wx l) (upV 7 (wx l))).isEmpty
/-- The entry that is read. -/
def wdN (l : List UInt8) : Lo.En := ⟨tnN l, tnN (tnR l), kd (tnN (tnR (tnR l))), bs (ttT (wdl l 3)), (wdMs l).map fun (k : Nat) => (k : Int)⟩
def wdOk (l : List UInt8) : Bool := wdDn l && Lo.enB (wdN l)
def noE : Lo.En := ⟨0, 0, 0, ⟨#[]⟩, []⟩
def wdV (l : List UInt8) : Lo.En := if wdOk l = true then wdN l else noE
def wdM (l : List UInt8) : List Nat := if wdOk l = true then wdMs l else []
def wdE (l : List UInt8) : Nat := if wdOk l = true then 0 else 4
theorem wdV_ks (l : List UInt8) : (wdV l).ks = (wdM l).map fun (k : Nat) => (k : Int) := by
  unfold wdV wdM
  split <;> rfl
/-- What reading an entry comes to. -/
def WnIs (w : World) (l : List UInt8) (e : Ending) (w' : World) : Prop :=
  ∃ v', e = .returned (.tuple #[Lo.enV (wdV l) v', .int .i64 (wdE l : Nat)]) ∧ OwnI w' w.heap.size v' (wdM l)
theorem WnIs.bad {w w' : World} {l : List UInt8} (h : wdOk l = false) : WnIs w l (.returned (.tuple #[.agg #[.int .u64 0, .int .u64 0, .int .u8 0, .string ⟨#[]⟩, .slice none 0 0], .int .i64 4])) w' := by
  refine ⟨.slice none 0 0, ?_, ?_⟩
  · unfold wdV wdE; rw [h]; rfl
  · unfold wdM; rw [h]; exact OwnI.nil _ _
theorem WnIs.ok {w w' : World} {l : List UInt8} (h : wdOk l = true) {v' : Value} (ho : OwnI w' w.heap.size v' (wdMs l)) : WnIs w l (.returned (.tuple #[.agg #[.int .u64 (tnN l : Nat), .int .u64 (tnN (tnR l) : Nat), .int .u8 (kd (tnN (tnR (tnR l))) : Nat), .string (bs (ttT (wdl l 3))), v'], .int .i64 0])) w' := by
  refine ⟨v', ?_, ?_⟩
  · unfold wdV wdE; rw [h]; rfl
  · unfold wdM; rw [h]; exact ho
def zE : List Value := [.int .u64 0, .int .u64 0, .int .u8 0, .string ⟨#[]⟩, .slice none 0 0]
theorem ints_R {w : World} {B : Nat} {v : Value} {ks : List Int} (h : Dk.Ints w B v ks) (hl : ks.length ≤ 17592186044416) : Lo.IntsR w 0 B v ks := by
  obtain ⟨a, c, rfl, -, h2, h3⟩ := h
  refine ⟨a, c, rfl, hl, h2, fun hp => ?_⟩
  obtain ⟨b, off, rfl, hlt, hc⟩ := h3 hp
  exact ⟨b, off, rfl, Nat.zero_le _, hlt, hc⟩
theorem bodyPost_entry {fn : Func} {p u : Tmp} (h : fn.results = #[.cell p 73, .tmp u]) {R : Ending → World → Prop} {a : Act} {w : World} (B : Nat) (v0 v1 v2 v3 v4 : Value) (hd : a.defers = [])
    (hp : a.tmps.getD p undef = .pointer (some ⟨B, 0, none⟩)) (hx : Bxn w B [v0, v1, v2, v3, v4])
    (hR : R (.returned (.tuple #[.agg #[v0, v1, v2, v3, v4], a.tmps.getD u undef])) w) : bodyPost Try.prog fn R .ret a w :=
  bodyPost_bx2 h B [v0, v1, v2, v3, v4] _ hd hp hx Try.underlying73 rfl (by kernel_rfl) hR
/-- Where the reading stands: what is left, a box of what was read, the box of the result. -/
structure Wst (w : World) (g E : Nat) (l : List UInt8) (b : Bool) (cs rs : List Value) (x : World) : Prop where
  tk : Tk x g l b
  bx : Bxn x E cs
  rb : Bxn x w.heap.size rs
  be : Below w.heap.size w x
  lt : w.heap.size < g
  ge : g < E
theorem Wst.go {w : World} {g E : Nat} {l l2 : List UInt8} {b b2 : Bool} {cs rs : List Value} {x x' : World} (h : Wst w g E l b cs rs x) (ht : Tk x' g l2 b2) (ho : Only g x x') : Wst w g E l2 b2 cs rs x' :=
  ⟨ht, h.bx.only ho (by have := h.ge; omega), h.rb.only ho (by have := h.lt; omega), h.be.trans (ho.below h.be.size (Nat.le_of_lt h.lt)), h.lt, h.ge⟩
theorem Wst.p {w : World} {g E : Nat} {l : List UInt8} {b : Bool} {cs rs : List Value} {x : World} (h : Wst w g E l b cs rs x) (i : Nat) (u : Value) : Wst w g E l b (cs.set i u) rs (x.setCell ⟨E, i, none⟩ u) :=
  ⟨h.tk.far (by have := h.ge; omega) i u, h.bx.set i u, h.rb.apart (by have := h.lt; have := h.ge; omega) i u, h.be.setCell (by have := h.lt; have := h.ge; show w.heap.size ≤ E; omega) _, h.lt, h.ge⟩
theorem Wst.below {w : World} {g E : Nat} {l : List UInt8} {b : Bool} {cs rs : List Value} {x x' : World} (h : Wst w g E l b cs rs x) (hb : Below x.heap.size x x') : Wst w g E l b cs rs x' :=
  ⟨h.tk.below hb h.tk.lt, h.bx.below hb, h.rb.below hb, h.be.trans (hb.mono h.be.size), h.lt, h.ge⟩
set_option maxRecDepth 100000 in
set_option maxHeartbeats 4000000 in
theorem wal_decode (l : List UInt8) (w : World) (hl : l.length ≤ maxLen) :
    Calls Try.prog 84 #[.string (bs l)] w fun e w' => WnIs w l e w' ∧ Below w.heap.size w w' := by
  have HL := Lib.hid hl
  have HBAD := Lib.hid (fun (h : wdOk l = false) w' => WnIs.bad (w := w) (w' := w') h)
  have HGD := Lib.hid (fun (h : wdOk l = true) w' v' ho => WnIs.ok (w := w) (w' := w') h (v' := v') ho)
  clear hl
  go_enter Try.func84, Try.ntmps84
  go_wp2_with (go_at_call 52; go_loud ((with_reducible refine (of_any (bs l) _).mono ?_); rintro e w1 ⟨rfl, hb⟩; have RB := Lib.hid ((Bxn.made w zE 73).below hb); have HB := Lib.hid (((Below.refl _ w).alloc (Nat.le_refl _) (.cells #[.int .u64 0, .int .u64 0, .int .u8 0, .string ⟨#[]⟩, .slice none 0 0] 73)).trans (hb.mono (by simp))); have hz := hb.size; clear hb))
  have hz1 : w.heap.size < w1.heap.size := by simp at hz; omega
  clear hz
  have HW3 : Hid (Wst w w1.heap.size (w1.heap.size + 1) (wdl l 0) (wdb l 0) (wdn l 0) zE ((w1.alloc (.cells #[.string (bs l), .bool false] 54)).alloc (.cells #[.int .u64 0, .int .u64 0, .int .u64 0] 128))) := by
    have h1 : Below w1.heap.size w1 (w1.alloc (.cells #[.string (bs l), .bool false] 54)) := (Below.refl _ _).alloc (Nat.le_refl _) _
    have h2 : Below (w1.alloc (.cells #[.string (bs l), .bool false] 54)).heap.size (w1.alloc (.cells #[.string (bs l), .bool false] 54)) ((w1.alloc (.cells #[.string (bs l), .bool false] 54)).alloc (.cells #[.int .u64 0, .int .u64 0, .int .u64 0] 128)) := (Below.refl _ _).alloc (Nat.le_refl _) _
    refine ⟨(Tk.made _ w1 l false).below h2 (by simp), ?_, (RB.out.below h1).below h2, (HB.out.trans (h1.mono HB.out.size)).trans (h2.mono (Nat.le_trans HB.out.size h1.size)), hz1, Nat.lt_succ_self _⟩
    have := Bxn.made (w1.alloc (.cells #[.string (bs l), .bool false] 54)) (wdn l 0) 128
    rw [World.size_alloc] at this
    exact this
  have HG := Lib.hid hz1
  generalize hW3 : ((w1.alloc (.cells #[.string (bs l), .bool false] 54)).alloc (.cells #[.int .u64 0, .int .u64 0, .int .u64 0] 128)) = W3 at *
  generalize w1.heap.size = g at *
  clear hW3 RB HB
  go_loopg [10] 3 (fun gg i wx => ∃ k : Nat, k + gg = 3 ∧ i = .int .i64 k ∧ Aside (Wst w g (g + 1) (wdl l k) (wdb l k) (wdn l k) zE wx))
  case atStart => exact ⟨0, by omega, rfl, HW3.out⟩
  case round =>
    obtain ⟨k2, hkg, rfl, HA⟩ := hrel
    cases gk with
    | zero =>
      obtain rfl : k2 = 3 := by omega
      clear hkg
      have HW := Lib.hid HA.out
      have HL1 := Lib.hid (Nat.le_trans (wdl_length l 3) HL.out)
      have a0 : wr.cell? ⟨g + 1, 0, none⟩ = some (.int .u64 (tnN l : Nat)) := HW.out.bx.cell 0
      have a1 : wr.cell? ⟨g + 1, 1, none⟩ = some (.int .u64 (tnN (tnR l) : Nat)) := HW.out.bx.cell 1
      have a2 : wr.cell? ⟨g + 1, 2, none⟩ = some (.int .u64 (tnN (tnR (tnR l)) : Nat)) := HW.out.bx.cell 2
      have hge : g + 1 < wr.heap.size := HW.out.bx.lt
      clear HA
      have K1 := Lib.hid (fun z => kind_of (tnN (tnR (tnR l))) z (tnN_lt _))
      go_upto_region 8 with (fail)
      go_region_held3 (fun z => z.cell? ⟨g + 1, 0, none⟩ = some (.int .u64 (tnN l : Nat)) ∧ z.cell? ⟨g + 1, 1, none⟩ = some (.int .u64 (tnN (tnR l) : Nat)) ∧ z.cell? ⟨g + 1, 2, none⟩ = some (.int .u64 (tnN (tnR (tnR l)) : Nat))) (go_keep)
        ((go_at_call 96; (with_reducible refine (K1.out _).mono ?_); rintro e w7 ⟨rfl, rfl⟩))
      all_goals
        have HW5 : Hid (Wst w g wr.heap.size (wdl l 3) (wdb l 3) [.int .u64 (tnN l : Nat), .int .u64 (tnN (tnR l) : Nat), .int .u8 (kd (tnN (tnR (tnR l))) : Nat), .string ⟨#[]⟩, .slice none 0 0] zE ((wr.alloc (.cells #[.int .u64 (tnN l : Nat), .int .u64 (tnN (tnR l) : Nat), .int .u8 (kd (tnN (tnR (tnR l))) : Nat), .string ⟨#[]⟩, .slice none 0 0] 73)).drew)) := by
          have h1 : Below wr.heap.size wr (wr.alloc (.cells #[.int .u64 (tnN l : Nat), .int .u64 (tnN (tnR l) : Nat), .int .u8 (kd (tnN (tnR (tnR l))) : Nat), .string ⟨#[]⟩, .slice none 0 0] 73)).drew := ((Below.refl _ _).alloc (Nat.le_refl _) _).drew
          refine ⟨HW.out.tk.below h1 HW.out.tk.lt, ?_, HW.out.rb.below h1, HW.out.be.trans (h1.mono HW.out.be.size), hz1, by omega⟩
          exact Bxn.made wr _ _
        generalize ((wr.alloc (.cells #[.int .u64 (tnN l : Nat), .int .u64 (tnN (tnR l) : Nat), .int .u8 (kd (tnN (tnR (tnR l))) : Nat), .string ⟨#[]⟩, .slice none 0 0] 73)).drew) = x5 at *
        generalize wr.heap.size = E at *
        have c3 : x5.cell? ⟨E, 3, none⟩ = some (.string ⟨#[]⟩) := HW5.out.bx.cell 3
        have f3 := HW5.out.bx.fz 3
        clear a0 a1 a2 HW K1
        go_wp2_with (go_at_call 85; go_loud ((with_reducible refine (text_part g (wdl l 3) _ _ HW5.out.tk HL1.out).mono ?_); rintro e w6 ⟨rfl, ht, ho⟩; have HW6 := Lib.hid (HW5.out.go ht ho); have d3 : w6.cell? ⟨E, 3, none⟩ = some (.string ⟨#[]⟩) := HW6.out.bx.cell 3; have g3 := HW6.out.bx.fz 3; clear ht ho c3 f3))
        have HW7 := Lib.hid (HW6.out.p 3 (.string (bs (ttT (wdl l 3)))))
        have HLX : Hid ((wx l).length ≤ maxLen) := Nat.le_trans (ttR_length _) HL1.out
        have HES : Hid (E + 1 ≤ (w6.setCell ⟨E, 3, none⟩ (.string (bs (ttT (wdl l 3))))).heap.size) := HW7.out.bx.lt
        go_wp2_with fail
        refine (members_take g (wx l) _ _ HW7.out.tk HLX.out).mono ?_
        rintro e w7 ⟨v7, rfl, hown, ht, ho⟩
        have HW8 := Lib.hid (HW7.out.go ht ho)
        have HO8 : Hid (OwnI w7 (E + 1) v7 (wdMs l)) := hown.less HES.out
        have c4 : w7.cell? ⟨E, 4, none⟩ = some (.slice none 0 0) := HW8.out.bx.cell 4
        have f4 := HW8.out.bx.fz 4
        clear hown ht ho d3 g3
        obtain ⟨a7, k7, rfl⟩ := HO8.out.slice
        have HW9 := Lib.hid (HW8.out.p 4 (.slice a7 (wdMs l).length k7))
        have HO9 := Lib.hid (HO8.out.put (p := E) (Nat.lt_succ_self _) 4 (.slice a7 (wdMs l).length k7))
        have HOK : Hid (wdOk l = ((!(mbB (wx l) (upV 7 (wx l))) && (mbR (wx l) (upV 7 (wx l))).isEmpty) && Lo.enB (wdN l))) := rfl
        have HM7 : Hid (∀ x ∈ wdMs l, x ≤ 7) := mbL_le _ _
        have hlen : (wdMs l).length ≤ 7 := by unfold wdMs; rw [mbL_length]; exact upV_le 7 _
        have HLEN := Lib.hid hlen
        have HEN : Hid (wdN l = ⟨tnN l, tnN (tnR l), kd (tnN (tnR (tnR l))), bs (ttT (wdl l 3)), (wdMs l).map fun (k : Nat) => (k : Int)⟩) := rfl
        go_wp2_with fail
        refine (done_part g _ _ _ HW9.out.tk).mono ?_
        rintro e w9 ⟨rfl, rfl⟩
        generalize hq : (!(mbB (wx l) (upV 7 (wx l))) && (mbR (wx l) (upV 7 (wx l))).isEmpty) = q at *
        clear hq c4 f4
        generalize hx9 : w7.setCell ⟨E, 4, none⟩ (.slice a7 (wdMs l).length k7) = x9 at *
        clear hx9
        obtain ⟨r0, r1, r2, r3, r4⟩ : x9.cell? ⟨w.heap.size, 0, none⟩ = some (.int .u64 0) ∧ x9.cell? ⟨w.heap.size, 1, none⟩ = some (.int .u64 0) ∧ x9.cell? ⟨w.heap.size, 2, none⟩ = some (.int .u8 0) ∧ x9.cell? ⟨w.heap.size, 3, none⟩ = some (.string ⟨#[]⟩) ∧ x9.cell? ⟨w.heap.size, 4, none⟩ = some (.slice none 0 0) := ⟨HW9.out.rb.cell 0, HW9.out.rb.cell 1, HW9.out.rb.cell 2, HW9.out.rb.cell 3, HW9.out.rb.cell 4⟩
        obtain ⟨f0, f1, f2, f3, f4⟩ : x9.frozen? ⟨w.heap.size, 0, none⟩ = false ∧ x9.frozen? ⟨w.heap.size, 1, none⟩ = false ∧ x9.frozen? ⟨w.heap.size, 2, none⟩ = false ∧ x9.frozen? ⟨w.heap.size, 3, none⟩ = false ∧ x9.frozen? ⟨w.heap.size, 4, none⟩ = false := ⟨HW9.out.rb.fz 0, HW9.out.rb.fz 1, HW9.out.rb.fz 2, HW9.out.rb.fz 3, HW9.out.rb.fz 4⟩
        obtain ⟨c0, c1, c2, c3, c4⟩ : x9.cell? ⟨E, 0, none⟩ = some (.int .u64 (tnN l : Nat)) ∧ x9.cell? ⟨E, 1, none⟩ = some (.int .u64 (tnN (tnR l) : Nat)) ∧ x9.cell? ⟨E, 2, none⟩ = some (.int .u8 (kd (tnN (tnR (tnR l))) : Nat)) ∧ x9.cell? ⟨E, 3, none⟩ = some (.string (bs (ttT (wdl l 3)))) ∧ x9.cell? ⟨E, 4, none⟩ = some (.slice a7 (wdMs l).length k7) := ⟨HW9.out.bx.cell 0, HW9.out.bx.cell 1, HW9.out.bx.cell 2, HW9.out.bx.cell 3, HW9.out.bx.cell 4⟩
        have n1 : ¬ w.heap.size = E := by omega
        have n2 : ¬ E = w.heap.size := by omega
        cases q
        · have HF : Hid (wdOk l = false) := by show _ = _; rw [HOK.out]; rfl
          clear c0 c1 c2 c3 c4
          go_wp2
          refine bodyPost_entry rfl w.heap.size (.int .u64 0) (.int .u64 0) (.int .u8 0) (.string ⟨#[]⟩) (.slice none 0 0) rfl rfl ?_ ?_
          case refine_1 => exact ((((HW9.out.rb.set 0 _).set 1 _).set 2 _).set 3 _).set 4 _
          case refine_2 => exact ⟨HBAD.out HF.out _, ((((HW9.out.be.setCell (by exact Nat.le_refl _) _).setCell (by exact Nat.le_refl _) _).setCell (by exact Nat.le_refl _) _).setCell (by exact Nat.le_refl _) _).setCell (by exact Nat.le_refl _) _⟩
        · have HOI := Lib.hid (ints_R (HO9.out.ints (by omega) (fun k hk => by have := HM7.out k hk; omega)) (by rw [List.length_map]; have := HLEN.out; omega))
          have HC := Lib.hid (Lo.right_any (tnN l) (tnN (tnR l)) (kd (tnN (tnR (tnR l)))) (bs (ttT (wdl l 3))) ((wdMs l).map fun (k : Nat) => (k : Int)) (.slice a7 (wdMs l).length k7) x9 HOI.out)
          rw [← HEN.out] at HC
          cases hr : Lo.enB (wdN l)
          · have HF : Hid (wdOk l = false) := by show _ = _; rw [HOK.out, hr]; rfl
            rw [hr] at HC
            clear hr
            go_wp2_with fail
            refine HC.out.mono ?_
            rintro e wa ⟨rfl, hb⟩
            have HWA := Lib.hid (HW9.out.below hb)
            clear hb c0 c1 c2 c3 c4 r0 r1 r2 r3 r4 f0 f1 f2 f3 f4
            obtain ⟨r0, r1, r2, r3, r4⟩ : wa.cell? ⟨w.heap.size, 0, none⟩ = some (.int .u64 0) ∧ wa.cell? ⟨w.heap.size, 1, none⟩ = some (.int .u64 0) ∧ wa.cell? ⟨w.heap.size, 2, none⟩ = some (.int .u8 0) ∧ wa.cell? ⟨w.heap.size, 3, none⟩ = some (.string ⟨#[]⟩) ∧ wa.cell? ⟨w.heap.size, 4, none⟩ = some (.slice none 0 0) := ⟨HWA.out.rb.cell 0, HWA.out.rb.cell 1, HWA.out.rb.cell 2, HWA.out.rb.cell 3, HWA.out.rb.cell 4⟩
            obtain ⟨f0, f1, f2, f3, f4⟩ : wa.frozen? ⟨w.heap.size, 0, none⟩ = false ∧ wa.frozen? ⟨w.heap.size, 1, none⟩ = false ∧ wa.frozen? ⟨w.heap.size, 2, none⟩ = false ∧ wa.frozen? ⟨w.heap.size, 3, none⟩ = false ∧ wa.frozen? ⟨w.heap.size, 4, none⟩ = false := ⟨HWA.out.rb.fz 0, HWA.out.rb.fz 1, HWA.out.rb.fz 2, HWA.out.rb.fz 3, HWA.out.rb.fz 4⟩
            go_wp2
            refine bodyPost_entry rfl w.heap.size (.int .u64 0) (.int .u64 0) (.int .u8 0) (.string ⟨#[]⟩) (.slice none 0 0) rfl rfl ?_ ?_
            case refine_1 => exact ((((HWA.out.rb.set 0 _).set 1 _).set 2 _).set 3 _).set 4 _
            case refine_2 => exact ⟨HBAD.out HF.out _, ((((HWA.out.be.setCell (by exact Nat.le_refl _) _).setCell (by exact Nat.le_refl _) _).setCell (by exact Nat.le_refl _) _).setCell (by exact Nat.le_refl _) _).setCell (by exact Nat.le_refl _) _⟩
          · have HT : Hid (wdOk l = true) := by show _ = _; rw [HOK.out, hr]; rfl
            rw [hr] at HC
            clear hr
            go_wp2_with fail
            refine HC.out.mono ?_
            rintro e wa ⟨rfl, hb⟩
            have HWA := Lib.hid (HW9.out.below hb)
            have HOA := Lib.hid (HO9.out.below hb)
            clear hb c0 c1 c2 c3 c4 r0 r1 r2 r3 r4 f0 f1 f2 f3 f4
            obtain ⟨r0, r1, r2, r3, r4⟩ : wa.cell? ⟨w.heap.size, 0, none⟩ = some (.int .u64 0) ∧ wa.cell? ⟨w.heap.size, 1, none⟩ = some (.int .u64 0) ∧ wa.cell? ⟨w.heap.size, 2, none⟩ = some (.int .u8 0) ∧ wa.cell? ⟨w.heap.size, 3, none⟩ = some (.string ⟨#[]⟩) ∧ wa.cell? ⟨w.heap.size, 4, none⟩ = some (.slice none 0 0) := ⟨HWA.out.rb.cell 0, HWA.out.rb.cell 1, HWA.out.rb.cell 2, HWA.out.rb.cell 3, HWA.out.rb.cell 4⟩
            obtain ⟨f0, f1, f2, f3, f4⟩ : wa.frozen? ⟨w.heap.size, 0, none⟩ = false ∧ wa.frozen? ⟨w.heap.size, 1, none⟩ = false ∧ wa.frozen? ⟨w.heap.size, 2, none⟩ = false ∧ wa.frozen? ⟨w.heap.size, 3, none⟩ = false ∧ wa.frozen? ⟨w.heap.size, 4, none⟩ = false := ⟨HWA.out.rb.fz 0, HWA.out.rb.fz 1, HWA.out.rb.fz 2, HWA.out.rb.fz 3, HWA.out.rb.fz 4⟩
            obtain ⟨c0, c1, c2, c3, c4⟩ : wa.cell? ⟨E, 0, none⟩ = some (.int .u64 (tnN l : Nat)) ∧ wa.cell? ⟨E, 1, none⟩ = some (.int .u64 (tnN (tnR l) : Nat)) ∧ wa.cell? ⟨E, 2, none⟩ = some (.int .u8 (kd (tnN (tnR (tnR l))) : Nat)) ∧ wa.cell? ⟨E, 3, none⟩ = some (.string (bs (ttT (wdl l 3)))) ∧ wa.cell? ⟨E, 4, none⟩ = some (.slice a7 (wdMs l).length k7) := ⟨HWA.out.bx.cell 0, HWA.out.bx.cell 1, HWA.out.bx.cell 2, HWA.out.bx.cell 3, HWA.out.bx.cell 4⟩
            go_wp2
            refine bodyPost_entry rfl w.heap.size (.int .u64 (tnN l : Nat)) (.int .u64 (tnN (tnR l) : Nat)) (.int .u8 (kd (tnN (tnR (tnR l))) : Nat)) (.string (bs (ttT (wdl l 3)))) (.slice a7 (wdMs l).length k7) rfl rfl ?_ ?_
            case refine_1 => exact ((((HWA.out.rb.set 0 _).set 1 _).set 2 _).set 3 _).set 4 _
            case refine_2 => exact ⟨HGD.out HT.out _ _ ((((((HOA.out.put (p := w.heap.size) (by omega) 0 _).put (p := w.heap.size) (by omega) 1 _).put (p := w.heap.size) (by omega) 2 _).put (p := w.heap.size) (by omega) 3 _).put (p := w.heap.size) (by omega) 4 _).less (by omega)), ((((HWA.out.be.setCell (by exact Nat.le_refl _) _).setCell (by exact Nat.le_refl _) _).setCell (by exact Nat.le_refl _) _).setCell (by exact Nat.le_refl _) _).setCell (by exact Nat.le_refl _) _⟩
    | succ gg =>
      have h3 : k2 = 0 ∨ k2 = 1 ∨ k2 = 2 := by omega
      have HW := Lib.hid HA.out
      clear HA
      rcases h3 with rfl | rfl | rfl
      · obtain rfl : gg = 2 := by omega
        clear hkg
        have HL1 := Lib.hid (Nat.le_trans (wdl_length l 0) HL.out)
        have a0 := HW.out.bx.cell 0
        have a1 := HW.out.bx.fz 0
        go_wp2_with (go_at_call 54; go_loud ((with_reducible refine (number_part g (wdl l 0) _ _ HW.out.tk HL1.out).mono ?_); rintro e w4 ⟨rfl, ht, ho⟩; have HW4 := Lib.hid (HW.out.go ht ho); have b0 := HW4.out.bx.cell 0; have b1 := HW4.out.bx.fz 0; clear ht ho a0 a1))
        go_wp2
        go_roundg 2
        case measure => omega
        case rel => exact ⟨1, by omega, rfl, HW4.out.p 0 _⟩
      · obtain rfl : gg = 1 := by omega
        clear hkg
        have HL1 := Lib.hid (Nat.le_trans (wdl_length l 1) HL.out)
        have a0 := HW.out.bx.cell 1
        have a1 := HW.out.bx.fz 1
        go_wp2_with (go_at_call 54; go_loud ((with_reducible refine (number_part g (wdl l 1) _ _ HW.out.tk HL1.out).mono ?_); rintro e w4 ⟨rfl, ht, ho⟩; have HW4 := Lib.hid (HW.out.go ht ho); have b0 := HW4.out.bx.cell 1; have b1 := HW4.out.bx.fz 1; clear ht ho a0 a1))
        go_wp2
        go_roundg 1
        case measure => omega
        case rel => exact ⟨2, by omega, rfl, HW4.out.p 1 _⟩
      · obtain rfl : gg = 0 := by omega
        clear hkg
        have HL1 := Lib.hid (Nat.le_trans (wdl_length l 2) HL.out)
        have a0 := HW.out.bx.cell 2
        have a1 := HW.out.bx.fz 2
        go_wp2_with (go_at_call 54; go_loud ((with_reducible refine (number_part g (wdl l 2) _ _ HW.out.tk HL1.out).mono ?_); rintro e w4 ⟨rfl, ht, ho⟩; have HW4 := Lib.hid (HW.out.go ht ho); have b0 := HW4.out.bx.cell 2; have b1 := HW4.out.bx.fz 2; clear ht ho a0 a1))
        go_wp2
        go_roundg 0
        case measure => omega
        case rel => exact ⟨3, by omega, rfl, HW4.out.p 2 _⟩
end Hd
end Go.Proofs.Ytlkdjnnlbccjdaa

/-
  AN ENTRY, there and back: what is read of its bytes, and what is read is written as the bytes that it was.
-/
namespace Go.Proofs.Ytlkdjnnlbccjdaa
open Go.RowKit
namespace Hd
open PM
set_option linter.unusedVariables false
theorem upB_no (m : Nat) (l : List UInt8) (h : upB m l = false) : tnW l = 0 ∧ upV m l = tnN l ∧ upR m l = tnR l := by
  unfold upB at h
  by_cases h1 : m < tnN l
  · rw [if_pos h1] at h; cases h
  · rw [if_neg h1] at h
    refine ⟨by simpa using h, ?_, ?_⟩
    · unfold upV; rw [if_neg h1]
    · unfold upR; rw [if_neg h1]
theorem tnW_ne (l : List UInt8) (h : tnW l = 0) : l ≠ [] := by
  rintro rfl
  simp [tnW] at h
theorem mb_forth2 (m : List UInt8) : ∀ k, mbB m k = false → num (upV 7 m) ++ (mbL m k).flatMap num ++ mbR m k = m
  | 0, h => by
    obtain ⟨h1, h2, h3⟩ := upB_no 7 m h
    show num (upV 7 m) ++ [] ++ upR 7 m = m
    rw [h2, h3, List.append_nil]
    exact tn_forth m h1
  | k + 1, h => by
    obtain ⟨h1, h2, h3⟩ := upB_no 7 (mbR m k) h
    have ih := mb_forth m k (tnW_ne _ h1)
    have e := tn_forth (mbR m k) h1
    show num (upV 7 m) ++ (mbL m k ++ [upV 7 (mbR m k)]).flatMap num ++ upR 7 (mbR m k) = m
    rw [List.flatMap_append, h2, h3]
    conv => rhs; rw [← ih, ← e]
    simp
theorem kd_lt (n : Nat) : kd n < 4 := by unfold kd; split <;> omega
theorem kd_pos (n : Nat) (h : kd n ≠ 0) : kd n = n := by
  by_cases h4 : 4 ≤ n
  · exact absurd (show kd n = 0 by unfold kd; rw [if_pos h4]) h
  · unfold kd; rw [if_neg h4]
theorem en_kind {e : Lo.En} (h : Lo.enB e = true) : e.k ≠ 0 := by
  intro h0
  have h1 := Lo.en_pos h
  unfold Lo.enB at h
  rw [if_neg h1, if_neg (by omega), if_neg (by omega), if_neg (by omega)] at h
  cases h
theorem map_back (ms : List Nat) : (ms.map fun (k : Nat) => (k : Int)).map Int.toNat = ms := by
  rw [List.map_map]
  conv => rhs; rw [← List.map_id ms]
  rfl
/-- What is read as an entry is a right one's bytes. -/
theorem wd_forth (l : List UInt8) (h : wdOk l = true) : weB (wdN l) = l ∧ Lo.enB (wdN l) = true := by
  unfold wdOk at h
  rw [Bool.and_eq_true] at h
  obtain ⟨h1, hen⟩ := h
  refine ⟨?_, hen⟩
  unfold wdDn at h1
  rw [Bool.and_eq_true] at h1
  have hB : mbB (wx l) (upV 7 (wx l)) = false := by simpa using h1.1
  have hR : mbR (wx l) (upV 7 (wx l)) = [] := List.isEmpty_iff.1 h1.2
  have hM := mb_forth2 (wx l) (upV 7 (wx l)) hB
  rw [hR, List.append_nil] at hM
  have hxne : wx l ≠ [] := by
    intro e
    rw [e] at hM
    simp [num] at hM
  have hW : ttW (wdl l 3) = 0 := by
    apply Classical.byContradiction
    intro hw
    apply hxne
    show ttR (wdl l 3) = []
    unfold ttR
    rw [if_neg hw]
  have hT : txt (ttT (wdl l 3)) ++ wx l = wdl l 3 := tt_forth (wdl l 3) hW
  have h3ne : wdl l 3 ≠ [] := by
    intro e
    rw [e, ttW_nil] at hW
    omega
  have h3 : num (tnN (wdl l 2)) ++ wdl l 3 = wdl l 2 := tn_forth (wdl l 2) (tnR_ne _ h3ne)
  have h2ne : wdl l 2 ≠ [] := by intro e; rw [e] at h3; simp [num] at h3
  have h2 : num (tnN (wdl l 1)) ++ wdl l 2 = wdl l 1 := tn_forth (wdl l 1) (tnR_ne _ h2ne)
  have h1ne : wdl l 1 ≠ [] := by intro e; rw [e] at h2; simp [num] at h2
  have h0 : num (tnN l) ++ wdl l 1 = l := tn_forth l (tnR_ne _ h1ne)
  have hk := kd_pos _ (en_kind hen)
  have eL : (wdMs l).length = upV 7 (wx l) := mbL_length _ _
  unfold weB
  have ek : (wdN l).k = tnN (wdl l 2) := hk
  have eks : (wdN l).ks.map Int.toNat = wdMs l := map_back _
  rw [ek, eks]
  show num (tnN l) ++ num (tnN (wdl l 1)) ++ num (tnN (wdl l 2)) ++ txt (bs (ttT (wdl l 3))).data.toList ++ mbs (wdMs l) = l
  have hmb : mbs (wdMs l) = wx l := by unfold mbs; rw [eL]; exact hM
  rw [bs_data, hmb, List.append_assoc, hT, List.append_assoc, h3, List.append_assoc, h2, h0]
theorem up_backB (n : Nat) (h : n ≤ 7) (r : List UInt8) : upB 7 (num n ++ r) = false := by
  obtain ⟨h1, h2, h3⟩ := tn_back n (by omega) r
  unfold upB
  rw [h2, if_neg (by omega), h1]; rfl
theorem mb_backB (ms : List Nat) (hn : ms.length ≤ 7) (h7 : ∀ m ∈ ms, m ≤ 7) (r : List UInt8) : ∀ k, k ≤ ms.length → mbB (mbs ms ++ r) k = false
  | 0, _ => by
    show upB 7 (mbs ms ++ r) = false
    unfold mbs
    rw [List.append_assoc]
    exact up_backB ms.length hn _
  | k + 1, hk => by
    obtain ⟨h1, h2⟩ := mb_back ms hn h7 r k (by omega)
    have hlt : k < ms.length := by omega
    have e : (ms.drop k).flatMap num ++ r = num ms[k] ++ ((ms.drop (k + 1)).flatMap num ++ r) := by
      rw [List.drop_eq_getElem_cons hlt, List.flatMap_cons, List.append_assoc]
    show upB 7 (mbR (mbs ms ++ r) k) = false
    rw [h2, e]
    exact up_backB ms[k] (h7 _ (List.getElem_mem hlt)) _
/-- What is read of a right entry's bytes, and more behind them. -/
theorem wd_back (e : Lo.En) (r : List UInt8) (hi : e.i < 2 ^ 64) (ht : e.t < 2 ^ 64) (h : Lo.enB e = true) : wdOk (weB e ++ r) = r.isEmpty ∧ wdN (weB e ++ r) = e ∧ (wdMs (weB e ++ r)) = e.ks.map Int.toNat := by
  obtain ⟨f1, f2, f3, f4, f5⟩ := en_fits h
  have hm : (e.ks.map Int.toNat).map (fun (k : Nat) => (k : Int)) = e.ks := toNat_map e.ks f1
  have hn : (e.ks.map Int.toNat).length ≤ 7 := by rw [List.length_map]; omega
  have h7 : ∀ m ∈ e.ks.map Int.toNat, m ≤ 7 := by
    intro m hm
    obtain ⟨k, hk, rfl⟩ := List.mem_map.1 hm
    have := f1 k hk
    omega
  generalize hms : e.ks.map Int.toNat = ms at *
  have hw : weB e ++ r = num e.i ++ (num e.t ++ (num e.k ++ (txt e.d.data.toList ++ (mbs ms ++ r)))) := by unfold weB; rw [hms]; simp only [List.append_assoc]
  obtain ⟨a1, a2, a3⟩ := tn_back e.i hi (num e.t ++ (num e.k ++ (txt e.d.data.toList ++ (mbs ms ++ r))))
  obtain ⟨b1, b2, b3⟩ := tn_back e.t ht (num e.k ++ (txt e.d.data.toList ++ (mbs ms ++ r)))
  obtain ⟨c1, c2, c3⟩ := tn_back e.k (by omega) (txt e.d.data.toList ++ (mbs ms ++ r))
  obtain ⟨t1, t2, t3⟩ := tt_back e.d.data.toList (mbs ms ++ r) (by show ¬ 65536 < e.d.size; omega)
  have w1 : wdl (weB e ++ r) 1 = num e.t ++ (num e.k ++ (txt e.d.data.toList ++ (mbs ms ++ r))) := by show tnR (weB e ++ r) = _; rw [hw, a3]
  have w2 : wdl (weB e ++ r) 2 = num e.k ++ (txt e.d.data.toList ++ (mbs ms ++ r)) := by show tnR (wdl _ 1) = _; rw [w1, b3]
  have w3 : wdl (weB e ++ r) 3 = txt e.d.data.toList ++ (mbs ms ++ r) := by show tnR (wdl _ 2) = _; rw [w2, c3]
  have hx : wx (weB e ++ r) = mbs ms ++ r := by unfold wx; rw [w3, t3]
  have hup : upV 7 (mbs ms ++ r) = ms.length := by
    unfold mbs
    rw [List.append_assoc]
    exact (up_back ms.length hn _).1
  obtain ⟨m1, m2⟩ := mb_back ms hn h7 r ms.length (Nat.le_refl _)
  have hMs : wdMs (weB e ++ r) = ms := by unfold wdMs; rw [hx, hup, m1, List.take_length]
  have hN : wdN (weB e ++ r) = e := by
    obtain ⟨i, t, k, d, ks⟩ := e
    unfold wdN
    rw [hMs, w3, t2, bs_of]
    have e1 : tnN (weB ⟨i, t, k, d, ks⟩ ++ r) = i := by rw [hw, a2]
    have e2 : tnN (tnR (weB ⟨i, t, k, d, ks⟩ ++ r)) = t := by show tnN (wdl _ 1) = _; rw [w1, b2]
    have e3 : tnN (tnR (tnR (weB ⟨i, t, k, d, ks⟩ ++ r))) = k := by show tnN (wdl _ 2) = _; rw [w2, c2]
    rw [e1, e2, e3, hm]
    have : kd k = k := by unfold kd; rw [if_neg (by simp only at f4; omega)]
    rw [this]
  refine ⟨?_, hN, hMs⟩
  unfold wdOk wdDn
  rw [hN, h, hx, hup, m2, mb_backB ms hn h7 r _ (Nat.le_refl _), List.drop_length]
  simp
theorem wd_whole (e : Lo.En) (hi : e.i < 2 ^ 64) (ht : e.t < 2 ^ 64) (h : Lo.enB e = true) : wdOk (weB e) = true ∧ wdV (weB e) = e ∧ wdM (weB e) = e.ks.map Int.toNat ∧ wdE (weB e) = 0 := by
  have h0 := wd_back e [] hi ht h
  rw [List.append_nil] at h0
  obtain ⟨h1, h2, h3⟩ := h0
  have h1' : wdOk (weB e) = true := h1
  refine ⟨h1', ?_, ?_, ?_⟩
  · unfold wdV; rw [if_pos h1', h2]
  · unfold wdM; rw [if_pos h1', h3]
  · unfold wdE; rw [if_pos h1']
theorem wdM_ok (l : List UInt8) : (wdM l).length ≤ 7 ∧ ∀ m ∈ wdM l, m ≤ 7 := by
  unfold wdM
  split
  · refine ⟨?_, mbL_le _ _⟩
    unfold wdMs
    rw [mbL_length]
    exact upV_le 7 _
  · exact ⟨by simp, by simp⟩
theorem wdV_lt (l : List UInt8) : (wdV l).i < 2 ^ 64 ∧ (wdV l).t < 2 ^ 64 ∧ (wdV l).k < 4 := by
  unfold wdV
  split
  · exact ⟨tnN_lt l, tnN_lt _, kd_lt _⟩
  · exact ⟨by simp [noE], by simp [noE], by simp [noE]⟩
theorem weB_len {e : Lo.En} (h : Lo.enB e = true) (hi : e.i < 2 ^ 64) (ht : e.t < 2 ^ 64) : (weB e).length ≤ 4300 := by
  obtain ⟨f1, f2, f3, f4, f5⟩ := en_fits h
  have l1 := num_le9 e.i hi
  have l2 := num_le9 e.t ht
  have l3 := num_le9 e.k (by omega)
  have l5 := mbs_len (e.ks.map Int.toNat) (by rw [List.length_map]; omega) (by
    intro m hm
    obtain ⟨k, hk, rfl⟩ := List.mem_map.1 hm
    have := f1 k hk
    omega)
  have l4 : (txt e.d.data.toList).length ≤ 4105 := by
    unfold txt
    rw [List.length_append]
    have := num_le9 e.d.data.toList.length (by show e.d.size < _; omega)
    have e : e.d.data.toList.length = e.d.size := rfl
    omega
  rw [List.length_map] at l5
  unfold weB
  simp only [List.length_append]
  omega
end Hd
end Go.Proofs.Ytlkdjnnlbccjdaa
