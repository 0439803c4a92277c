/-
  THE DOCUMENT'S ANSWER for snapshots: gafferref05.nothing, Check, Bytes, Encode, Take, Decode.
-/
import Derived.Test.YtgahilemlnoabaaGreatSnapRt
namespace Go.Proofs.YtgahilemlnoabaaGreat
open Go.RowKit
namespace Hd
open PM
set_option maxHeartbeats 2000000 in
theorem nothing_ref (i t n : Nat) (a : Option Addr) (c : Nat) (d : ByteArray) (w : World) :
    Calls Tryz.prog 57 #[.agg #[.int .u64 (i : Nat), .int .u64 (t : Nat), .slice a n c, .string d]] w fun e w' => e = .returned (.bool (isN i t n d)) ∧ Below w.heap.size w w' := by
  have HN : Hid (isN i t n d = (decide (i = 0) && decide (t = 0) && decide (n = 0) && d.toList.isEmpty)) := rfl
  generalize isN i t n d = r at *
  by_cases h1 : i = 0
  · subst h1
    by_cases h2 : t = 0
    · subst h2
      by_cases h3 : n = 0
      · subst h3
        by_cases h4 : d.toList = []
        · have HR : Hid (r = true) := HN.out.trans (by simp [h4])
          go_enter Tryz.func57, Tryz.ntmps57
          go_wp2
          go_ret
          exact ⟨by rw [HR.out]; rfl, (Below.refl _ _).alloc (Nat.le_refl _) _⟩
        · have h4' : d.toList.isEmpty = false := by rw [← Bool.not_eq_true, List.isEmpty_iff]; exact h4
          have HR : Hid (r = false) := HN.out.trans (by simp [h4'])
          go_enter Tryz.func57, Tryz.ntmps57
          go_wp2
          go_ret
          exact ⟨by rw [HR.out]; rfl, (Below.refl _ _).alloc (Nat.le_refl _) _⟩
      · have h3' : ¬ ((n : Int) = 0) := by omega
        have h3'' : ((n : Int) == 0) = false := by simp; omega
        have HR : Hid (r = false) := HN.out.trans (by simp [h3])
        clear h3
        go_enter Tryz.func57, Tryz.ntmps57
        go_wp2
        go_ret
        exact ⟨by rw [HR.out]; rfl, (Below.refl _ _).alloc (Nat.le_refl _) _⟩
    · have h2' : ¬ ((t : Int) = 0) := by omega
      have h2'' : ((t : Int) == 0) = false := by simp; omega
      have HR : Hid (r = false) := HN.out.trans (by simp [h2])
      clear h2
      go_enter Tryz.func57, Tryz.ntmps57
      go_wp2
      go_ret
      exact ⟨by rw [HR.out]; rfl, (Below.refl _ _).alloc (Nat.le_refl _) _⟩
  · have h1' : ¬ ((i : Int) = 0) := by omega
    have h1'' : ((i : Int) == 0) = false := by simp; omega
    have HR : Hid (r = false) := HN.out.trans (by simp [h1])
    clear h1
    go_enter Tryz.func57, Tryz.ntmps57
    go_wp2
    go_ret
    exact ⟨by rw [HR.out]; rfl, (Below.refl _ _).alloc (Nat.le_refl _) _⟩
set_option maxHeartbeats 2000000 in
theorem check_ref5 (i t : Nat) (v : Value) (ks : List Int) (d : ByteArray) (w : World) (h : Dk.Ints w w.heap.size v ks) :
    Calls Tryz.prog 24 #[.agg #[.int .u64 (i : Nat), .int .u64 (t : Nat), v, .string d]] w fun e w' => e = .returned (.int .i64 (chkS i t ks d : Nat)) ∧ Below w.heap.size w w' := by
  have hx := h.on ((Below.refl _ w).alloc (Nat.le_refl _) (.cells #[.int .u64 (i : Nat), .int .u64 (t : Nat), v, .string d] 28))
  have HM := Lib.hid (fun z hb => members_ref v ks z (hx.on hb))
  obtain ⟨a, c, rfl, -⟩ := h
  have HN := Lib.hid (fun w => nothing_ref i t ks.length a c d w)
  have HR : Hid (chkS i t ks d = if isN i t ks.length d = true then 0 else if rmB ks = true then (if 64512 < d.size then 4 else 0) else 4) := rfl
  generalize chkS i t ks d = r at *
  clear hx
  cases h1 : isN i t ks.length d
  · rw [h1] at HN
    cases h2 : rmB ks
    · rw [h2] at HM
      have HR2 : Hid (r = 4) := HR.out.trans (by rw [h1, h2]; rfl)
      clear h1 h2
      go_enter Tryz.func24, Tryz.ntmps24
      go_wp2_with (go_at_call 57; go_loud ((with_reducible refine (HN.out _).mono ?_); rintro e w1 ⟨rfl, hb⟩; have HB1 := Lib.hid hb; have d2 := hb.cell (p := ⟨w.heap.size, 2, none⟩) (by simp); have d3 := hb.cell (p := ⟨w.heap.size, 3, none⟩) (by simp); simp [go_sem] at d2 d3; clear hb))
      go_wp2_with (go_at_call 58; go_loud ((with_reducible refine (HM.out _ HB1.out).mono ?_); rintro e w2 ⟨rfl, hb⟩; have HB := Lib.hid (((Below.refl _ w).alloc (Nat.le_refl _) _).trans ((HB1.out.mono (by simp)).trans (hb.mono (by have := HB1.out.size; simp at this; omega)))); clear hb))
      go_wp2
      go_ret
      exact ⟨by rw [HR2.out]; rfl, HB.out⟩
    · rw [h2] at HM
      by_cases h3 : 64512 < d.size
      · have HR2 : Hid (r = 4) := HR.out.trans (by rw [h1, h2, if_pos h3]; rfl)
        clear h1 h2
        have h3' : ¬ (d.size : Int) ≤ 64512 := by omega
        have h3'' : decide ((d.size : Int) ≤ 64512) = false := by simpa using h3'
        have h3a : (64512 : Int) < (d.size : Int) := by omega
        clear h3
        go_enter Tryz.func24, Tryz.ntmps24
        go_wp2_with (go_at_call 57; go_loud ((with_reducible refine (HN.out _).mono ?_); rintro e w1 ⟨rfl, hb⟩; have HB1 := Lib.hid hb; have d2 := hb.cell (p := ⟨w.heap.size, 2, none⟩) (by simp); have d3 := hb.cell (p := ⟨w.heap.size, 3, none⟩) (by simp); simp [go_sem] at d2 d3; clear hb))
        go_wp2_with (go_at_call 58; go_loud ((with_reducible refine (HM.out _ HB1.out).mono ?_); rintro e w2 ⟨rfl, hb⟩; have d4 := (hb.cell (p := ⟨w.heap.size, 3, none⟩) (by have := HB1.out.size; simp at this; show w.heap.size < _; omega)).trans d3; have HB := Lib.hid (((Below.refl _ w).alloc (Nat.le_refl _) _).trans ((HB1.out.mono (by simp)).trans (hb.mono (by have := HB1.out.size; simp at this; omega)))); clear hb))
        go_wp2
        go_ret
        exact ⟨by rw [HR2.out]; rfl, HB.out⟩
      · have HR2 : Hid (r = 0) := HR.out.trans (by rw [h1, h2, if_neg h3]; rfl)
        clear h1 h2
        have h3' : (d.size : Int) ≤ 64512 := by omega
        have h3'' : ¬ (64512 : Int) < (d.size : Int) := by omega
        clear h3
        go_enter Tryz.func24, Tryz.ntmps24
        go_wp2_with (go_at_call 57; go_loud ((with_reducible refine (HN.out _).mono ?_); rintro e w1 ⟨rfl, hb⟩; have HB1 := Lib.hid hb; have d2 := hb.cell (p := ⟨w.heap.size, 2, none⟩) (by simp); have d3 := hb.cell (p := ⟨w.heap.size, 3, none⟩) (by simp); simp [go_sem] at d2 d3; clear hb))
        go_wp2_with (go_at_call 58; go_loud ((with_reducible refine (HM.out _ HB1.out).mono ?_); rintro e w2 ⟨rfl, hb⟩; have d4 := (hb.cell (p := ⟨w.heap.size, 3, none⟩) (by have := HB1.out.size; simp at this; show w.heap.size < _; omega)).trans d3; have HB := Lib.hid (((Below.refl _ w).alloc (Nat.le_refl _) _).trans ((HB1.out.mono (by simp)).trans (hb.mono (by have := HB1.out.size; simp at this; omega)))); clear hb))
        go_wp2
        go_ret
        exact ⟨by rw [HR2.out]; rfl, HB.out⟩
  · rw [h1] at HN
    have HR2 : Hid (r = 0) := HR.out.trans (by rw [h1]; rfl)
    clear h1
    go_enter Tryz.func24, Tryz.ntmps24
    go_wp2_with (go_at_call 57; go_loud ((with_reducible refine (HN.out _).mono ?_); rintro e w1 ⟨rfl, hb⟩; have HB := Lib.hid (((Below.refl _ w).alloc (Nat.le_refl _) _).trans (hb.mono (by simp))); clear hb))
    go_wp2
    go_ret
    exact ⟨by rw [HR2.out]; rfl, HB.out⟩
set_option maxRecDepth 100000 in
set_option maxHeartbeats 1000000 in
theorem bytes_ref (i t : Nat) (v : Value) (ks : List Int) (d : ByteArray) (w : World) (h : Dk.Ints w w.heap.size v ks) (hi : i < 2 ^ 64) (ht : t < 2 ^ 64) (h0 : chkS i t ks d = 0) :
    Calls Tryz.prog 27 #[.agg #[.int .u64 (i : Nat), .int .u64 (t : Nat), v, .string d]] w fun e w' => e = .returned (.string (bs (snB i t (ks.map Int.toNat) d))) ∧ Below w.heap.size w w' := by
  have HI := Lib.hid h
  obtain ⟨a, c, rfl, -⟩ := h
  obtain ⟨hk7, hk8, hd⟩ := chk_ms i t ks d h0
  have G1 := fun w => PackRefNum.number_ref i w hi
  have G2 := fun w => PackRefNum.number_ref t w ht
  have hm : ∀ m ∈ ks.map Int.toNat, m < 2 ^ 63 := by
    intro m hm
    obtain ⟨k, hk, rfl⟩ := List.mem_map.1 hm
    have := hk7 k hk
    omega
  have G3 := fun w (hw : Dk.Ints w w.heap.size (.slice a ks.length c) ks) => ints_ref (.slice a ks.length c) (ks.map Int.toNat) w (by rw [toNat_map ks hk7]; exact hw) (by rw [List.length_map]; omega) hm
  have G4 := fun w => PackText.text_ref d w (by show d.size ≤ 140737488351232; omega)
  unfold PackText.txtB at G4
  have l1 := num_le9 i hi
  have l2 := num_le9 t ht
  have l3 := mbs_len (ks.map Int.toNat) (by rw [List.length_map]; omega) hm
  have l4 : (txt d.data.toList).length ≤ 64600 := by
    unfold txt
    rw [List.length_append]
    have := num_le9 d.data.toList.length (by show d.size < _; omega)
    have e : d.data.toList.length = d.size := rfl
    omega
  rw [List.length_map] at l3
  have eB : snB i t (ks.map Int.toNat) d = num i ++ num t ++ mbs (ks.map Int.toNat) ++ txt d.data.toList := rfl
  rw [eB, ← bs_append, ← bs_append, ← bs_append]
  have s1 : (bs (num i)).size ≤ 9 := by rw [bs_size]; exact l1
  have s2 : (bs (num t)).size ≤ 9 := by rw [bs_size]; exact l2
  have s3 : (bs (mbs (ks.map Int.toNat))).size ≤ 100 := by rw [bs_size]; omega
  have s4 : (bs (txt d.data.toList)).size ≤ 64600 := by rw [bs_size]; exact l4
  clear l1 l2 l3 l4 eB h0 hk7 hk8 hd hm
  generalize bs (num i) = q1 at *
  generalize bs (num t) = q2 at *
  generalize bs (mbs (ks.map Int.toNat)) = q3 at *
  generalize bs (txt d.data.toList) = q4 at *
  have z1 : q1.size + q2.size ≤ 9223372036854775807 := by omega
  have z2 : q1.size + q2.size + q3.size ≤ 9223372036854775807 := by omega
  have z3 : q1.size + q2.size + q3.size + q4.size ≤ 9223372036854775807 := by omega
  have z1' : ¬ 9223372036854775807 < q1.size + q2.size := by omega
  have z2' : ¬ 9223372036854775807 < q1.size + q2.size + q3.size := by omega
  have z3' : ¬ 9223372036854775807 < q1.size + q2.size + q3.size + q4.size := by omega
  have y1 : q1.size + q2.size ≤ maxLen := by unfold maxLen; omega
  have y2 : q1.size + q2.size + q3.size ≤ maxLen := by unfold maxLen; omega
  have y3 : q1.size + q2.size + q3.size + q4.size ≤ maxLen := by unfold maxLen; omega
  clear s1 s2 s3 s4
  have L0 : Hid (∀ z, (z.cell? ⟨w.heap.size, 0, none⟩ = some (.int .u64 (i : Nat)) ∧ z.cell? ⟨w.heap.size, 1, none⟩ = some (.int .u64 (t : Nat)) ∧ z.cell? ⟨w.heap.size, 2, none⟩ = some (.slice a ks.length c) ∧ z.cell? ⟨w.heap.size, 3, none⟩ = some (.string d) ∧ Hid (Below w.heap.size w z ∧ w.heap.size + 1 ≤ z.heap.size)) → ∀ z', Below z.heap.size z z' → (z'.cell? ⟨w.heap.size, 0, none⟩ = some (.int .u64 (i : Nat)) ∧ z'.cell? ⟨w.heap.size, 1, none⟩ = some (.int .u64 (t : Nat)) ∧ z'.cell? ⟨w.heap.size, 2, none⟩ = some (.slice a ks.length c) ∧ z'.cell? ⟨w.heap.size, 3, none⟩ = some (.string d) ∧ Hid (Below w.heap.size w z' ∧ w.heap.size + 1 ≤ z'.heap.size))) := by
    intro z h z' hb
    obtain ⟨a0, a1, a2, a3, hS⟩ := h
    have hz := hS.out.2
    have k : ∀ j u, z.cell? ⟨w.heap.size, j, none⟩ = some u → z'.cell? ⟨w.heap.size, j, none⟩ = some u := fun j u hu => (hb.cell (by show w.heap.size < _; omega)).trans hu
    exact ⟨k _ _ a0, k _ _ a1, k _ _ a2, k _ _ a3, hS.out.1.trans (hb.mono (by omega)), by have := hb.size; omega⟩
  have KB : Hid (∀ z, (z.cell? ⟨w.heap.size, 0, none⟩ = some (.int .u64 (i : Nat)) ∧ z.cell? ⟨w.heap.size, 1, none⟩ = some (.int .u64 (t : Nat)) ∧ z.cell? ⟨w.heap.size, 2, none⟩ = some (.slice a ks.length c) ∧ z.cell? ⟨w.heap.size, 3, none⟩ = some (.string d) ∧ Hid (Below w.heap.size w z ∧ w.heap.size + 1 ≤ z.heap.size)) → Below w.heap.size w z) := fun z h => h.2.2.2.2.out.1
  have K1 : Hid (∀ z, (z.cell? ⟨w.heap.size, 0, none⟩ = some (.int .u64 (i : Nat)) ∧ z.cell? ⟨w.heap.size, 1, none⟩ = some (.int .u64 (t : Nat)) ∧ z.cell? ⟨w.heap.size, 2, none⟩ = some (.slice a ks.length c) ∧ z.cell? ⟨w.heap.size, 3, none⟩ = some (.string d) ∧ Hid (Below w.heap.size w z ∧ w.heap.size + 1 ≤ z.heap.size)) → Calls Tryz.prog 60 #[.int .u64 (i : Nat)] z fun e z' => e = .returned (.string q1) ∧ (z'.cell? ⟨w.heap.size, 0, none⟩ = some (.int .u64 (i : Nat)) ∧ z'.cell? ⟨w.heap.size, 1, none⟩ = some (.int .u64 (t : Nat)) ∧ z'.cell? ⟨w.heap.size, 2, none⟩ = some (.slice a ks.length c) ∧ z'.cell? ⟨w.heap.size, 3, none⟩ = some (.string d) ∧ Hid (Below w.heap.size w z' ∧ w.heap.size + 1 ≤ z'.heap.size))) := fun z h => (G1 z).mono fun e z' ⟨he, hb⟩ => ⟨he, L0.out z h z' hb⟩
  have K2 : Hid (∀ z, (z.cell? ⟨w.heap.size, 0, none⟩ = some (.int .u64 (i : Nat)) ∧ z.cell? ⟨w.heap.size, 1, none⟩ = some (.int .u64 (t : Nat)) ∧ z.cell? ⟨w.heap.size, 2, none⟩ = some (.slice a ks.length c) ∧ z.cell? ⟨w.heap.size, 3, none⟩ = some (.string d) ∧ Hid (Below w.heap.size w z ∧ w.heap.size + 1 ≤ z.heap.size)) → Calls Tryz.prog 60 #[.int .u64 (t : Nat)] z fun e z' => e = .returned (.string q2) ∧ (z'.cell? ⟨w.heap.size, 0, none⟩ = some (.int .u64 (i : Nat)) ∧ z'.cell? ⟨w.heap.size, 1, none⟩ = some (.int .u64 (t : Nat)) ∧ z'.cell? ⟨w.heap.size, 2, none⟩ = some (.slice a ks.length c) ∧ z'.cell? ⟨w.heap.size, 3, none⟩ = some (.string d) ∧ Hid (Below w.heap.size w z' ∧ w.heap.size + 1 ≤ z'.heap.size))) := fun z h => (G2 z).mono fun e z' ⟨he, hb⟩ => ⟨he, L0.out z h z' hb⟩
  have K3 : Hid (∀ z, (z.cell? ⟨w.heap.size, 0, none⟩ = some (.int .u64 (i : Nat)) ∧ z.cell? ⟨w.heap.size, 1, none⟩ = some (.int .u64 (t : Nat)) ∧ z.cell? ⟨w.heap.size, 2, none⟩ = some (.slice a ks.length c) ∧ z.cell? ⟨w.heap.size, 3, none⟩ = some (.string d) ∧ Hid (Below w.heap.size w z ∧ w.heap.size + 1 ≤ z.heap.size)) → Calls Tryz.prog 61 #[.slice a ks.length c] z fun e z' => e = .returned (.string q3) ∧ (z'.cell? ⟨w.heap.size, 0, none⟩ = some (.int .u64 (i : Nat)) ∧ z'.cell? ⟨w.heap.size, 1, none⟩ = some (.int .u64 (t : Nat)) ∧ z'.cell? ⟨w.heap.size, 2, none⟩ = some (.slice a ks.length c) ∧ z'.cell? ⟨w.heap.size, 3, none⟩ = some (.string d) ∧ Hid (Below w.heap.size w z' ∧ w.heap.size + 1 ≤ z'.heap.size))) := fun z h => (G3 z (HI.out.on h.2.2.2.2.out.1)).mono fun e z' ⟨he, hb⟩ => ⟨he, L0.out z h z' hb⟩
  have K4 : Hid (∀ z, (z.cell? ⟨w.heap.size, 0, none⟩ = some (.int .u64 (i : Nat)) ∧ z.cell? ⟨w.heap.size, 1, none⟩ = some (.int .u64 (t : Nat)) ∧ z.cell? ⟨w.heap.size, 2, none⟩ = some (.slice a ks.length c) ∧ z.cell? ⟨w.heap.size, 3, none⟩ = some (.string d) ∧ Hid (Below w.heap.size w z ∧ w.heap.size + 1 ≤ z.heap.size)) → Calls Tryz.prog 62 #[.string d] z fun e z' => e = .returned (.string q4) ∧ (z'.cell? ⟨w.heap.size, 0, none⟩ = some (.int .u64 (i : Nat)) ∧ z'.cell? ⟨w.heap.size, 1, none⟩ = some (.int .u64 (t : Nat)) ∧ z'.cell? ⟨w.heap.size, 2, none⟩ = some (.slice a ks.length c) ∧ z'.cell? ⟨w.heap.size, 3, none⟩ = some (.string d) ∧ Hid (Below w.heap.size w z' ∧ w.heap.size + 1 ≤ z'.heap.size))) := fun z h => (G4 z).mono fun e z' ⟨he, hb⟩ => ⟨he, L0.out z h z' hb⟩
  have KD : Hid (((w.alloc (.cells #[.int .u64 (i : Nat), .int .u64 (t : Nat), .slice a ks.length c, .string d] 28)).drew).cell? ⟨w.heap.size, 0, none⟩ = some (.int .u64 (i : Nat)) ∧ ((w.alloc (.cells #[.int .u64 (i : Nat), .int .u64 (t : Nat), .slice a ks.length c, .string d] 28)).drew).cell? ⟨w.heap.size, 1, none⟩ = some (.int .u64 (t : Nat)) ∧ ((w.alloc (.cells #[.int .u64 (i : Nat), .int .u64 (t : Nat), .slice a ks.length c, .string d] 28)).drew).cell? ⟨w.heap.size, 2, none⟩ = some (.slice a ks.length c) ∧ ((w.alloc (.cells #[.int .u64 (i : Nat), .int .u64 (t : Nat), .slice a ks.length c, .string d] 28)).drew).cell? ⟨w.heap.size, 3, none⟩ = some (.string d) ∧ Hid (Below w.heap.size w ((w.alloc (.cells #[.int .u64 (i : Nat), .int .u64 (t : Nat), .slice a ks.length c, .string d] 28)).drew) ∧ w.heap.size + 1 ≤ ((w.alloc (.cells #[.int .u64 (i : Nat), .int .u64 (t : Nat), .slice a ks.length c, .string d] 28)).drew).heap.size)) := ⟨by simp [go_sem], by simp [go_sem], by simp [go_sem], by simp [go_sem], ((Below.refl _ _).alloc (Nat.le_refl _) _).drew, by show _ ≤ (w.alloc _).heap.size; simp⟩
  clear G1 G2 G3 G4 L0
  go_enter Tryz.func27, Tryz.ntmps27
  go_wp2
  go_region_held3 (fun z => z.cell? ⟨w.heap.size, 0, none⟩ = some (.int .u64 (i : Nat)) ∧ z.cell? ⟨w.heap.size, 1, none⟩ = some (.int .u64 (t : Nat)) ∧ z.cell? ⟨w.heap.size, 2, none⟩ = some (.slice a ks.length c) ∧ z.cell? ⟨w.heap.size, 3, none⟩ = some (.string d) ∧ Hid (Below w.heap.size w z ∧ w.heap.size + 1 ≤ z.heap.size)) (first | assumption | exact KD.out)
    (first
      | (go_at_call 60; (with_reducible refine (K1.out _ ?_).mono ?_); assumption; rintro e w7 ⟨rfl, hS⟩)
      | (go_at_call 60; (with_reducible refine (K2.out _ ?_).mono ?_); assumption; rintro e w7 ⟨rfl, hS⟩)
      | (go_at_call 61; (with_reducible refine (K3.out _ ?_).mono ?_); assumption; rintro e w7 ⟨rfl, hS⟩)
      | (go_at_call 62; go_loud ((with_reducible refine (K4.out _ ?_).mono ?_); assumption; rintro e w7 ⟨rfl, hS⟩)))
  all_goals
    go_wp2
    go_ret
    exact ⟨rfl, KB.out _ hS⟩
theorem chk_four {i t : Nat} {ks : List Int} {d : ByteArray} (h0 : ¬ chkS i t ks d = 0) : chkS i t ks d = 4 := by
  have h := h0
  unfold chkS at h ⊢
  split
  · rename_i h1; rw [if_pos h1] at h; exact absurd rfl h
  · rename_i h1
    rw [if_neg h1] at h
    split
    · rename_i h2
      rw [if_pos h2] at h
      split
      · rfl
      · rename_i h3; rw [if_neg h3] at h; exact absurd rfl h
    · rfl
theorem results_three {fn : Func} {p u u2 : Tmp} {ty : TypeId} (h : fn.results = #[.cell p ty, .tmp u, .tmp u2]) (tmps : Array Value) (P : Program) (w : World) :
    (results fn tmps).run P w = ((asAddr (tmps.getD p undef)).run P w).andThen fun a w₁ => ((loadVar ty a).run P w₁).andThen fun v w₂ => .ok (.tuple #[v, tmps.getD u undef, tmps.getD u2 undef]) w₂ := by
  simp only [results, h]
  simp [Sem.run_bind, Result.andThen]
theorem bodyPost_snap3 {fn : Func} {p u u2 : Tmp} (h : fn.results = #[.cell p 28, .tmp u, .tmp u2]) {R : Ending → World → Prop} {a : Act} {w : World} (B : Nat) (i t : Int) (v : Value) (d : ByteArray) (hd : a.defers = [])
    (hp : a.tmps.getD p undef = .pointer (some ⟨B, 0, none⟩)) (hx : Bx4 w B (.int .u64 i) (.int .u64 t) v (.string d))
    (hR : R (.returned (.tuple #[.agg #[.int .u64 i, .int .u64 t, v, .string d], a.tmps.getD u undef, a.tmps.getD u2 undef])) w) : bodyPost Tryz.prog fn R .ret a w := by
  refine bodyPost_ret ?_ hd hR
  rw [results_three h, hp]
  have := load_snap w B i t v d hx
  simp [asAddr, this, Result.andThen]
/-- Whether a snapshot begins there, as the document's answer takes it. -/
def rfO (l : List UInt8) : Bool := decide (tnW l = 0) && (decide (tnW (tnR l) = 0) && (tiO (sm l) && (decide (ttW (sx l) = 0) && decide (sdCk l = 0))))
def RtIs (w : World) (l : List UInt8) (e : Ending) (w' : World) : Prop :=
  ∃ v', e = .returned (.tuple #[.agg #[.int .u64 (if rfO l = true then tnN l else 0 : Nat), .int .u64 (if rfO l = true then tnN (tnR l) else 0 : Nat), v', .string (bs (if rfO l = true then ttT (sx l) else []))], .string (bs (if rfO l = true then ttR (sx l) else [])), .bool (rfO l)]) ∧ OwnI w' w.heap.size v' (if rfO l = true then sdMs l else [])
theorem RtIs.no {w w' : World} {l : List UInt8} (h : rfO l = false) : RtIs w l (.returned (.tuple #[.agg #[.int .u64 0, .int .u64 0, .slice none 0 0, .string ⟨#[]⟩], .string ⟨#[]⟩, .bool false])) w' := by
  refine ⟨.slice none 0 0, ?_, ?_⟩
  · rw [h]; rfl
  · rw [h]; exact OwnI.nil _ _
theorem RtIs.yes {w w' : World} {l : List UInt8} (h : rfO l = true) {v : Value} (ho : OwnI w' w.heap.size v (sdMs l)) : RtIs w l (.returned (.tuple #[.agg #[.int .u64 (tnN l : Nat), .int .u64 (tnN (tnR l) : Nat), v, .string (bs (ttT (sx l)))], .string (bs (ttR (sx l))), .bool true])) w' := by
  refine ⟨v, ?_, ?_⟩
  · rw [h]; rfl
  · rw [h]; exact ho
theorem ti_ne (m : List UInt8) : ∀ k, mbR m k ≠ [] → tiB m k = true
  | 0, h => by
    obtain ⟨h1, h2, -⟩ := upR_ne 7 m h
    have := upV_le 7 m
    show (decide (tnW m = 0) && decide (tnN m ≤ 7)) = true
    rw [decide_eq_true h1, decide_eq_true (by omega)]; rfl
  | k + 1, h => by
    obtain ⟨h1, h2, -⟩ := upR_ne 7 (mbR m k) h
    have := upV_le 7 (mbR m k)
    have hne : mbR m k ≠ [] := by
      intro e
      apply h
      show upR 7 (mbR m k) = []
      rw [e]; exact upR_nil 7
    show (tiB m k && (decide (tnW (mbR m k) = 0) && decide (tnN (mbR m k) ≤ 7))) = true
    rw [ti_ne m k hne, decide_eq_true h1, decide_eq_true (by omega)]; rfl
theorem rf_sd (l : List UInt8) : (rfO l && (ttR (sx l)).isEmpty) = sdOk l := by
  unfold sdOk sdDn
  by_cases hW : ttW (sx l) = 0
  · have hxne : sx l ≠ [] := by
      intro e
      rw [e, ttW_nil] at hW
      omega
    have hti : tiO (sm l) = true := ti_ne (sm l) _ hxne
    have hM := mb_forth (sm l) (upV 7 (sm l)) hxne
    have hmne : sm l ≠ [] := by
      intro e
      rw [e] at hM
      simp [num] at hM
    have h2 := tnR_ne (tnR l) hmne
    have h2f := tn_forth (tnR l) h2
    have h1ne : tnR l ≠ [] := by
      intro e
      rw [e] at h2f
      simp [num] at h2f
    have h3 := tnR_ne l h1ne
    unfold rfO
    rw [decide_eq_true h3, decide_eq_true h2, hti, decide_eq_true hW, hW]
    cases decide (sdCk l = 0) <;> cases (ttR (sx l)).isEmpty <;> rfl
  · unfold rfO
    rw [decide_eq_false hW]
    simp [hW]
end Hd
end Go.Proofs.YtgahilemlnoabaaGreat
