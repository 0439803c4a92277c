/-
  THE WALK of SnapBack.
-/
import Derived.Test.YtgahilemlnoabaaSnB
namespace Go.Proofs.Ytgahilemlnoabaa
open Go.RowKit Go.Lib Go.Sort
namespace Dk
open Hd (OwnI Bx4)
theorem snC_ne (i t : Nat) (ms : List Nat) (d : ByteArray) : Hd.snB i t ms d ≠ [] := by simp [Hd.snB, PM.num]
theorem smB_refl (i t : Nat) (ks : List Int) (d : ByteArray) : smB i t ks d i t ks d = true := by unfold smB; simp
/-- Decode of a right snapshot's bytes; of one byte more; of one less. -/
theorem decode_back {i t : Nat} {ms : List Nat} {d : ByteArray} (h : Rs i t ms d) (w : World) :
    Calls Try.prog 10 #[.string (PM.bs (Hd.snB i t ms d))] w fun e w' => ∃ v', e = .returned (.tuple #[.agg #[.int .u64 (i : Nat), .int .u64 (t : Nat), v', .string d], .int .i64 0]) ∧ OwnI w' w.heap.size v' ms ∧ Below w.heap.size w w' := by
  obtain ⟨m1, m2, m3⟩ := h.len
  obtain ⟨-, w2, w3, w4, w5, w6⟩ := Hd.sd_whole i t ms d h.i64 h.t64 m1 m2 (by omega) h.chk
  have hd := Hd.snap_decode (Hd.snB i t ms d) w (by have := snB_len h; unfold maxLen; omega)
  unfold Hd.SnIs at hd
  rw [w2, w3, w4, w5, w6] at hd
  refine hd.mono ?_
  rintro e w' ⟨⟨v', rfl, ho⟩, hb⟩
  exact ⟨v', rfl, ho, hb⟩
theorem decode_no (l : List UInt8) (hl : l.length ≤ maxLen) (h : Hd.sdE l = 4) (w : World) :
    Calls Try.prog 10 #[.string (PM.bs l)] w fun e w' => ∃ v', e = .returned (.tuple #[.agg #[.int .u64 0, .int .u64 0, v', .string ⟨#[]⟩], .int .i64 4]) ∧ OwnI w' w.heap.size v' [] ∧ Below w.heap.size w w' := by
  have hok : Hd.sdOk l = false := by
    unfold Hd.sdE at h
    cases hq : Hd.sdOk l
    · rfl
    · rw [hq] at h; simp at h
  have hd := Hd.snap_decode l w hl
  unfold Hd.SnIs at hd
  have e1 : Hd.sdI l = 0 := by unfold Hd.sdI; rw [hok]; rfl
  have e2 : Hd.sdT l = 0 := by unfold Hd.sdT; rw [hok]; rfl
  have e3 : Hd.sdM l = [] := by unfold Hd.sdM; rw [hok]; rfl
  have e4 : Hd.sdD l = [] := by unfold Hd.sdD; rw [hok]; rfl
  rw [e1, e2, e3, e4, h] at hd
  refine hd.mono ?_
  rintro e w' ⟨⟨v', rfl, ho⟩, hb⟩
  exact ⟨v', rfl, ho, hb⟩
theorem decode_more {i t : Nat} {ms : List Nat} {d : ByteArray} (h : Rs i t ms d) (w : World) :
    Calls Try.prog 10 #[.string (PM.bs (Hd.snB i t ms d) ++ ⟨#[0]⟩)] w fun e w' => ∃ v', e = .returned (.tuple #[.agg #[.int .u64 0, .int .u64 0, v', .string ⟨#[]⟩], .int .i64 4]) ∧ OwnI w' w.heap.size v' [] ∧ Below w.heap.size w w' := by
  obtain ⟨m1, m2, m3⟩ := h.len
  have e : PM.bs (Hd.snB i t ms d) ++ ⟨#[0]⟩ = PM.bs (Hd.snB i t ms d ++ [0]) := PM.bs_append _ [0]
  rw [e]
  exact decode_no _ (by rw [List.length_append]; have := snB_len h; unfold maxLen; simp; omega) (Hd.sd_more i t ms d 0 h.i64 h.t64 m1 m2 (by omega) h.chk) w
theorem decode_less {i t : Nat} {ms : List Nat} {d : ByteArray} (h : Rs i t ms d) (w : World) :
    Calls Try.prog 10 #[.string ((PM.bs (Hd.snB i t ms d)).extract 0 ((PM.bs (Hd.snB i t ms d)).size - 1))] w fun e w' => ∃ v', e = .returned (.tuple #[.agg #[.int .u64 0, .int .u64 0, v', .string ⟨#[]⟩], .int .i64 4]) ∧ OwnI w' w.heap.size v' [] ∧ Below w.heap.size w w' := by
  obtain ⟨m1, m2, m3⟩ := h.len
  obtain ⟨w1, -⟩ := Hd.sd_whole i t ms d h.i64 h.t64 m1 m2 (by omega) h.chk
  have hlen := snB_len h
  obtain ⟨r, x, e⟩ : ∃ r x, Hd.snB i t ms d = r ++ [x] := ⟨_, _, (List.dropLast_concat_getLast (snC_ne i t ms d)).symm⟩
  rw [e] at w1 hlen ⊢
  have e2 : (PM.bs (r ++ [x])).extract 0 ((PM.bs (r ++ [x])).size - 1) = PM.bs r := by
    rw [PM.extract_bs, PM.bs_data, PM.bs_size]
    simp
  rw [e2]
  rw [List.length_append] at hlen
  exact decode_no r (by unfold maxLen; omega) (Hd.sd_less r x w1) w
set_option maxRecDepth 100000 in
set_option maxHeartbeats 4000000 in
theorem snapBack (i t : Nat) (v : Value) (ks : List Int) (d : ByteArray) (l : List UInt8) (hi : i < 2 ^ 64) (ht : t < 2 ^ 64) (w : World) (hk : Ints w w.heap.size v ks) (hl : l.length ≤ 140737488351232) :
    Calls Try.prog 5 #[.agg #[.int .u64 (i : Nat), .int .u64 (t : Nat), v, .string d], .string (PM.bs l)] w fun e w' => e = .returned (.bool true) ∧ Below w.heap.size w w' := by
  have hxx : ∀ z, Below (w.alloc (.cells #[.int .u64 (i : Nat), .int .u64 (t : Nat), v, .string d] 25)).heap.size (w.alloc (.cells #[.int .u64 (i : Nat), .int .u64 (t : Nat), v, .string d] 25)) z → Below w.heap.size w z ∧ Ints z z.heap.size v ks ∧ Bx4 z w.heap.size (.int .u64 (i : Nat)) (.int .u64 (t : Nat)) v (.string d) := by
    intro z hb
    have h0 : Below w.heap.size w z := ((Below.refl _ w).alloc (Nat.le_refl _) _).trans (hb.mono (by simp))
    exact ⟨h0, hk.on h0, (Bx4.made w _ _ _ _ _).below hb⟩
  have hen := fun x hx => Hd.snap_encode i t v ks d x hx hi ht
  have hsame := fun u js x (hx : Ints x x.heap.size v ks) hy => same_snap i t v ks d i t u js d x hx hy
  obtain ⟨va, vc, rfl, -⟩ := hk
  have HX := Lib.hid hxx
  have HLV := Lib.hid (fun x => slives x)
  have hlm : l.length ≤ maxLen := by unfold maxLen; omega
  have hdb := fun x => Hd.snap_decode l x hlm
  unfold Hd.EncIs at hen
  clear hxx
  by_cases h0 : Hd.chkS i t ks d = 0
  · have hR := rs_of hi ht h0
    have hkm := Hd.toNat_map ks (Hd.chk_ms i t ks d h0).1
    have HMS := Lib.hid (And.intro (Nat.le_trans hR.len.1 (show 7 ≤ 1000 by omega)) hR.len.2.1)
    have e0 : Hd.enS i t ks d = Hd.snB i t (ks.map Int.toNat) d := by unfold Hd.enS; rw [if_pos h0]
    rw [e0, h0] at hen
    have hd1 := fun x => decode_back hR x
    have hd2 := fun x => decode_more hR x
    have hd3 := fun x => decode_less hR x
    have hsm := fun u x hx (hy : Ints x x.heap.size u ((ks.map Int.toNat).map fun (k : Nat) => (k : Int))) => hsame u ks x hx (by rw [hkm] at hy; exact hy)
    rw [smB_refl] at hsm
    have hp : 1 ≤ (PM.bs (Hd.snB i t (ks.map Int.toNat) d)).size := by
      rw [PM.bs_size]
      have := List.length_pos_iff.2 (snC_ne i t (ks.map Int.toNat) d)
      omega
    have hp2 : (PM.bs (Hd.snB i t (ks.map Int.toNat) d)).size ≤ 65000 := by rw [PM.bs_size]; exact snB_len hR
    generalize PM.bs (Hd.snB i t (ks.map Int.toNat) d) = X at *
    generalize ks.map Int.toNat = ms at *
    have HEN := Lib.hid hen
    have HD1 := Lib.hid hd1
    have HD2 := Lib.hid hd2
    have HSM := Lib.hid hsm
    obtain ⟨m, hm⟩ : ∃ m, X.size = m + 1 := ⟨X.size - 1, by omega⟩
    have hm1 : X.size - 1 = m := by omega
    rw [hm1] at hd3
    have HD3 := Lib.hid hd3
    have t1 : IntKind.i64.wrap ((X.size : Int) - 1) = (m : Int) := by rw [IntKind.wrap_i64]; omega
    have t2 : (X.size : Int) - 1 = (m : Int) := by omega
    have t3 : (m : Int) ≤ (X.size : Int) := by omega
    have t4 : (0 : Int) ≤ (m : Int) := by omega
    have t5 : X.size + 1 ≤ maxLen := by unfold maxLen; omega
    have t6 : ¬ 9223372036854775807 < X.size + 1 := by omega
    clear hen hd1 hd2 hd3 hsm hsame hR hkm e0 h0 hm1
    cases hok : Hd.sdOk l
    · have h4 : Hd.sdE l = 4 := by unfold Hd.sdE; rw [hok]; rfl
      have HDB := Lib.hid (fun x => decode_no l hlm h4 x)
      have hsz := fun u x (hy : Ints x x.heap.size u []) => same_snap 0 0 u [] ⟨#[]⟩ 0 0 (.slice none 0 0) [] ⟨#[]⟩ x hy ⟨none, 0, rfl, by simp, by simp, by simp⟩
      rw [smB_refl] at hsz
      have HSZ : Hid (∀ u x, Ints x x.heap.size u [] → Calls Try.prog 13 #[.agg #[.int .u64 0, .int .u64 0, u, .string ⟨#[]⟩], .agg #[.int .u64 0, .int .u64 0, .slice none 0 0, .string ⟨#[]⟩]] x fun e x' => e = .returned (.bool true) ∧ Below x.heap.size x x') := hsz
      clear hsz hok h4 hdb hlm hl
      generalize PM.bs l = b at *
      go_enter Try.func5, Try.ntmps5
      go_wp2_with (go_at_call 12; go_loud ((with_reducible refine (HLV.out _).mono ?_); rintro e w1 ⟨rfl, hb⟩; have K1 := Lib.hid hb; clear hb; obtain ⟨s0, s1, s2, s3⟩ := (HX.out _ K1.out).2.2.cells))
      go_wp2_with (go_at_call 8; go_loud ((with_reducible refine (HEN.out _ (HX.out _ K1.out).2.1).mono ?_); rintro e w2 ⟨rfl, hb⟩; have K2 := Lib.hid (K1.out.trans (hb.mono K1.out.size)); clear hb s0 s1 s2 s3))
      go_wp2_with (go_at_call 10; go_loud ((with_reducible refine (HD1.out _).mono ?_); rintro e w3 ⟨v3, rfl, ho3, hb⟩; obtain ⟨a3, c3, rfl⟩ := ho3.slice; have B3 := Lib.hid (Bx4.made w3 (.int .u64 (i : Nat)) (.int .u64 (t : Nat)) (.slice a3 ms.length c3) (.string d) 25); have K3 : Hid (Below (w.alloc (.cells #[.int .u64 (i : Nat), .int .u64 (t : Nat), .slice va ks.length vc, .string d] 25)).heap.size (w.alloc (.cells #[.int .u64 (i : Nat), .int .u64 (t : Nat), .slice va ks.length vc, .string d] 25)) (w3.alloc (.cells #[.int .u64 (i : Nat), .int .u64 (t : Nat), .slice a3 ms.length c3, .string d] 25))) := (K2.out.trans (hb.mono K2.out.size)).alloc (Nat.le_trans K2.out.size hb.size) _; have I3 := Lib.hid ((ho3.ints (Nat.le_trans HMS.out.1 (by omega)) (fun k hk => by have := HMS.out.2 k hk; omega)).on ((Below.refl _ _).alloc (Nat.le_refl _) (.cells #[.int .u64 (i : Nat), .int .u64 (t : Nat), .slice a3 ms.length c3, .string d] 25))); clear hb ho3))
      go_wp2_with (go_at_call 10; go_loud ((with_reducible refine (HD2.out _).mono ?_); rintro e w4 ⟨v4, rfl, ho4, hb⟩; obtain ⟨a4, c4, rfl⟩ : ∃ a c, v4 = .slice a 0 c := ho4.slice; have hb4 := hb.alloc hb.size (.cells #[.int .u64 0, .int .u64 0, .slice a4 0 c4, .string ⟨#[]⟩] 25); have B4 := Lib.hid (B3.out.below hb4); have K4 := Lib.hid (K3.out.trans (hb4.mono K3.out.size)); have I4 := Lib.hid (I3.out.on hb4); clear hb ho4 hb4))
      go_wp2_with (go_at_call 10; go_loud ((with_reducible refine (HD3.out _).mono ?_); rintro e w5 ⟨v5, rfl, ho5, hb⟩; obtain ⟨a5, c5, rfl⟩ : ∃ a c, v5 = .slice a 0 c := ho5.slice; have hb5 := hb.alloc hb.size (.cells #[.int .u64 0, .int .u64 0, .slice a5 0 c5, .string ⟨#[]⟩] 25); have B5 := Lib.hid (B4.out.below hb5); have K5 := Lib.hid (K4.out.trans (hb5.mono K4.out.size)); have I5 := Lib.hid (I4.out.on hb5); clear hb ho5 hb5; obtain ⟨s0, s1, s2, s3⟩ := (HX.out _ K5.out).2.2.cells; obtain ⟨q0, q1, q2, q3⟩ := B5.out.cells))
      go_wp2_with (go_at_call 13; go_loud ((with_reducible refine (HSM.out _ _ (HX.out _ K5.out).2.1 I5.out).mono ?_); rintro e w6 ⟨rfl, hb⟩; have K6 := Lib.hid (K5.out.trans (hb.mono K5.out.size)); clear hb s0 s1 s2 s3 q0 q1 q2 q3))
      go_wp2_with (go_at_call 10; go_loud ((with_reducible refine (HDB.out _).mono ?_); rintro e w7 ⟨v7, rfl, ho7, hb⟩; obtain ⟨a7, c7, rfl⟩ : ∃ a c, v7 = .slice a 0 c := ho7.slice; have K7 : Hid (Below (w.alloc (.cells #[.int .u64 (i : Nat), .int .u64 (t : Nat), .slice va ks.length vc, .string d] 25)).heap.size (w.alloc (.cells #[.int .u64 (i : Nat), .int .u64 (t : Nat), .slice va ks.length vc, .string d] 25)) (w7.alloc (.cells #[.int .u64 0, .int .u64 0, .slice a7 0 c7, .string ⟨#[]⟩] 25))) := (K6.out.trans (hb.mono K6.out.size)).alloc (Nat.le_trans K6.out.size hb.size) _; have I7 := Lib.hid (show Ints (w7.alloc (.cells #[.int .u64 0, .int .u64 0, .slice a7 0 c7, .string ⟨#[]⟩] 25)) (w7.alloc (.cells #[.int .u64 0, .int .u64 0, .slice a7 0 c7, .string ⟨#[]⟩] 25)).heap.size (.slice a7 0 c7) [] from (ho7.ints (by simp) (by simp)).on ((Below.refl _ _).alloc (Nat.le_refl _) _)); clear hb ho7))
      go_wp2_with (go_at_call 13; go_loud ((with_reducible refine (HSZ.out _ _ I7.out).mono ?_); rintro e w8 ⟨rfl, hb⟩; have K8 := Lib.hid (K7.out.trans (hb.mono K7.out.size)); clear hb))
      go_wp2
      go_ret
      exact ⟨rfl, (HX.out _ K8.out).1⟩
    · obtain ⟨f1, f2⟩ := Hd.sd_forth l hok
      have HBM := Lib.hid (And.intro (Nat.le_trans (Hd.sdM_ok l).1 (show 7 ≤ 1000 by omega)) (Hd.sdM_ok l).2)
      have h4 : Hd.sdE l = 0 := by unfold Hd.sdE; rw [hok]; rfl
      have heb := fun u x hx => Hd.snap_encode (Hd.sdI l) (Hd.sdT l) u ((Hd.sdM l).map fun (k : Nat) => (k : Int)) (PM.bs (Hd.sdD l)) x hx (Hd.sdI_lt l) (Hd.sdT_lt l)
      unfold Hd.EncIs at heb
      have e9 : Hd.enS (Hd.sdI l) (Hd.sdT l) ((Hd.sdM l).map fun (k : Nat) => (k : Int)) (PM.bs (Hd.sdD l)) = l := by
        unfold Hd.enS
        rw [if_pos f2, List.map_map]
        have e8 : (Hd.sdM l).map (Int.toNat ∘ fun (k : Nat) => (k : Int)) = Hd.sdM l := by
          conv => rhs; rw [← List.map_id (Hd.sdM l)]
          apply List.map_congr_left
          intro k _
          rfl
        rw [e8]
        exact f1
      rw [e9, f2] at heb
      unfold Hd.SnIs at hdb
      rw [h4] at hdb
      have HDB := Lib.hid hdb
      have HEB := Lib.hid heb
      clear hdb heb e9 h4 f1 f2 hok hlm hl
      generalize PM.bs l = b at *
      generalize PM.bs (Hd.sdD l) = bd at *
      generalize Hd.sdM l = bm at *
      generalize Hd.sdI l = bi at *
      generalize Hd.sdT l = bt at *
      go_enter Try.func5, Try.ntmps5
      go_wp2_with (go_at_call 12; go_loud ((with_reducible refine (HLV.out _).mono ?_); rintro e w1 ⟨rfl, hb⟩; have K1 := Lib.hid hb; clear hb; obtain ⟨s0, s1, s2, s3⟩ := (HX.out _ K1.out).2.2.cells))
      go_wp2_with (go_at_call 8; go_loud ((with_reducible refine (HEN.out _ (HX.out _ K1.out).2.1).mono ?_); rintro e w2 ⟨rfl, hb⟩; have K2 := Lib.hid (K1.out.trans (hb.mono K1.out.size)); clear hb s0 s1 s2 s3))
      go_wp2_with (go_at_call 10; go_loud ((with_reducible refine (HD1.out _).mono ?_); rintro e w3 ⟨v3, rfl, ho3, hb⟩; obtain ⟨a3, c3, rfl⟩ := ho3.slice; have B3 := Lib.hid (Bx4.made w3 (.int .u64 (i : Nat)) (.int .u64 (t : Nat)) (.slice a3 ms.length c3) (.string d) 25); have K3 : Hid (Below (w.alloc (.cells #[.int .u64 (i : Nat), .int .u64 (t : Nat), .slice va ks.length vc, .string d] 25)).heap.size (w.alloc (.cells #[.int .u64 (i : Nat), .int .u64 (t : Nat), .slice va ks.length vc, .string d] 25)) (w3.alloc (.cells #[.int .u64 (i : Nat), .int .u64 (t : Nat), .slice a3 ms.length c3, .string d] 25))) := (K2.out.trans (hb.mono K2.out.size)).alloc (Nat.le_trans K2.out.size hb.size) _; have I3 := Lib.hid ((ho3.ints (Nat.le_trans HMS.out.1 (by omega)) (fun k hk => by have := HMS.out.2 k hk; omega)).on ((Below.refl _ _).alloc (Nat.le_refl _) (.cells #[.int .u64 (i : Nat), .int .u64 (t : Nat), .slice a3 ms.length c3, .string d] 25))); clear hb ho3))
      go_wp2_with (go_at_call 10; go_loud ((with_reducible refine (HD2.out _).mono ?_); rintro e w4 ⟨v4, rfl, ho4, hb⟩; obtain ⟨a4, c4, rfl⟩ : ∃ a c, v4 = .slice a 0 c := ho4.slice; have hb4 := hb.alloc hb.size (.cells #[.int .u64 0, .int .u64 0, .slice a4 0 c4, .string ⟨#[]⟩] 25); have B4 := Lib.hid (B3.out.below hb4); have K4 := Lib.hid (K3.out.trans (hb4.mono K3.out.size)); have I4 := Lib.hid (I3.out.on hb4); clear hb ho4 hb4))
      go_wp2_with (go_at_call 10; go_loud ((with_reducible refine (HD3.out _).mono ?_); rintro e w5 ⟨v5, rfl, ho5, hb⟩; obtain ⟨a5, c5, rfl⟩ : ∃ a c, v5 = .slice a 0 c := ho5.slice; have hb5 := hb.alloc hb.size (.cells #[.int .u64 0, .int .u64 0, .slice a5 0 c5, .string ⟨#[]⟩] 25); have B5 := Lib.hid (B4.out.below hb5); have K5 := Lib.hid (K4.out.trans (hb5.mono K4.out.size)); have I5 := Lib.hid (I4.out.on hb5); clear hb ho5 hb5; obtain ⟨s0, s1, s2, s3⟩ := (HX.out _ K5.out).2.2.cells; obtain ⟨q0, q1, q2, q3⟩ := B5.out.cells))
      go_wp2_with (go_at_call 13; go_loud ((with_reducible refine (HSM.out _ _ (HX.out _ K5.out).2.1 I5.out).mono ?_); rintro e w6 ⟨rfl, hb⟩; have K6 := Lib.hid (K5.out.trans (hb.mono K5.out.size)); clear hb s0 s1 s2 s3 q0 q1 q2 q3))
      go_wp2_with (go_at_call 10; go_loud ((with_reducible refine (HDB.out _).mono ?_); rintro e w7 ⟨⟨v7, rfl, ho7⟩, hb⟩; obtain ⟨a7, c7, rfl⟩ := ho7.slice; have K7 : Hid (Below (w.alloc (.cells #[.int .u64 (i : Nat), .int .u64 (t : Nat), .slice va ks.length vc, .string d] 25)).heap.size (w.alloc (.cells #[.int .u64 (i : Nat), .int .u64 (t : Nat), .slice va ks.length vc, .string d] 25)) (w7.alloc (.cells #[.int .u64 (bi : Nat), .int .u64 (bt : Nat), .slice a7 bm.length c7, .string bd] 25))) := (K6.out.trans (hb.mono K6.out.size)).alloc (Nat.le_trans K6.out.size hb.size) _; have I7 := Lib.hid ((ho7.ints (Nat.le_trans HBM.out.1 (by omega)) (fun k hk => by have := HBM.out.2 k hk; omega)).on ((Below.refl _ _).alloc (Nat.le_refl _) (.cells #[.int .u64 (bi : Nat), .int .u64 (bt : Nat), .slice a7 bm.length c7, .string bd] 25))); clear hb ho7))
      go_wp2_with (go_at_call 8; go_loud ((with_reducible refine (HEB.out _ _ I7.out).mono ?_); rintro e w8 ⟨rfl, hb⟩; have K8 := Lib.hid (K7.out.trans (hb.mono K7.out.size)); clear hb))
      go_wp2
      go_ret
      exact ⟨rfl, (HX.out _ K8.out).1⟩
  · have h4 : Hd.chkS i t ks d = 4 := by
      have h := h0
      unfold Hd.chkS at h ⊢
      split
      · rename_i h1; rw [if_pos h1] at h; exact absurd rfl h
      · rename_i h1
        rw [if_neg h1] at h
        split
        · rename_i h2
          rw [if_pos h2] at h
          split
          · rfl
          · rename_i h3; rw [if_neg h3] at h; exact absurd rfl h
        · rfl
    rw [h4] at hen
    generalize PM.bs (Hd.enS i t ks d) = X at *
    have HEN := Lib.hid hen
    clear hen hsame h0 h4
    cases hok : Hd.sdOk l
    · have h4 : Hd.sdE l = 4 := by unfold Hd.sdE; rw [hok]; rfl
      have HDB := Lib.hid (fun x => decode_no l hlm h4 x)
      have hsz := fun u x (hy : Ints x x.heap.size u []) => same_snap 0 0 u [] ⟨#[]⟩ 0 0 (.slice none 0 0) [] ⟨#[]⟩ x hy ⟨none, 0, rfl, by simp, by simp, by simp⟩
      rw [smB_refl] at hsz
      have HSZ : Hid (∀ u x, Ints x x.heap.size u [] → Calls Try.prog 13 #[.agg #[.int .u64 0, .int .u64 0, u, .string ⟨#[]⟩], .agg #[.int .u64 0, .int .u64 0, .slice none 0 0, .string ⟨#[]⟩]] x fun e x' => e = .returned (.bool true) ∧ Below x.heap.size x x') := hsz
      clear hsz hok h4 hdb hlm hl
      generalize PM.bs l = b at *
      go_enter Try.func5, Try.ntmps5
      go_wp2_with (go_at_call 12; go_loud ((with_reducible refine (HLV.out _).mono ?_); rintro e w1 ⟨rfl, hb⟩; have K1 := Lib.hid hb; clear hb; obtain ⟨s0, s1, s2, s3⟩ := (HX.out _ K1.out).2.2.cells))
      go_wp2_with (go_at_call 8; go_loud ((with_reducible refine (HEN.out _ (HX.out _ K1.out).2.1).mono ?_); rintro e w2 ⟨rfl, hb⟩; have K2 := Lib.hid (K1.out.trans (hb.mono K1.out.size)); clear hb s0 s1 s2 s3))
      go_wp2_with (go_at_call 10; go_loud ((with_reducible refine (HDB.out _).mono ?_); rintro e w7 ⟨v7, rfl, ho7, hb⟩; obtain ⟨a7, c7, rfl⟩ : ∃ a c, v7 = .slice a 0 c := ho7.slice; have K7 : Hid (Below (w.alloc (.cells #[.int .u64 (i : Nat), .int .u64 (t : Nat), .slice va ks.length vc, .string d] 25)).heap.size (w.alloc (.cells #[.int .u64 (i : Nat), .int .u64 (t : Nat), .slice va ks.length vc, .string d] 25)) (w7.alloc (.cells #[.int .u64 0, .int .u64 0, .slice a7 0 c7, .string ⟨#[]⟩] 25))) := (K2.out.trans (hb.mono K2.out.size)).alloc (Nat.le_trans K2.out.size hb.size) _; have I7 := Lib.hid (show Ints (w7.alloc (.cells #[.int .u64 0, .int .u64 0, .slice a7 0 c7, .string ⟨#[]⟩] 25)) (w7.alloc (.cells #[.int .u64 0, .int .u64 0, .slice a7 0 c7, .string ⟨#[]⟩] 25)).heap.size (.slice a7 0 c7) [] from (ho7.ints (by simp) (by simp)).on ((Below.refl _ _).alloc (Nat.le_refl _) _)); clear hb ho7))
      go_wp2_with (go_at_call 13; go_loud ((with_reducible refine (HSZ.out _ _ I7.out).mono ?_); rintro e w8 ⟨rfl, hb⟩; have K8 := Lib.hid (K7.out.trans (hb.mono K7.out.size)); clear hb))
      go_wp2
      go_ret
      exact ⟨rfl, (HX.out _ K8.out).1⟩
    · obtain ⟨f1, f2⟩ := Hd.sd_forth l hok
      have HBM := Lib.hid (And.intro (Nat.le_trans (Hd.sdM_ok l).1 (show 7 ≤ 1000 by omega)) (Hd.sdM_ok l).2)
      have h4 : Hd.sdE l = 0 := by unfold Hd.sdE; rw [hok]; rfl
      have heb := fun u x hx => Hd.snap_encode (Hd.sdI l) (Hd.sdT l) u ((Hd.sdM l).map fun (k : Nat) => (k : Int)) (PM.bs (Hd.sdD l)) x hx (Hd.sdI_lt l) (Hd.sdT_lt l)
      unfold Hd.EncIs at heb
      have e9 : Hd.enS (Hd.sdI l) (Hd.sdT l) ((Hd.sdM l).map fun (k : Nat) => (k : Int)) (PM.bs (Hd.sdD l)) = l := by
        unfold Hd.enS
        rw [if_pos f2, List.map_map]
        have e8 : (Hd.sdM l).map (Int.toNat ∘ fun (k : Nat) => (k : Int)) = Hd.sdM l := by
          conv => rhs; rw [← List.map_id (Hd.sdM l)]
          apply List.map_congr_left
          intro k _
          rfl
        rw [e8]
        exact f1
      rw [e9, f2] at heb
      unfold Hd.SnIs at hdb
      rw [h4] at hdb
      have HDB := Lib.hid hdb
      have HEB := Lib.hid heb
      clear hdb heb e9 h4 f1 f2 hok hlm hl
      generalize PM.bs l = b at *
      generalize PM.bs (Hd.sdD l) = bd at *
      generalize Hd.sdM l = bm at *
      generalize Hd.sdI l = bi at *
      generalize Hd.sdT l = bt at *
      go_enter Try.func5, Try.ntmps5
      go_wp2_with (go_at_call 12; go_loud ((with_reducible refine (HLV.out _).mono ?_); rintro e w1 ⟨rfl, hb⟩; have K1 := Lib.hid hb; clear hb; obtain ⟨s0, s1, s2, s3⟩ := (HX.out _ K1.out).2.2.cells))
      go_wp2_with (go_at_call 8; go_loud ((with_reducible refine (HEN.out _ (HX.out _ K1.out).2.1).mono ?_); rintro e w2 ⟨rfl, hb⟩; have K2 := Lib.hid (K1.out.trans (hb.mono K1.out.size)); clear hb s0 s1 s2 s3))
      go_wp2_with (go_at_call 10; go_loud ((with_reducible refine (HDB.out _).mono ?_); rintro e w7 ⟨⟨v7, rfl, ho7⟩, hb⟩; obtain ⟨a7, c7, rfl⟩ := ho7.slice; have K7 : Hid (Below (w.alloc (.cells #[.int .u64 (i : Nat), .int .u64 (t : Nat), .slice va ks.length vc, .string d] 25)).heap.size (w.alloc (.cells #[.int .u64 (i : Nat), .int .u64 (t : Nat), .slice va ks.length vc, .string d] 25)) (w7.alloc (.cells #[.int .u64 (bi : Nat), .int .u64 (bt : Nat), .slice a7 bm.length c7, .string bd] 25))) := (K2.out.trans (hb.mono K2.out.size)).alloc (Nat.le_trans K2.out.size hb.size) _; have I7 := Lib.hid ((ho7.ints (Nat.le_trans HBM.out.1 (by omega)) (fun k hk => by have := HBM.out.2 k hk; omega)).on ((Below.refl _ _).alloc (Nat.le_refl _) (.cells #[.int .u64 (bi : Nat), .int .u64 (bt : Nat), .slice a7 bm.length c7, .string bd] 25))); clear hb ho7))
      go_wp2_with (go_at_call 8; go_loud ((with_reducible refine (HEB.out _ _ I7.out).mono ?_); rintro e w8 ⟨rfl, hb⟩; have K8 := Lib.hid (K7.out.trans (hb.mono K7.out.size)); clear hb))
      go_wp2
      go_ret
      exact ⟨rfl, (HX.out _ K8.out).1⟩
theorem snapBackS (i t : Nat) (v : Value) (ks : List Int) (d b : ByteArray) (hi : i < 2 ^ 64) (ht : t < 2 ^ 64) (w : World) (hk : Ints w w.heap.size v ks) (hb : b.data.toList.length ≤ reachBytes) :
    Calls Try.prog 5 #[.agg #[.int .u64 (i : Nat), .int .u64 (t : Nat), v, .string d], .string b] w fun e w' => e = .returned (.bool true) ∧ Below w.heap.size w w' := by
  have h := snapBack i t v ks d b.data.toList hi ht w hk hb
  rw [PM.bs_of] at h
  exact h
end Dk
end Go.Proofs.Ytgahilemlnoabaa
