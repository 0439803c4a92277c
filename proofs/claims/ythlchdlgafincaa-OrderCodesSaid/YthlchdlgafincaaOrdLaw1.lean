/-
  OrderSmall: a command's bytes have room in an entry.
-/
import Derived.Test.YthlchdlgafincaaOrdLive
import Derived.Test.YthlchdlgafincaaOrdArg
namespace Go.Proofs.Ythlchdlgafincaa
open Go.RowKit
namespace Hd
open PM Hc Rg
theorem num_le (n : Nat) (h : n < 2 ^ 64) : (num n).length ≤ 9 := by rw [num_length]; have := (nsz_spec n h).1; omega
theorem txt_le (s : ByteArray) (h : s.size ≤ 32) : (txt s.data.toList).length ≤ 41 := by
  unfold txt
  rw [List.length_append]
  have := num_le s.data.toList.length (by show s.size < _; omega)
  have h2 : s.data.toList.length = s.size := rfl
  omega
theorem prF_le (ps : List Rg.Pr) (h : ∀ p ∈ ps, p.k.size ≤ 32 ∧ p.v.size ≤ 32) : (ps.flatMap prF).length ≤ 82 * ps.length := by
  induction ps with
  | nil => simp
  | cons p r ih =>
    have h1 := txt_le p.k (h p (List.mem_cons_self ..)).1
    have h2 := txt_le p.v (h p (List.mem_cons_self ..)).2
    have h3 := ih (fun q hq => h q (List.mem_cons_of_mem _ hq))
    rw [List.flatMap_cons, List.length_append, List.length_cons]
    unfold prF
    rw [List.length_append]
    unfold prF at h3
    omega
theorem prs_le {ps : List Rg.Pr} (h : SmP ps) : (Hd.prB ps).length ≤ 337 := by
  have h1 := prF_le ps h.2
  have h2 := num_le ps.length (by have := h.1; omega)
  have h3 := h.1
  unfold Hd.prB
  rw [List.length_append]
  omega
theorem am_le {z0 z1 z2 : Int} (h0 : SmZ z0) (h1 : SmZ z1) (h2 : SmZ z2) : (amB z0.toNat z1.toNat z2.toNat).length ≤ 27 := by
  have a := num_le z0.toNat (by have := h0.2; omega)
  have b := num_le z1.toNat (by have := h1.2; omega)
  have c := num_le z2.toNat (by have := h2.2; omega)
  unfold amB
  simp only [List.length_append]
  omega
theorem cmY_le {c : Cd} (h : CkForm c) (hb : Bnd c) : (cmY c).length ≤ 4096 := by
  have n1 := num_le c.cl hb.cl
  have n2 := num_le c.sq hb.sq
  have n3 := num_le c.k (by have := hb.k; omega)
  have n4 : (fdY c).length ≤ 3000 := by
    cases h with
    | node cl sq nd h =>
      have s := nE_small h
      have a := txt_le nd.n s.nm
      have b := am_le s.z0 s.z1 s.z2
      have c := prs_le s.ls
      have d := prs_le s.ts
      show (if (1 : Nat) = 1 then ndY nd else _).length ≤ _
      rw [if_pos rfl]
      unfold ndY ndB
      simp only [List.length_append]
      omega
    | task cl sq td h =>
      have s := tE_small h
      have a := txt_le td.n s.nm
      have b := am_le s.z0 s.z1 s.z2
      have c := prs_le s.ws
      have d := prs_le s.bs
      have e := txt_le td.g s.g
      have f := txt_le td.a s.a
      have g := num_le (td.r + 1000).toNat (by have := s.r; omega)
      show (if (3 : Nat) = 1 then _ else if (3 : Nat) = 3 then tdY td else _).length ≤ _
      rw [if_neg (by omega), if_pos rfl]
      unfold tdY tsB
      simp only [List.length_append]
      omega
    | bind cl sq na on fe h1 h2 =>
      have a := txt_le na (nm_small h1)
      have b := txt_le on (nm_small h2)
      have c := num_le fe hb.fe
      show (if (5 : Nat) = 1 then _ else if (5 : Nat) = 3 then _ else if (5 : Nat) = 5 then txt na.data.toList ++ txt on.data.toList ++ num fe else _).length ≤ _
      rw [if_neg (by omega), if_neg (by omega), if_pos rfl]
      simp only [List.length_append]
      omega
    | name cl sq k na hk h1 =>
      have a := txt_le na (nm_small h1)
      show (if k = 1 then _ else if k = 3 then _ else if k = 5 then _ else txt na.data.toList).length ≤ _
      rw [if_neg (by omega), if_neg (by omega), if_neg (by omega)]
      omega
  unfold cmY
  simp only [List.length_append]
  omega
set_option maxRecDepth 100000 in
set_option maxHeartbeats 4000000 in
theorem orderSmall (v : Value) (C : Cd) (w : World) (hc : CmdArg w v C) :
    Calls Try.prog 7 #[v] w fun e w' => e = .returned (.bool true) ∧ Below w.heap.size w w' := by
  obtain ⟨v2, v3, v4, v5, rfl, hp, hl, hb⟩ := hc
  have HB0 : Hid (Below w.heap.size w (w.alloc (.cells (cdC C v2 v3 v4 v5).toArray 33))) := (Below.refl _ _).alloc (Nat.le_refl _) _
  have HX0 : Hid (Bxn (w.alloc (.cells (cdC C v2 v3 v4 v5).toArray 33)) w.heap.size (cdC C v2 v3 v4 v5)) := Bxn.made w _ _
  have KE : Hid (∀ z, Below w.heap.size w z → Calls Try.prog 10 #[.agg (cdC C v2 v3 v4 v5).toArray] z fun e w' => e = .returned (.tuple #[.string (bs (ceS C)), .int .i64 (coE (ckB C) : Nat)]) ∧ Below z.heap.size z w') := fun z hz => cmd_encode C v2 v3 v4 v5 z (hp.ovr hz) hl hb
  have KL := Lib.hid lives_true
  have hle := fun h => cmY_le (ck_form (c := C) h).1 hb
  have hne := cmY_ne C
  clear hp hl hb
  obtain ⟨CS, hCS⟩ : ∃ CS, CS = (cdC C v2 v3 v4 v5).toArray := ⟨_, rfl⟩
  rw [← hCS] at HB0 HX0 ⊢
  clear hCS
  go_enter Try.func7, Try.ntmps7
  go_upto_region 1 with fail
  generalize w.alloc (.cells CS 33) = W0 at *
  generalize Value.agg CS = A0
  go_wp2_with fail
  refine (KL.out _).mono ?_
  rintro e w1 ⟨rfl, hb⟩
  have HB1 := Lib.hid (HB0.out.trans (hb.mono HB0.out.size))
  have HX1 := Lib.hid (HX0.out.below hb)
  have R1 := Lib.hid (HX1.out.range 0)
  clear hb
  go_upto_region 3 with fail
  refine wp_region_list ?_
  refine wpList_load_mid rfl 33 (.tmp 1) rfl w.heap.size 0 rfl (cdC C v2 v3 v4 v5) _ R1.out Try.underlying33 rfl rfl ?_
  cases hk : ckB C with
  | false =>
    have KE2 : Hid (∀ z, Below w.heap.size w z → Calls Try.prog 10 #[.agg (cdC C v2 v3 v4 v5).toArray] z fun e w' => e = .returned (.tuple #[.string ⟨#[]⟩, .int .i64 4]) ∧ Below z.heap.size z w') := fun z hz => by
      have := KE.out z hz
      unfold ceS coE at this
      rw [hk] at this
      exact this
    clear KE hk hle hne
    go_wp2_with fail
    refine (KE2.out _ HB1.out).mono ?_
    rintro e w2 ⟨rfl, hb⟩
    have HB2 := Lib.hid (HB1.out.trans (hb.mono HB1.out.size))
    clear hb
    go_wp2
    go_ret
    exact ⟨rfl, HB2.out⟩
  | true =>
    have KE2 : Hid (∀ z, Below w.heap.size w z → Calls Try.prog 10 #[.agg (cdC C v2 v3 v4 v5).toArray] z fun e w' => e = .returned (.tuple #[.string (bs (cmY C)), .int .i64 0]) ∧ Below z.heap.size z w') := fun z hz => by
      have := KE.out z hz
      unfold ceS coE at this
      rw [hk] at this
      exact this
    have h1 := hle hk
    have h2 : 0 < (cmY C).length := List.length_pos_iff.2 hne
    have hz := bs_size (cmY C)
    generalize bs (cmY C) = q at *
    have m1 : ((q.size : Nat) : Int) ≤ 4096 := by omega
    have m2 : decide (0 < q.size) = true := decide_eq_true (by omega)
    clear KE hk hle hne h1 h2 hz
    go_wp2_with fail
    refine (KE2.out _ HB1.out).mono ?_
    rintro e w2 ⟨rfl, hb⟩
    have HB2 := Lib.hid (HB1.out.trans (hb.mono HB1.out.size))
    clear hb
    go_wp2
    go_ret
    exact ⟨rfl, HB2.out⟩
end Hd
end Go.Proofs.Ythlchdlgafincaa
