/-
  THE LAW MsgBack.
-/
import Derived.Test.YtlkdjnnlbccjdaaMsgLaw2
namespace Go.Proofs.Ytlkdjnnlbccjdaa
open Go.RowKit
namespace Hd
open PM
set_option linter.unusedVariables false
theorem de_lts {l : List UInt8} (h : dmOk l = true) : Lts (deV l) := by
  have e : deV l = (tkV (fmL l)).1 := by unfold deV; rw [if_pos h]; rfl
  rw [e]
  exact lts_tk _
set_option maxRecDepth 100000 in
set_option maxHeartbeats 8000000 in
theorem msgBack (v : Value) (x : Mg × Option Addr × Nat × Value) (s : ByteArray) (w : World) (hx : MsgA w v x) (hsz : s.size ≤ reachBytes) :
    Calls Try.prog 4 #[v, .string s] w fun e w' => e = .returned (.bool true) ∧ Below w.heap.size w w' := by
  obtain ⟨m, a, cp, u⟩ := x
  obtain ⟨rfl, hs, hi, hl⟩ := hx
  simp only at hs hi hl ⊢
  obtain ⟨sa, sc, rfl⟩ := hi.slice
  have hsl : s.data.toList.length ≤ maxLen := by show s.size ≤ _; unfold maxLen; simp only [reachBytes] at hsz; omega
  have HSL := Lib.hid hsl
  clear hsl hsz
  have HM0 : Hid (MsgIn w m a cp (.slice sa m.s.ks.length sc)) := ⟨hs, hi⟩
  have hb0 : Below w.heap.size w (w.alloc (.cells #[.int .u8 (m.k : Nat), .int .u64 (m.t : Nat), .int .u64 (m.x : Nat), .int .u64 (m.u : Nat), .int .u64 (m.c : Nat), .bool m.ok, .slice a m.l.length cp, .int .u64 (m.s.i : Nat), .int .u64 (m.s.t : Nat), .slice sa m.s.ks.length sc, .string m.s.d] 29)) := (Below.refl _ _).alloc (Nat.le_refl _) _
  have HB0 := Lib.hid hb0
  have R0 := Lib.hid (show Bxn (w.alloc (.cells #[.int .u8 (m.k : Nat), .int .u64 (m.t : Nat), .int .u64 (m.x : Nat), .int .u64 (m.u : Nat), .int .u64 (m.c : Nat), .bool m.ok, .slice a m.l.length cp, .int .u64 (m.s.i : Nat), .int .u64 (m.s.t : Nat), .slice sa m.s.ks.length sc, .string m.s.d] 29)) w.heap.size [.int .u8 (m.k : Nat), .int .u64 (m.t : Nat), .int .u64 (m.x : Nat), .int .u64 (m.u : Nat), .int .u64 (m.c : Nat), .bool m.ok, .slice a m.l.length cp, .int .u64 (m.s.i : Nat), .int .u64 (m.s.t : Nat), .slice sa m.s.ks.length sc, .string m.s.d] from Bxn.made w _ _)
  have HM1 := Lib.hid (HM0.out.on hb0)
  have KE := Lib.hid (fun z (h : MsgIn z m a cp (.slice sa m.s.ks.length sc)) => msg_encode m a cp _ z h.1 h.2 hl)
  have KL := Lib.hid lives
  have HLM := Lib.hid hl
  unfold mgV at KE ⊢
  clear hb0 hs hi hl
  have KX : Hid (dmOk s.data.toList = false → ∀ z, Calls Try.prog 11 #[.string s] z fun e w' => NoM e w' ∧ Below z.heap.size z w') := fun h z => by
    have := dec_no s.data.toList HSL.out h z
    rwa [bs_of] at this
  have KY : Hid (dmOk s.data.toList = true → ∃ n : Mg, Lts n ∧ bs (enM n) = s ∧ erM n = 0 ∧ ∀ z, Calls Try.prog 11 #[.string s] z fun e w' => (∃ a cp v, e = .returned (.tuple #[mgV n a cp v, .int .i64 0]) ∧ MsgIn w' n a cp v) ∧ Below z.heap.size z w') := fun h => by
    obtain ⟨h1, h2⟩ := de_forth h
    refine ⟨deV s.data.toList, de_lts h, ?_, erM_t ((okM_iff _).2 h2), fun z => ?_⟩
    · unfold enM
      rw [if_pos ((okM_iff _).2 h2), h1, bs_of]
    · have := dec_is s.data.toList HSL.out h z
      rwa [bs_of] at this
  clear HSL
  go_enter Try.func4, Try.ntmps4
  go_wp2_with (go_at_call 13; go_loud ((with_reducible refine (KL.out _).mono ?_); rintro e w1 ⟨rfl, hb⟩; have R1 := Lib.hid (R0.out.below hb); have c0 : w1.cell? ⟨w.heap.size, 0, none⟩ = some (.int .u8 (m.k : Nat)) := R1.out.cell 0; have c1 : w1.cell? ⟨w.heap.size, 1, none⟩ = some (.int .u64 (m.t : Nat)) := R1.out.cell 1; have c2 : w1.cell? ⟨w.heap.size, 2, none⟩ = some (.int .u64 (m.x : Nat)) := R1.out.cell 2; have c3 : w1.cell? ⟨w.heap.size, 3, none⟩ = some (.int .u64 (m.u : Nat)) := R1.out.cell 3; have c4 : w1.cell? ⟨w.heap.size, 4, none⟩ = some (.int .u64 (m.c : Nat)) := R1.out.cell 4; have c5 : w1.cell? ⟨w.heap.size, 5, none⟩ = some (.bool m.ok) := R1.out.cell 5; have c6 : w1.cell? ⟨w.heap.size, 6, none⟩ = some (.slice a m.l.length cp) := R1.out.cell 6; have c7 : w1.cell? ⟨w.heap.size, 7, none⟩ = some (.int .u64 (m.s.i : Nat)) := R1.out.cell 7; have c8 : w1.cell? ⟨w.heap.size, 8, none⟩ = some (.int .u64 (m.s.t : Nat)) := R1.out.cell 8; have c9 : w1.cell? ⟨w.heap.size, 9, none⟩ = some (.slice sa m.s.ks.length sc) := R1.out.cell 9; have c10 : w1.cell? ⟨w.heap.size, 10, none⟩ = some (.string m.s.d) := R1.out.cell 10; have HM2 := Lib.hid (HM1.out.on hb); have HB1 := Lib.hid (HB0.out.trans (hb.mono HB0.out.size)); clear hb))
  cases hk : okM m
  · rw [erM_f hk] at KE
    clear hk
    go_wp2_with (go_at_call 9; go_loud ((with_reducible refine (KE.out _ HM2.out).mono ?_); rintro e w2 ⟨rfl, hb⟩; have HBz := Lib.hid (HB1.out.trans (hb.mono HB1.out.size)); clear hb))
    cases hd : dmOk s.data.toList
    · have KD := Lib.hid (KX.out hd)
      clear KX KY hd
      go_wp2_with fail
      refine (KD.out _).mono ?_
      rintro e wa ⟨⟨a8, c8, u8, d8, rfl, hm8⟩, hb⟩
      have hbA : Below wa.heap.size wa (wa.alloc (.cells #[.int .u8 0, .int .u64 0, .int .u64 0, .int .u64 0, .int .u64 0, .bool false, .slice a8 0 c8, .int .u64 0, .int .u64 0, .slice u8 0 d8, .string ⟨#[]⟩] 29)) := (Below.refl _ _).alloc (Nat.le_refl _) _
      have KS0 := Lib.hid (same_none a8 c8 u8 d8 _ (hm8.on hbA))
      have HBy := Lib.hid ((HBz.out.trans (hb.mono HBz.out.size)).trans (hbA.mono (Nat.le_trans HBz.out.size hb.size)))
      clear hb hbA hm8
      go_wp2_with (go_at_call 14; go_loud ((with_reducible refine (KS0.out).mono ?_); rintro e wb ⟨rfl, hb⟩; have HBw := Lib.hid (HBy.out.trans (hb.mono HBy.out.size)); clear hb))
      go_wp2
      go_ret
      exact ⟨rfl, HBw.out⟩
    · obtain ⟨n, hn1, hn2, hn3, hn4⟩ := KY.out hd
      have KD := Lib.hid hn4
      have KN := Lib.hid (fun a8 c8 v8 z (h : MsgIn z n a8 c8 v8) => msg_encode n a8 c8 v8 z h.1 h.2 hn1)
      have KC := Lib.hid (fun a8 c8 v8 z (h : MsgIn z n a8 c8 v8) => msg_check n a8 c8 v8 z h.1 h.2)
      unfold mgV at KN KC KD
      rw [hn2, hn3] at KN
      rw [hn3] at KC
      clear KX KY hd hn1 hn2 hn3 hn4
      go_wp2_with fail
      refine (KD.out _).mono ?_
      rintro e wa ⟨⟨a8, c8, v8, rfl, hm8⟩, hb⟩
      obtain ⟨s8, e8, rfl⟩ := hm8.2.slice
      have hbA : Below wa.heap.size wa (wa.alloc (.cells #[.int .u8 (n.k : Nat), .int .u64 (n.t : Nat), .int .u64 (n.x : Nat), .int .u64 (n.u : Nat), .int .u64 (n.c : Nat), .bool n.ok, .slice a8 n.l.length c8, .int .u64 (n.s.i : Nat), .int .u64 (n.s.t : Nat), .slice s8 n.s.ks.length e8, .string n.s.d] 29)) := (Below.refl _ _).alloc (Nat.le_refl _) _
      have RA := Lib.hid (show Bxn (wa.alloc (.cells #[.int .u8 (n.k : Nat), .int .u64 (n.t : Nat), .int .u64 (n.x : Nat), .int .u64 (n.u : Nat), .int .u64 (n.c : Nat), .bool n.ok, .slice a8 n.l.length c8, .int .u64 (n.s.i : Nat), .int .u64 (n.s.t : Nat), .slice s8 n.s.ks.length e8, .string n.s.d] 29)) wa.heap.size [.int .u8 (n.k : Nat), .int .u64 (n.t : Nat), .int .u64 (n.x : Nat), .int .u64 (n.u : Nat), .int .u64 (n.c : Nat), .bool n.ok, .slice a8 n.l.length c8, .int .u64 (n.s.i : Nat), .int .u64 (n.s.t : Nat), .slice s8 n.s.ks.length e8, .string n.s.d] from Bxn.made wa _ _)
      have HMA := Lib.hid (hm8.on hbA)
      have HBy := Lib.hid ((HBz.out.trans (hb.mono HBz.out.size)).trans (hbA.mono (Nat.le_trans HBz.out.size hb.size)))
      clear hb hbA hm8
      go_wp2_with (go_at_call 9; go_loud ((with_reducible refine (KN.out _ _ _ _ HMA.out).mono ?_); rintro e wb ⟨rfl, hb⟩; have RB := Lib.hid (RA.out.below hb); have k0 : wb.cell? ⟨wa.heap.size, 0, none⟩ = some (.int .u8 (n.k : Nat)) := RB.out.cell 0; have k1 : wb.cell? ⟨wa.heap.size, 1, none⟩ = some (.int .u64 (n.t : Nat)) := RB.out.cell 1; have k2 : wb.cell? ⟨wa.heap.size, 2, none⟩ = some (.int .u64 (n.x : Nat)) := RB.out.cell 2; have k3 : wb.cell? ⟨wa.heap.size, 3, none⟩ = some (.int .u64 (n.u : Nat)) := RB.out.cell 3; have k4 : wb.cell? ⟨wa.heap.size, 4, none⟩ = some (.int .u64 (n.c : Nat)) := RB.out.cell 4; have k5 : wb.cell? ⟨wa.heap.size, 5, none⟩ = some (.bool n.ok) := RB.out.cell 5; have k6 : wb.cell? ⟨wa.heap.size, 6, none⟩ = some (.slice a8 n.l.length c8) := RB.out.cell 6; have k7 : wb.cell? ⟨wa.heap.size, 7, none⟩ = some (.int .u64 (n.s.i : Nat)) := RB.out.cell 7; have k8 : wb.cell? ⟨wa.heap.size, 8, none⟩ = some (.int .u64 (n.s.t : Nat)) := RB.out.cell 8; have k9 : wb.cell? ⟨wa.heap.size, 9, none⟩ = some (.slice s8 n.s.ks.length e8) := RB.out.cell 9; have k10 : wb.cell? ⟨wa.heap.size, 10, none⟩ = some (.string n.s.d) := RB.out.cell 10; have HMB := Lib.hid (HMA.out.on hb); have HBw := Lib.hid (HBy.out.trans (hb.mono HBy.out.size)); clear hb))
      go_wp2_with (go_at_call 15; go_loud ((with_reducible refine (KC.out _ _ _ _ HMB.out).mono ?_); rintro e wc ⟨rfl, hb⟩; have HBv := Lib.hid (HBw.out.trans (hb.mono HBw.out.size)); clear hb))
      go_wp2
      go_ret
      exact ⟨rfl, HBv.out⟩
  · have hrt := (okM_iff m).1 hk
    rw [erM_t hk, show enM m = frm (mgB m) by unfold enM; rw [if_pos hk]] at KE
    clear hk
    have hlm := mgB_len hrt HLM.out
    obtain ⟨f1, f2⟩ := bsF_size (mgB m) hlm
    have D0 := Lib.hid (dec_yes hrt HLM.out)
    have D1 := Lib.hid (dec_more (mgB m) hlm 0)
    have D2 := Lib.hid (dec_less (mgB m) hlm)
    have KS := Lib.hid (fun a3 c3 v3 z (h : MsgIn z m a cp (.slice sa m.s.ks.length sc)) (h2 : MsgIn z m a3 c3 v3) => same_msg m a cp _ m a3 c3 v3 z h.1 h.2 h2.1 h2.2)
    unfold mgV at D0 KS
    rw [smM_self] at KS
    clear hrt hlm HLM
    generalize bs (frm (mgB m)) = q at *
    have z1 : q.size + 1 ≤ 9223372036854775807 := by omega
    have z2 : ¬ 9223372036854775807 < q.size + 1 := by omega
    have z3 : q.size + 1 ≤ maxLen := by unfold maxLen; omega
    have z4 : 1 ≤ q.size := by omega
    have z5 : (1 : Int) ≤ (q.size : Int) := by omega
    go_wp2_with (go_at_call 9; go_loud ((with_reducible refine (KE.out _ HM2.out).mono ?_); rintro e w2 ⟨rfl, hb⟩; have R2 := Lib.hid (R1.out.below hb); have HM3 := Lib.hid (HM2.out.on hb); have HB2 := Lib.hid (HB1.out.trans (hb.mono HB1.out.size)); clear hb))
    go_wp2_with fail
    refine (D0.out _).mono ?_
    rintro e w3 ⟨⟨a3, c3, v3, rfl, hm3⟩, hb⟩
    obtain ⟨s3, e3, rfl⟩ := hm3.2.slice
    have hbA : Below w3.heap.size w3 (w3.alloc (.cells #[.int .u8 (m.k : Nat), .int .u64 (m.t : Nat), .int .u64 (m.x : Nat), .int .u64 (m.u : Nat), .int .u64 (m.c : Nat), .bool m.ok, .slice a3 m.l.length c3, .int .u64 (m.s.i : Nat), .int .u64 (m.s.t : Nat), .slice s3 m.s.ks.length e3, .string m.s.d] 29)) := (Below.refl _ _).alloc (Nat.le_refl _) _
    have R3 := Lib.hid ((R2.out.below hb).below hbA)
    have E3 := Lib.hid (show Bxn (w3.alloc (.cells #[.int .u8 (m.k : Nat), .int .u64 (m.t : Nat), .int .u64 (m.x : Nat), .int .u64 (m.u : Nat), .int .u64 (m.c : Nat), .bool m.ok, .slice a3 m.l.length c3, .int .u64 (m.s.i : Nat), .int .u64 (m.s.t : Nat), .slice s3 m.s.ks.length e3, .string m.s.d] 29)) w3.heap.size [.int .u8 (m.k : Nat), .int .u64 (m.t : Nat), .int .u64 (m.x : Nat), .int .u64 (m.u : Nat), .int .u64 (m.c : Nat), .bool m.ok, .slice a3 m.l.length c3, .int .u64 (m.s.i : Nat), .int .u64 (m.s.t : Nat), .slice s3 m.s.ks.length e3, .string m.s.d] from Bxn.made w3 _ _)
    have HM4 := Lib.hid ((HM3.out.on hb).on hbA)
    have HN4 := Lib.hid (hm3.on hbA)
    have HB3 := Lib.hid ((HB2.out.trans (hb.mono HB2.out.size)).trans (hbA.mono (Nat.le_trans HB2.out.size hb.size)))
    have hw3 : w.heap.size < w3.heap.size := Nat.lt_of_lt_of_le R2.out.lt hb.size
    clear hb hbA hm3
    go_wp2_with fail
    generalize w3.alloc (.cells #[.int .u8 (m.k : Nat), .int .u64 (m.t : Nat), .int .u64 (m.x : Nat), .int .u64 (m.u : Nat), .int .u64 (m.c : Nat), .bool m.ok, .slice a3 m.l.length c3, .int .u64 (m.s.i : Nat), .int .u64 (m.s.t : Nat), .slice s3 m.s.ks.length e3, .string m.s.d] 29) = X3 at *
    generalize w3.heap.size = E at *
    refine (D1.out _).mono ?_
    rintro e w4 ⟨⟨a4, c4, u4, e4, rfl, -⟩, hb⟩
    have hbA : Below w4.heap.size w4 (w4.alloc (.cells #[.int .u8 0, .int .u64 0, .int .u64 0, .int .u64 0, .int .u64 0, .bool false, .slice a4 0 c4, .int .u64 0, .int .u64 0, .slice u4 0 e4, .string ⟨#[]⟩] 29)) := (Below.refl _ _).alloc (Nat.le_refl _) _
    have R4 := Lib.hid ((R3.out.below hb).below hbA)
    have E4 := Lib.hid ((E3.out.below hb).below hbA)
    have HM5 := Lib.hid ((HM4.out.on hb).on hbA)
    have HN5 := Lib.hid ((HN4.out.on hb).on hbA)
    have HB4 := Lib.hid ((HB3.out.trans (hb.mono HB3.out.size)).trans (hbA.mono (Nat.le_trans HB3.out.size hb.size)))
    clear hb hbA
    go_wp2_with fail
    generalize w4.alloc (.cells #[.int .u8 0, .int .u64 0, .int .u64 0, .int .u64 0, .int .u64 0, .bool false, .slice a4 0 c4, .int .u64 0, .int .u64 0, .slice u4 0 e4, .string ⟨#[]⟩] 29) = X4 at *
    refine (D2.out _).mono ?_
    rintro e w5 ⟨⟨a5, c5, u5, e5, rfl, -⟩, hb⟩
    have hbA : Below w5.heap.size w5 (w5.alloc (.cells #[.int .u8 0, .int .u64 0, .int .u64 0, .int .u64 0, .int .u64 0, .bool false, .slice a5 0 c5, .int .u64 0, .int .u64 0, .slice u5 0 e5, .string ⟨#[]⟩] 29)) := (Below.refl _ _).alloc (Nat.le_refl _) _
    have R5 := Lib.hid ((R4.out.below hb).below hbA)
    have E5 := Lib.hid ((E4.out.below hb).below hbA)
    have HM6 := Lib.hid ((HM5.out.on hb).on hbA)
    have HN6 := Lib.hid ((HN5.out.on hb).on hbA)
    have HB5 := Lib.hid ((HB4.out.trans (hb.mono HB4.out.size)).trans (hbA.mono (Nat.le_trans HB4.out.size hb.size)))
    clear hb hbA
    have x0 : (w5.alloc (.cells #[.int .u8 0, .int .u64 0, .int .u64 0, .int .u64 0, .int .u64 0, .bool false, .slice a5 0 c5, .int .u64 0, .int .u64 0, .slice u5 0 e5, .string ⟨#[]⟩] 29)).cell? ⟨w.heap.size, 0, none⟩ = some (.int .u8 (m.k : Nat)) := R5.out.cell 0
    have x1 : (w5.alloc (.cells #[.int .u8 0, .int .u64 0, .int .u64 0, .int .u64 0, .int .u64 0, .bool false, .slice a5 0 c5, .int .u64 0, .int .u64 0, .slice u5 0 e5, .string ⟨#[]⟩] 29)).cell? ⟨w.heap.size, 1, none⟩ = some (.int .u64 (m.t : Nat)) := R5.out.cell 1
    have x2 : (w5.alloc (.cells #[.int .u8 0, .int .u64 0, .int .u64 0, .int .u64 0, .int .u64 0, .bool false, .slice a5 0 c5, .int .u64 0, .int .u64 0, .slice u5 0 e5, .string ⟨#[]⟩] 29)).cell? ⟨w.heap.size, 2, none⟩ = some (.int .u64 (m.x : Nat)) := R5.out.cell 2
    have x3 : (w5.alloc (.cells #[.int .u8 0, .int .u64 0, .int .u64 0, .int .u64 0, .int .u64 0, .bool false, .slice a5 0 c5, .int .u64 0, .int .u64 0, .slice u5 0 e5, .string ⟨#[]⟩] 29)).cell? ⟨w.heap.size, 3, none⟩ = some (.int .u64 (m.u : Nat)) := R5.out.cell 3
    have x4 : (w5.alloc (.cells #[.int .u8 0, .int .u64 0, .int .u64 0, .int .u64 0, .int .u64 0, .bool false, .slice a5 0 c5, .int .u64 0, .int .u64 0, .slice u5 0 e5, .string ⟨#[]⟩] 29)).cell? ⟨w.heap.size, 4, none⟩ = some (.int .u64 (m.c : Nat)) := R5.out.cell 4
    have x5 : (w5.alloc (.cells #[.int .u8 0, .int .u64 0, .int .u64 0, .int .u64 0, .int .u64 0, .bool false, .slice a5 0 c5, .int .u64 0, .int .u64 0, .slice u5 0 e5, .string ⟨#[]⟩] 29)).cell? ⟨w.heap.size, 5, none⟩ = some (.bool m.ok) := R5.out.cell 5
    have x6 : (w5.alloc (.cells #[.int .u8 0, .int .u64 0, .int .u64 0, .int .u64 0, .int .u64 0, .bool false, .slice a5 0 c5, .int .u64 0, .int .u64 0, .slice u5 0 e5, .string ⟨#[]⟩] 29)).cell? ⟨w.heap.size, 6, none⟩ = some (.slice a m.l.length cp) := R5.out.cell 6
    have x7 : (w5.alloc (.cells #[.int .u8 0, .int .u64 0, .int .u64 0, .int .u64 0, .int .u64 0, .bool false, .slice a5 0 c5, .int .u64 0, .int .u64 0, .slice u5 0 e5, .string ⟨#[]⟩] 29)).cell? ⟨w.heap.size, 7, none⟩ = some (.int .u64 (m.s.i : Nat)) := R5.out.cell 7
    have x8 : (w5.alloc (.cells #[.int .u8 0, .int .u64 0, .int .u64 0, .int .u64 0, .int .u64 0, .bool false, .slice a5 0 c5, .int .u64 0, .int .u64 0, .slice u5 0 e5, .string ⟨#[]⟩] 29)).cell? ⟨w.heap.size, 8, none⟩ = some (.int .u64 (m.s.t : Nat)) := R5.out.cell 8
    have x9 : (w5.alloc (.cells #[.int .u8 0, .int .u64 0, .int .u64 0, .int .u64 0, .int .u64 0, .bool false, .slice a5 0 c5, .int .u64 0, .int .u64 0, .slice u5 0 e5, .string ⟨#[]⟩] 29)).cell? ⟨w.heap.size, 9, none⟩ = some (.slice sa m.s.ks.length sc) := R5.out.cell 9
    have x10 : (w5.alloc (.cells #[.int .u8 0, .int .u64 0, .int .u64 0, .int .u64 0, .int .u64 0, .bool false, .slice a5 0 c5, .int .u64 0, .int .u64 0, .slice u5 0 e5, .string ⟨#[]⟩] 29)).cell? ⟨w.heap.size, 10, none⟩ = some (.string m.s.d) := R5.out.cell 10
    have y0 : (w5.alloc (.cells #[.int .u8 0, .int .u64 0, .int .u64 0, .int .u64 0, .int .u64 0, .bool false, .slice a5 0 c5, .int .u64 0, .int .u64 0, .slice u5 0 e5, .string ⟨#[]⟩] 29)).cell? ⟨E, 0, none⟩ = some (.int .u8 (m.k : Nat)) := E5.out.cell 0
    have y1 : (w5.alloc (.cells #[.int .u8 0, .int .u64 0, .int .u64 0, .int .u64 0, .int .u64 0, .bool false, .slice a5 0 c5, .int .u64 0, .int .u64 0, .slice u5 0 e5, .string ⟨#[]⟩] 29)).cell? ⟨E, 1, none⟩ = some (.int .u64 (m.t : Nat)) := E5.out.cell 1
    have y2 : (w5.alloc (.cells #[.int .u8 0, .int .u64 0, .int .u64 0, .int .u64 0, .int .u64 0, .bool false, .slice a5 0 c5, .int .u64 0, .int .u64 0, .slice u5 0 e5, .string ⟨#[]⟩] 29)).cell? ⟨E, 2, none⟩ = some (.int .u64 (m.x : Nat)) := E5.out.cell 2
    have y3 : (w5.alloc (.cells #[.int .u8 0, .int .u64 0, .int .u64 0, .int .u64 0, .int .u64 0, .bool false, .slice a5 0 c5, .int .u64 0, .int .u64 0, .slice u5 0 e5, .string ⟨#[]⟩] 29)).cell? ⟨E, 3, none⟩ = some (.int .u64 (m.u : Nat)) := E5.out.cell 3
    have y4 : (w5.alloc (.cells #[.int .u8 0, .int .u64 0, .int .u64 0, .int .u64 0, .int .u64 0, .bool false, .slice a5 0 c5, .int .u64 0, .int .u64 0, .slice u5 0 e5, .string ⟨#[]⟩] 29)).cell? ⟨E, 4, none⟩ = some (.int .u64 (m.c : Nat)) := E5.out.cell 4
    have y5 : (w5.alloc (.cells #[.int .u8 0, .int .u64 0, .int .u64 0, .int .u64 0, .int .u64 0, .bool false, .slice a5 0 c5, .int .u64 0, .int .u64 0, .slice u5 0 e5, .string ⟨#[]⟩] 29)).cell? ⟨E, 5, none⟩ = some (.bool m.ok) := E5.out.cell 5
    have y6 : (w5.alloc (.cells #[.int .u8 0, .int .u64 0, .int .u64 0, .int .u64 0, .int .u64 0, .bool false, .slice a5 0 c5, .int .u64 0, .int .u64 0, .slice u5 0 e5, .string ⟨#[]⟩] 29)).cell? ⟨E, 6, none⟩ = some (.slice a3 m.l.length c3) := E5.out.cell 6
    have y7 : (w5.alloc (.cells #[.int .u8 0, .int .u64 0, .int .u64 0, .int .u64 0, .int .u64 0, .bool false, .slice a5 0 c5, .int .u64 0, .int .u64 0, .slice u5 0 e5, .string ⟨#[]⟩] 29)).cell? ⟨E, 7, none⟩ = some (.int .u64 (m.s.i : Nat)) := E5.out.cell 7
    have y8 : (w5.alloc (.cells #[.int .u8 0, .int .u64 0, .int .u64 0, .int .u64 0, .int .u64 0, .bool false, .slice a5 0 c5, .int .u64 0, .int .u64 0, .slice u5 0 e5, .string ⟨#[]⟩] 29)).cell? ⟨E, 8, none⟩ = some (.int .u64 (m.s.t : Nat)) := E5.out.cell 8
    have y9 : (w5.alloc (.cells #[.int .u8 0, .int .u64 0, .int .u64 0, .int .u64 0, .int .u64 0, .bool false, .slice a5 0 c5, .int .u64 0, .int .u64 0, .slice u5 0 e5, .string ⟨#[]⟩] 29)).cell? ⟨E, 9, none⟩ = some (.slice s3 m.s.ks.length e3) := E5.out.cell 9
    have y10 : (w5.alloc (.cells #[.int .u8 0, .int .u64 0, .int .u64 0, .int .u64 0, .int .u64 0, .bool false, .slice a5 0 c5, .int .u64 0, .int .u64 0, .slice u5 0 e5, .string ⟨#[]⟩] 29)).cell? ⟨E, 10, none⟩ = some (.string m.s.d) := E5.out.cell 10
    go_wp2_with (go_at_call 14; go_loud ((with_reducible refine (KS.out _ _ _ _ HM6.out HN6.out).mono ?_); rintro e w6 ⟨rfl, hb⟩; have HBz := Lib.hid (HB5.out.trans (hb.mono HB5.out.size)); clear hb))
    cases hd : dmOk s.data.toList
    · have KD := Lib.hid (KX.out hd)
      clear KX KY hd
      go_wp2_with fail
      refine (KD.out _).mono ?_
      rintro e wa ⟨⟨a8, c8, u8, d8, rfl, hm8⟩, hb⟩
      have hbA : Below wa.heap.size wa (wa.alloc (.cells #[.int .u8 0, .int .u64 0, .int .u64 0, .int .u64 0, .int .u64 0, .bool false, .slice a8 0 c8, .int .u64 0, .int .u64 0, .slice u8 0 d8, .string ⟨#[]⟩] 29)) := (Below.refl _ _).alloc (Nat.le_refl _) _
      have KS0 := Lib.hid (same_none a8 c8 u8 d8 _ (hm8.on hbA))
      have HBy := Lib.hid ((HBz.out.trans (hb.mono HBz.out.size)).trans (hbA.mono (Nat.le_trans HBz.out.size hb.size)))
      clear hb hbA hm8
      go_wp2_with (go_at_call 14; go_loud ((with_reducible refine (KS0.out).mono ?_); rintro e wb ⟨rfl, hb⟩; have HBw := Lib.hid (HBy.out.trans (hb.mono HBy.out.size)); clear hb))
      go_wp2
      go_ret
      exact ⟨rfl, HBw.out⟩
    · obtain ⟨n, hn1, hn2, hn3, hn4⟩ := KY.out hd
      have KD := Lib.hid hn4
      have KN := Lib.hid (fun a8 c8 v8 z (h : MsgIn z n a8 c8 v8) => msg_encode n a8 c8 v8 z h.1 h.2 hn1)
      have KC := Lib.hid (fun a8 c8 v8 z (h : MsgIn z n a8 c8 v8) => msg_check n a8 c8 v8 z h.1 h.2)
      unfold mgV at KN KC KD
      rw [hn2, hn3] at KN
      rw [hn3] at KC
      clear KX KY hd hn1 hn2 hn3 hn4
      go_wp2_with fail
      refine (KD.out _).mono ?_
      rintro e wa ⟨⟨a8, c8, v8, rfl, hm8⟩, hb⟩
      obtain ⟨s8, e8, rfl⟩ := hm8.2.slice
      have hbA : Below wa.heap.size wa (wa.alloc (.cells #[.int .u8 (n.k : Nat), .int .u64 (n.t : Nat), .int .u64 (n.x : Nat), .int .u64 (n.u : Nat), .int .u64 (n.c : Nat), .bool n.ok, .slice a8 n.l.length c8, .int .u64 (n.s.i : Nat), .int .u64 (n.s.t : Nat), .slice s8 n.s.ks.length e8, .string n.s.d] 29)) := (Below.refl _ _).alloc (Nat.le_refl _) _
      have RA := Lib.hid (show Bxn (wa.alloc (.cells #[.int .u8 (n.k : Nat), .int .u64 (n.t : Nat), .int .u64 (n.x : Nat), .int .u64 (n.u : Nat), .int .u64 (n.c : Nat), .bool n.ok, .slice a8 n.l.length c8, .int .u64 (n.s.i : Nat), .int .u64 (n.s.t : Nat), .slice s8 n.s.ks.length e8, .string n.s.d] 29)) wa.heap.size [.int .u8 (n.k : Nat), .int .u64 (n.t : Nat), .int .u64 (n.x : Nat), .int .u64 (n.u : Nat), .int .u64 (n.c : Nat), .bool n.ok, .slice a8 n.l.length c8, .int .u64 (n.s.i : Nat), .int .u64 (n.s.t : Nat), .slice s8 n.s.ks.length e8, .string n.s.d] from Bxn.made wa _ _)
      have HMA := Lib.hid (hm8.on hbA)
      have HBy := Lib.hid ((HBz.out.trans (hb.mono HBz.out.size)).trans (hbA.mono (Nat.le_trans HBz.out.size hb.size)))
      clear hb hbA hm8
      go_wp2_with (go_at_call 9; go_loud ((with_reducible refine (KN.out _ _ _ _ HMA.out).mono ?_); rintro e wb ⟨rfl, hb⟩; have RB := Lib.hid (RA.out.below hb); have k0 : wb.cell? ⟨wa.heap.size, 0, none⟩ = some (.int .u8 (n.k : Nat)) := RB.out.cell 0; have k1 : wb.cell? ⟨wa.heap.size, 1, none⟩ = some (.int .u64 (n.t : Nat)) := RB.out.cell 1; have k2 : wb.cell? ⟨wa.heap.size, 2, none⟩ = some (.int .u64 (n.x : Nat)) := RB.out.cell 2; have k3 : wb.cell? ⟨wa.heap.size, 3, none⟩ = some (.int .u64 (n.u : Nat)) := RB.out.cell 3; have k4 : wb.cell? ⟨wa.heap.size, 4, none⟩ = some (.int .u64 (n.c : Nat)) := RB.out.cell 4; have k5 : wb.cell? ⟨wa.heap.size, 5, none⟩ = some (.bool n.ok) := RB.out.cell 5; have k6 : wb.cell? ⟨wa.heap.size, 6, none⟩ = some (.slice a8 n.l.length c8) := RB.out.cell 6; have k7 : wb.cell? ⟨wa.heap.size, 7, none⟩ = some (.int .u64 (n.s.i : Nat)) := RB.out.cell 7; have k8 : wb.cell? ⟨wa.heap.size, 8, none⟩ = some (.int .u64 (n.s.t : Nat)) := RB.out.cell 8; have k9 : wb.cell? ⟨wa.heap.size, 9, none⟩ = some (.slice s8 n.s.ks.length e8) := RB.out.cell 9; have k10 : wb.cell? ⟨wa.heap.size, 10, none⟩ = some (.string n.s.d) := RB.out.cell 10; have HMB := Lib.hid (HMA.out.on hb); have HBw := Lib.hid (HBy.out.trans (hb.mono HBy.out.size)); clear hb))
      go_wp2_with (go_at_call 15; go_loud ((with_reducible refine (KC.out _ _ _ _ HMB.out).mono ?_); rintro e wc ⟨rfl, hb⟩; have HBv := Lib.hid (HBw.out.trans (hb.mono HBw.out.size)); clear hb))
      go_wp2
      go_ret
      exact ⟨rfl, HBv.out⟩
end Hd
end Go.Proofs.Ytlkdjnnlbccjdaa
