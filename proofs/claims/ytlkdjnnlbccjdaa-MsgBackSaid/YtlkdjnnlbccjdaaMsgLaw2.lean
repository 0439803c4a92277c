/-
  THE LAWS MsgApart, MsgBack.
-/
import Derived.Test.YtlkdjnnlbccjdaaMsgLaw1
namespace Go.Proofs.Ytlkdjnnlbccjdaa
open Go.RowKit
namespace Hd
open PM
set_option linter.unusedVariables false
theorem enc_inj {m n : Mg} (hm : Rt m) (fm : Lts m) (hn : Rt n) (fn : Lts n) (h : bs (frm (mgB m)) = bs (frm (mgB n))) : m = n := by
  have h1 : frm (mgB m) = frm (mgB n) := by
    have := congrArg (fun s : ByteArray => s.data.toList) h
    simpa only [bs_data] using this
  have h2 := (de_whole hm fm).2.1
  have h3 := (de_whole hn fn).2.1
  rw [h1, h3] at h2
  exact h2.symm
theorem lts_sn (l : List UInt8) : (snT l).i < 2 ^ 64 ∧ (snT l).t < 2 ^ 64 := ⟨sdI_lt _, sdT_lt _⟩
theorem lts_eL (l : List UInt8) : ∀ k, ∀ e ∈ eL l k, e.i < 2 ^ 64 ∧ e.t < 2 ^ 64
  | 0, e, h => by cases h
  | k + 1, e, h => by
    rw [eL] at h
    rcases List.mem_append.1 h with h | h
    · exact lts_eL l k e h
    · rw [List.mem_singleton] at h
      subst h
      exact ⟨(wdV_lt _).1, (wdV_lt _).2.1⟩
theorem lts_tk (p : List UInt8) : Lts (tkV p).1 := by
  have hu := upV_le 6 p
  have z : (0 : Nat) < 2 ^ 64 := by omega
  have nl : ∀ e ∈ ([] : List Lo.En), e.i < 2 ^ 64 ∧ e.t < 2 ^ 64 := by intro e he; cases he
  unfold tkV
  split
  · exact ⟨by show (1 : Nat) < 256; omega, tnN_lt _, tnN_lt _, tnN_lt _, z, z, z, nl⟩
  · split
    · exact ⟨by show (2 : Nat) < 256; omega, tnN_lt _, z, z, z, z, z, nl⟩
    · split
      · exact ⟨by show (3 : Nat) < 256; omega, tnN_lt _, tnN_lt _, tnN_lt _, tnN_lt _, z, z, lts_eL _ _⟩
      · split
        · exact ⟨by show (4 : Nat) < 256; omega, tnN_lt _, tnN_lt _, z, z, z, z, nl⟩
        · split
          · exact ⟨by show (5 : Nat) < 256; omega, tnN_lt _, z, z, z, (lts_sn _).1, (lts_sn _).2, nl⟩
          · exact ⟨by show upV 6 p < 256; omega, tnN_lt _, z, z, z, z, z, nl⟩
theorem dec_is (l : List UInt8) (hl : l.length ≤ maxLen) (h : dmOk l = true) (w : World) :
    Calls Try.prog 11 #[.string (bs l)] w fun e w' => (∃ a cp v, e = .returned (.tuple #[mgV (deV l) a cp v, .int .i64 0]) ∧ MsgIn w' (deV l) a cp v) ∧ Below w.heap.size w w' := by
  have h3 : deE l = 0 := by unfold deE; rw [if_pos h]
  refine (msg_decode l w hl).mono ?_
  rintro e w' ⟨⟨a, cp, v, he, hs, hi⟩, hb⟩
  rw [h3] at he
  exact ⟨⟨a, cp, v, he, hs.more (Nat.le_refl _) (Nat.zero_le _), hi.more (Nat.le_refl _) (Nat.zero_le _)⟩, hb⟩
theorem same_none (a : Option Addr) (c : Nat) (u : Option Addr) (d : Nat) (w : World) (h : MsgIn w mg0 a c (.slice u 0 d)) :
    Calls Try.prog 14 #[.agg #[.int .u8 0, .int .u64 0, .int .u64 0, .int .u64 0, .int .u64 0, .bool false, .slice a 0 c, .int .u64 0, .int .u64 0, .slice u 0 d, .string ⟨#[]⟩], .agg #[.int .u8 0, .int .u64 0, .int .u64 0, .int .u64 0, .int .u64 0, .bool false, .slice none 0 0, .int .u64 0, .int .u64 0, .slice none 0 0, .string ⟨#[]⟩]] w fun e w' => e = .returned (.bool true) ∧ Below w.heap.size w w' := by
  have := same_msg mg0 a c (.slice u 0 d) mg0 none 0 (.slice none 0 0) w (A3 := 0) (A4 := 0) h.1 h.2 (Lo.Sl.empty _ _ _ _ _ (fun _ => rfl)) (intsR_nil _ _ _)
  rw [smM_self] at this
  exact this
set_option maxRecDepth 100000 in
set_option maxHeartbeats 4000000 in
theorem msgApart (v v2 : Value) (x y : Mg × Option Addr × Nat × Value) (w : World) (hx : MsgA w v x) (hy : MsgA w v2 y) :
    Calls Try.prog 6 #[v, v2] w fun e w' => e = .returned (.bool true) ∧ Below w.heap.size w w' := by
  obtain ⟨m, a, cp, u⟩ := x
  obtain ⟨n, a2, cp2, u2⟩ := y
  obtain ⟨rfl, hs, hi, hl⟩ := hx
  obtain ⟨rfl, hs2, hi2, hl2⟩ := hy
  simp only at hs hi hl hs2 hi2 hl2 ⊢
  obtain ⟨sa, sc, rfl⟩ := hi.slice
  obtain ⟨sa2, sc2, rfl⟩ := hi2.slice
  unfold mgV
  have HM0 : Hid (MsgIn w m a cp (.slice sa m.s.ks.length sc)) := ⟨hs, hi⟩
  have HN0 : Hid (MsgIn w n a2 cp2 (.slice sa2 n.s.ks.length sc2)) := ⟨hs2, hi2⟩
  have hb0 : Below w.heap.size w ((w.alloc (.cells #[.int .u8 (m.k : Nat), .int .u64 (m.t : Nat), .int .u64 (m.x : Nat), .int .u64 (m.u : Nat), .int .u64 (m.c : Nat), .bool m.ok, .slice a m.l.length cp, .int .u64 (m.s.i : Nat), .int .u64 (m.s.t : Nat), .slice sa m.s.ks.length sc, .string m.s.d] 29)).alloc (.cells #[.int .u8 (n.k : Nat), .int .u64 (n.t : Nat), .int .u64 (n.x : Nat), .int .u64 (n.u : Nat), .int .u64 (n.c : Nat), .bool n.ok, .slice a2 n.l.length cp2, .int .u64 (n.s.i : Nat), .int .u64 (n.s.t : Nat), .slice sa2 n.s.ks.length sc2, .string n.s.d] 29)) := ((Below.refl _ _).alloc (Nat.le_refl _) _).alloc (by simp) _
  have HB0 := Lib.hid hb0
  have R0 := Lib.hid (show Bxn ((w.alloc (.cells #[.int .u8 (m.k : Nat), .int .u64 (m.t : Nat), .int .u64 (m.x : Nat), .int .u64 (m.u : Nat), .int .u64 (m.c : Nat), .bool m.ok, .slice a m.l.length cp, .int .u64 (m.s.i : Nat), .int .u64 (m.s.t : Nat), .slice sa m.s.ks.length sc, .string m.s.d] 29)).alloc (.cells #[.int .u8 (n.k : Nat), .int .u64 (n.t : Nat), .int .u64 (n.x : Nat), .int .u64 (n.u : Nat), .int .u64 (n.c : Nat), .bool n.ok, .slice a2 n.l.length cp2, .int .u64 (n.s.i : Nat), .int .u64 (n.s.t : Nat), .slice sa2 n.s.ks.length sc2, .string n.s.d] 29)) w.heap.size [.int .u8 (m.k : Nat), .int .u64 (m.t : Nat), .int .u64 (m.x : Nat), .int .u64 (m.u : Nat), .int .u64 (m.c : Nat), .bool m.ok, .slice a m.l.length cp, .int .u64 (m.s.i : Nat), .int .u64 (m.s.t : Nat), .slice sa m.s.ks.length sc, .string m.s.d] from (Bxn.made w _ _).below ((Below.refl _ _).alloc (Nat.le_refl _) _))
  have Q0 := Lib.hid (show Bxn ((w.alloc (.cells #[.int .u8 (m.k : Nat), .int .u64 (m.t : Nat), .int .u64 (m.x : Nat), .int .u64 (m.u : Nat), .int .u64 (m.c : Nat), .bool m.ok, .slice a m.l.length cp, .int .u64 (m.s.i : Nat), .int .u64 (m.s.t : Nat), .slice sa m.s.ks.length sc, .string m.s.d] 29)).alloc (.cells #[.int .u8 (n.k : Nat), .int .u64 (n.t : Nat), .int .u64 (n.x : Nat), .int .u64 (n.u : Nat), .int .u64 (n.c : Nat), .bool n.ok, .slice a2 n.l.length cp2, .int .u64 (n.s.i : Nat), .int .u64 (n.s.t : Nat), .slice sa2 n.s.ks.length sc2, .string n.s.d] 29)) (w.heap.size + 1) [.int .u8 (n.k : Nat), .int .u64 (n.t : Nat), .int .u64 (n.x : Nat), .int .u64 (n.u : Nat), .int .u64 (n.c : Nat), .bool n.ok, .slice a2 n.l.length cp2, .int .u64 (n.s.i : Nat), .int .u64 (n.s.t : Nat), .slice sa2 n.s.ks.length sc2, .string n.s.d] by have h9 := Bxn.made (w.alloc (.cells #[.int .u8 (m.k : Nat), .int .u64 (m.t : Nat), .int .u64 (m.x : Nat), .int .u64 (m.u : Nat), .int .u64 (m.c : Nat), .bool m.ok, .slice a m.l.length cp, .int .u64 (m.s.i : Nat), .int .u64 (m.s.t : Nat), .slice sa m.s.ks.length sc, .string m.s.d] 29)) [.int .u8 (n.k : Nat), .int .u64 (n.t : Nat), .int .u64 (n.x : Nat), .int .u64 (n.u : Nat), .int .u64 (n.c : Nat), .bool n.ok, .slice a2 n.l.length cp2, .int .u64 (n.s.i : Nat), .int .u64 (n.s.t : Nat), .slice sa2 n.s.ks.length sc2, .string n.s.d] 29; rw [World.size_alloc] at h9; exact h9)
  have HM1 := Lib.hid (HM0.out.on hb0)
  have HN1 := Lib.hid (HN0.out.on hb0)
  have KE := Lib.hid (fun z (h : MsgIn z m a cp (.slice sa m.s.ks.length sc)) => msg_encode m a cp _ z h.1 h.2 hl)
  have KF := Lib.hid (fun z (h : MsgIn z n a2 cp2 (.slice sa2 n.s.ks.length sc2)) => msg_encode n a2 cp2 _ z h.1 h.2 hl2)
  have KL := Lib.hid lives
  have HLM := Lib.hid hl
  have HLN := Lib.hid hl2
  unfold mgV at KE KF
  clear hb0 hs hi hl hs2 hi2 hl2 HM0 HN0
  go_enter Try.func6, Try.ntmps6
  go_wp2_with (go_at_call 13; go_loud ((with_reducible refine (KL.out _).mono ?_); rintro e w1 ⟨rfl, hb⟩; have R1 := Lib.hid (R0.out.below hb); have Q1 := Lib.hid (Q0.out.below hb); have c0 : w1.cell? ⟨w.heap.size, 0, none⟩ = some (.int .u8 (m.k : Nat)) := R1.out.cell 0; have c1 : w1.cell? ⟨w.heap.size, 1, none⟩ = some (.int .u64 (m.t : Nat)) := R1.out.cell 1; have c2 : w1.cell? ⟨w.heap.size, 2, none⟩ = some (.int .u64 (m.x : Nat)) := R1.out.cell 2; have c3 : w1.cell? ⟨w.heap.size, 3, none⟩ = some (.int .u64 (m.u : Nat)) := R1.out.cell 3; have c4 : w1.cell? ⟨w.heap.size, 4, none⟩ = some (.int .u64 (m.c : Nat)) := R1.out.cell 4; have c5 : w1.cell? ⟨w.heap.size, 5, none⟩ = some (.bool m.ok) := R1.out.cell 5; have c6 : w1.cell? ⟨w.heap.size, 6, none⟩ = some (.slice a m.l.length cp) := R1.out.cell 6; have c7 : w1.cell? ⟨w.heap.size, 7, none⟩ = some (.int .u64 (m.s.i : Nat)) := R1.out.cell 7; have c8 : w1.cell? ⟨w.heap.size, 8, none⟩ = some (.int .u64 (m.s.t : Nat)) := R1.out.cell 8; have c9 : w1.cell? ⟨w.heap.size, 9, none⟩ = some (.slice sa m.s.ks.length sc) := R1.out.cell 9; have c10 : w1.cell? ⟨w.heap.size, 10, none⟩ = some (.string m.s.d) := R1.out.cell 10; have d0 : w1.cell? ⟨w.heap.size + 1, 0, none⟩ = some (.int .u8 (n.k : Nat)) := Q1.out.cell 0; have d1 : w1.cell? ⟨w.heap.size + 1, 1, none⟩ = some (.int .u64 (n.t : Nat)) := Q1.out.cell 1; have d2 : w1.cell? ⟨w.heap.size + 1, 2, none⟩ = some (.int .u64 (n.x : Nat)) := Q1.out.cell 2; have d3 : w1.cell? ⟨w.heap.size + 1, 3, none⟩ = some (.int .u64 (n.u : Nat)) := Q1.out.cell 3; have d4 : w1.cell? ⟨w.heap.size + 1, 4, none⟩ = some (.int .u64 (n.c : Nat)) := Q1.out.cell 4; have d5 : w1.cell? ⟨w.heap.size + 1, 5, none⟩ = some (.bool n.ok) := Q1.out.cell 5; have d6 : w1.cell? ⟨w.heap.size + 1, 6, none⟩ = some (.slice a2 n.l.length cp2) := Q1.out.cell 6; have d7 : w1.cell? ⟨w.heap.size + 1, 7, none⟩ = some (.int .u64 (n.s.i : Nat)) := Q1.out.cell 7; have d8 : w1.cell? ⟨w.heap.size + 1, 8, none⟩ = some (.int .u64 (n.s.t : Nat)) := Q1.out.cell 8; have d9 : w1.cell? ⟨w.heap.size + 1, 9, none⟩ = some (.slice sa2 n.s.ks.length sc2) := Q1.out.cell 9; have d10 : w1.cell? ⟨w.heap.size + 1, 10, none⟩ = some (.string n.s.d) := Q1.out.cell 10; have HM2 := Lib.hid (HM1.out.on hb); have HN2 := Lib.hid (HN1.out.on hb); have HB1 := Lib.hid (HB0.out.trans (hb.mono HB0.out.size)); clear hb))
  cases hk : okM m
  · rw [erM_f hk] at KE
    clear hk
    go_wp2_with (go_at_call 9; go_loud ((with_reducible refine (KE.out _ HM2.out).mono ?_); rintro e w2 ⟨rfl, hb⟩; have Q2 := Lib.hid (Q1.out.below hb); have e0 : w2.cell? ⟨w.heap.size + 1, 0, none⟩ = some (.int .u8 (n.k : Nat)) := Q2.out.cell 0; have e1 : w2.cell? ⟨w.heap.size + 1, 1, none⟩ = some (.int .u64 (n.t : Nat)) := Q2.out.cell 1; have e2 : w2.cell? ⟨w.heap.size + 1, 2, none⟩ = some (.int .u64 (n.x : Nat)) := Q2.out.cell 2; have e3 : w2.cell? ⟨w.heap.size + 1, 3, none⟩ = some (.int .u64 (n.u : Nat)) := Q2.out.cell 3; have e4 : w2.cell? ⟨w.heap.size + 1, 4, none⟩ = some (.int .u64 (n.c : Nat)) := Q2.out.cell 4; have e5 : w2.cell? ⟨w.heap.size + 1, 5, none⟩ = some (.bool n.ok) := Q2.out.cell 5; have e6 : w2.cell? ⟨w.heap.size + 1, 6, none⟩ = some (.slice a2 n.l.length cp2) := Q2.out.cell 6; have e7 : w2.cell? ⟨w.heap.size + 1, 7, none⟩ = some (.int .u64 (n.s.i : Nat)) := Q2.out.cell 7; have e8 : w2.cell? ⟨w.heap.size + 1, 8, none⟩ = some (.int .u64 (n.s.t : Nat)) := Q2.out.cell 8; have e9 : w2.cell? ⟨w.heap.size + 1, 9, none⟩ = some (.slice sa2 n.s.ks.length sc2) := Q2.out.cell 9; have e10 : w2.cell? ⟨w.heap.size + 1, 10, none⟩ = some (.string n.s.d) := Q2.out.cell 10; have HN3 := Lib.hid (HN2.out.on hb); have HB2 := Lib.hid (HB1.out.trans (hb.mono HB1.out.size)); clear hb))
    go_wp2_with (go_at_call 9; go_loud ((with_reducible refine (KF.out _ HN3.out).mono ?_); rintro e w3 ⟨rfl, hb⟩; have HB3 := Lib.hid (HB2.out.trans (hb.mono HB2.out.size)); clear hb))
    go_wp2
    go_ret
    exact ⟨rfl, HB3.out⟩
  · have hrt := (okM_iff m).1 hk
    rw [erM_t hk, show enM m = frm (mgB m) by unfold enM; rw [if_pos hk]] at KE
    clear hk
    have hlm := mgB_len hrt HLM.out
    obtain ⟨f1, f2⟩ := bsF_size (mgB m) hlm
    go_wp2_with (go_at_call 9; go_loud ((with_reducible refine (KE.out _ HM2.out).mono ?_); rintro e w2 ⟨rfl, hb⟩; have R2 := Lib.hid (R1.out.below hb); have Q2 := Lib.hid (Q1.out.below hb); have e0 : w2.cell? ⟨w.heap.size + 1, 0, none⟩ = some (.int .u8 (n.k : Nat)) := Q2.out.cell 0; have e1 : w2.cell? ⟨w.heap.size + 1, 1, none⟩ = some (.int .u64 (n.t : Nat)) := Q2.out.cell 1; have e2 : w2.cell? ⟨w.heap.size + 1, 2, none⟩ = some (.int .u64 (n.x : Nat)) := Q2.out.cell 2; have e3 : w2.cell? ⟨w.heap.size + 1, 3, none⟩ = some (.int .u64 (n.u : Nat)) := Q2.out.cell 3; have e4 : w2.cell? ⟨w.heap.size + 1, 4, none⟩ = some (.int .u64 (n.c : Nat)) := Q2.out.cell 4; have e5 : w2.cell? ⟨w.heap.size + 1, 5, none⟩ = some (.bool n.ok) := Q2.out.cell 5; have e6 : w2.cell? ⟨w.heap.size + 1, 6, none⟩ = some (.slice a2 n.l.length cp2) := Q2.out.cell 6; have e7 : w2.cell? ⟨w.heap.size + 1, 7, none⟩ = some (.int .u64 (n.s.i : Nat)) := Q2.out.cell 7; have e8 : w2.cell? ⟨w.heap.size + 1, 8, none⟩ = some (.int .u64 (n.s.t : Nat)) := Q2.out.cell 8; have e9 : w2.cell? ⟨w.heap.size + 1, 9, none⟩ = some (.slice sa2 n.s.ks.length sc2) := Q2.out.cell 9; have e10 : w2.cell? ⟨w.heap.size + 1, 10, none⟩ = some (.string n.s.d) := Q2.out.cell 10; have HM3 := Lib.hid (HM2.out.on hb); have HN3 := Lib.hid (HN2.out.on hb); have HB2 := Lib.hid (HB1.out.trans (hb.mono HB1.out.size)); clear hb))
    cases hk2 : okM n
    · rw [erM_f hk2] at KF
      clear hk2
      go_wp2_with (go_at_call 9; go_loud ((with_reducible refine (KF.out _ HN3.out).mono ?_); rintro e w3 ⟨rfl, hb⟩; have HB3 := Lib.hid (HB2.out.trans (hb.mono HB2.out.size)); clear hb))
      go_wp2
      go_ret
      exact ⟨rfl, HB3.out⟩
    · have hrt2 := (okM_iff n).1 hk2
      rw [erM_t hk2, show enM n = frm (mgB n) by unfold enM; rw [if_pos hk2]] at KF
      clear hk2
      have hln := mgB_len hrt2 HLN.out
      obtain ⟨g1, g2⟩ := bsF_size (mgB n) hln
      have KS := Lib.hid (fun z (h : MsgIn z m a cp (.slice sa m.s.ks.length sc)) (h2 : MsgIn z n a2 cp2 (.slice sa2 n.s.ks.length sc2)) => same_msg m a cp _ n a2 cp2 _ z h.1 h.2 h2.1 h2.2)
      unfold mgV at KS
      have hinj := fun e => enc_inj hrt HLM.out hrt2 HLN.out e
      have hiff := @smM_iff m n
      have KF2 := KF
      clear hrt hrt2 hlm hln HLM HLN f1 f2 g1 g2 KF
      by_cases hmn : m = n
      · have e1 : smM m n = true := hiff.2 hmn
        rw [e1] at KS
        have e2 : bs (frm (mgB m)) = bs (frm (mgB n)) := by rw [hmn]
        rw [← e2] at KF2
        generalize bs (frm (mgB m)) = q at *
        clear hinj hiff e1 e2 hmn
        go_wp2_with (go_at_call 9; go_loud ((with_reducible refine (KF2.out _ HN3.out).mono ?_); rintro e w3 ⟨rfl, hb⟩; have R3 := Lib.hid (R2.out.below hb); have Q3 := Lib.hid (Q2.out.below hb); have x0 : w3.cell? ⟨w.heap.size, 0, none⟩ = some (.int .u8 (m.k : Nat)) := R3.out.cell 0; have x1 : w3.cell? ⟨w.heap.size, 1, none⟩ = some (.int .u64 (m.t : Nat)) := R3.out.cell 1; have x2 : w3.cell? ⟨w.heap.size, 2, none⟩ = some (.int .u64 (m.x : Nat)) := R3.out.cell 2; have x3 : w3.cell? ⟨w.heap.size, 3, none⟩ = some (.int .u64 (m.u : Nat)) := R3.out.cell 3; have x4 : w3.cell? ⟨w.heap.size, 4, none⟩ = some (.int .u64 (m.c : Nat)) := R3.out.cell 4; have x5 : w3.cell? ⟨w.heap.size, 5, none⟩ = some (.bool m.ok) := R3.out.cell 5; have x6 : w3.cell? ⟨w.heap.size, 6, none⟩ = some (.slice a m.l.length cp) := R3.out.cell 6; have x7 : w3.cell? ⟨w.heap.size, 7, none⟩ = some (.int .u64 (m.s.i : Nat)) := R3.out.cell 7; have x8 : w3.cell? ⟨w.heap.size, 8, none⟩ = some (.int .u64 (m.s.t : Nat)) := R3.out.cell 8; have x9 : w3.cell? ⟨w.heap.size, 9, none⟩ = some (.slice sa m.s.ks.length sc) := R3.out.cell 9; have x10 : w3.cell? ⟨w.heap.size, 10, none⟩ = some (.string m.s.d) := R3.out.cell 10; have y0 : w3.cell? ⟨w.heap.size + 1, 0, none⟩ = some (.int .u8 (n.k : Nat)) := Q3.out.cell 0; have y1 : w3.cell? ⟨w.heap.size + 1, 1, none⟩ = some (.int .u64 (n.t : Nat)) := Q3.out.cell 1; have y2 : w3.cell? ⟨w.heap.size + 1, 2, none⟩ = some (.int .u64 (n.x : Nat)) := Q3.out.cell 2; have y3 : w3.cell? ⟨w.heap.size + 1, 3, none⟩ = some (.int .u64 (n.u : Nat)) := Q3.out.cell 3; have y4 : w3.cell? ⟨w.heap.size + 1, 4, none⟩ = some (.int .u64 (n.c : Nat)) := Q3.out.cell 4; have y5 : w3.cell? ⟨w.heap.size + 1, 5, none⟩ = some (.bool n.ok) := Q3.out.cell 5; have y6 : w3.cell? ⟨w.heap.size + 1, 6, none⟩ = some (.slice a2 n.l.length cp2) := Q3.out.cell 6; have y7 : w3.cell? ⟨w.heap.size + 1, 7, none⟩ = some (.int .u64 (n.s.i : Nat)) := Q3.out.cell 7; have y8 : w3.cell? ⟨w.heap.size + 1, 8, none⟩ = some (.int .u64 (n.s.t : Nat)) := Q3.out.cell 8; have y9 : w3.cell? ⟨w.heap.size + 1, 9, none⟩ = some (.slice sa2 n.s.ks.length sc2) := Q3.out.cell 9; have y10 : w3.cell? ⟨w.heap.size + 1, 10, none⟩ = some (.string n.s.d) := Q3.out.cell 10; have HM4 := Lib.hid (HM3.out.on hb); have HN4 := Lib.hid (HN3.out.on hb); have HB3 := Lib.hid (HB2.out.trans (hb.mono HB2.out.size)); clear hb))
        go_wp2_with (go_at_call 14; go_loud ((with_reducible refine (KS.out _ HM4.out HN4.out).mono ?_); rintro e w4 ⟨rfl, hb⟩; have HB4 := Lib.hid (HB3.out.trans (hb.mono HB3.out.size)); clear hb))
        go_wp2
        go_ret
        exact ⟨rfl, HB4.out⟩
      · have e1 : smM m n = false := by rw [← Bool.not_eq_true, hiff]; exact hmn
        rw [e1] at KS
        have e2 : ¬ bs (frm (mgB m)) = bs (frm (mgB n)) := fun e => hmn (hinj e)
        generalize bs (frm (mgB m)) = q at *
        generalize bs (frm (mgB n)) = q2 at *
        have e4 : ¬ q.toList = q2.toList := by
          intro h
          rw [ByteArray.toList_eq, ByteArray.toList_eq] at h
          exact e2 (by cases q; cases q2; simp only [ByteArray.mk.injEq]; exact Array.toList_inj.1 h)
        have e3 : (q.toList == q2.toList) = false := by simpa using e4
        clear e2
        clear hinj hiff e1 hmn
        go_wp2_with (go_at_call 9; go_loud ((with_reducible refine (KF2.out _ HN3.out).mono ?_); rintro e w3 ⟨rfl, hb⟩; have R3 := Lib.hid (R2.out.below hb); have Q3 := Lib.hid (Q2.out.below hb); have x0 : w3.cell? ⟨w.heap.size, 0, none⟩ = some (.int .u8 (m.k : Nat)) := R3.out.cell 0; have x1 : w3.cell? ⟨w.heap.size, 1, none⟩ = some (.int .u64 (m.t : Nat)) := R3.out.cell 1; have x2 : w3.cell? ⟨w.heap.size, 2, none⟩ = some (.int .u64 (m.x : Nat)) := R3.out.cell 2; have x3 : w3.cell? ⟨w.heap.size, 3, none⟩ = some (.int .u64 (m.u : Nat)) := R3.out.cell 3; have x4 : w3.cell? ⟨w.heap.size, 4, none⟩ = some (.int .u64 (m.c : Nat)) := R3.out.cell 4; have x5 : w3.cell? ⟨w.heap.size, 5, none⟩ = some (.bool m.ok) := R3.out.cell 5; have x6 : w3.cell? ⟨w.heap.size, 6, none⟩ = some (.slice a m.l.length cp) := R3.out.cell 6; have x7 : w3.cell? ⟨w.heap.size, 7, none⟩ = some (.int .u64 (m.s.i : Nat)) := R3.out.cell 7; have x8 : w3.cell? ⟨w.heap.size, 8, none⟩ = some (.int .u64 (m.s.t : Nat)) := R3.out.cell 8; have x9 : w3.cell? ⟨w.heap.size, 9, none⟩ = some (.slice sa m.s.ks.length sc) := R3.out.cell 9; have x10 : w3.cell? ⟨w.heap.size, 10, none⟩ = some (.string m.s.d) := R3.out.cell 10; have y0 : w3.cell? ⟨w.heap.size + 1, 0, none⟩ = some (.int .u8 (n.k : Nat)) := Q3.out.cell 0; have y1 : w3.cell? ⟨w.heap.size + 1, 1, none⟩ = some (.int .u64 (n.t : Nat)) := Q3.out.cell 1; have y2 : w3.cell? ⟨w.heap.size + 1, 2, none⟩ = some (.int .u64 (n.x : Nat)) := Q3.out.cell 2; have y3 : w3.cell? ⟨w.heap.size + 1, 3, none⟩ = some (.int .u64 (n.u : Nat)) := Q3.out.cell 3; have y4 : w3.cell? ⟨w.heap.size + 1, 4, none⟩ = some (.int .u64 (n.c : Nat)) := Q3.out.cell 4; have y5 : w3.cell? ⟨w.heap.size + 1, 5, none⟩ = some (.bool n.ok) := Q3.out.cell 5; have y6 : w3.cell? ⟨w.heap.size + 1, 6, none⟩ = some (.slice a2 n.l.length cp2) := Q3.out.cell 6; have y7 : w3.cell? ⟨w.heap.size + 1, 7, none⟩ = some (.int .u64 (n.s.i : Nat)) := Q3.out.cell 7; have y8 : w3.cell? ⟨w.heap.size + 1, 8, none⟩ = some (.int .u64 (n.s.t : Nat)) := Q3.out.cell 8; have y9 : w3.cell? ⟨w.heap.size + 1, 9, none⟩ = some (.slice sa2 n.s.ks.length sc2) := Q3.out.cell 9; have y10 : w3.cell? ⟨w.heap.size + 1, 10, none⟩ = some (.string n.s.d) := Q3.out.cell 10; have HM4 := Lib.hid (HM3.out.on hb); have HN4 := Lib.hid (HN3.out.on hb); have HB3 := Lib.hid (HB2.out.trans (hb.mono HB2.out.size)); clear hb))
        go_wp2_with (go_at_call 14; go_loud ((with_reducible refine (KS.out _ HM4.out HN4.out).mono ?_); rintro e w4 ⟨rfl, hb⟩; have HB4 := Lib.hid (HB3.out.trans (hb.mono HB3.out.size)); clear hb))
        go_wp2
        go_ret
        exact ⟨rfl, HB4.out⟩
end Hd
end Go.Proofs.Ytlkdjnnlbccjdaa
