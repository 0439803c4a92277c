/-
  THE LAWS MsgTerms, MsgTwo.
-/
import Derived.Test.YtlkdjnnlbccjdaaMsgLive
import Derived.Test.YtlkdjnnlbccjdaaMsgArg
namespace Go.Proofs.Ytlkdjnnlbccjdaa
open Go.RowKit
namespace Hd
open PM
set_option linter.unusedVariables false
theorem rt_term {m : Mg} (h : Rt m) (te : Nat) : okM ⟨m.k, te, m.x, m.u, m.c, m.ok, m.l, m.s⟩ = decide (te ≠ 0) := by
  by_cases ht : te = 0
  · rw [decide_eq_false (by simpa using ht)]
    unfold okM
    rw [if_pos ht]
  · rw [decide_eq_true ht]
    exact (okM_iff _).2 ⟨ht, h.2⟩
theorem bsF_size (p : List UInt8) (h : p.length ≤ 65536) : (bs (frm p)).size ≤ 65542 ∧ 6 ≤ (bs (frm p)).size := by
  rw [bs_size, frm_length]; omega
theorem dec_two (p q : List UInt8) (hp : p.length ≤ 65536) (hq : q.length ≤ 65536) (w : World) :
    Calls Try.prog 11 #[.string (bs (frm p) ++ bs (frm q))] w fun e w' => NoM e w' ∧ Below w.heap.size w w' := by
  have hne : frm q ≠ [] := by intro e; have := congrArg List.length e; rw [frm_length] at this; simp at this
  have h := dec_no (frm p ++ frm q) (by rw [List.length_append, frm_length, frm_length]; simp only [maxLen]; omega) (de_more hp hne) w
  rw [show bs (frm p ++ frm q) = bs (frm p) ++ bs (frm q) from (bs_append _ _).symm] at h
  exact h
theorem dec_more (p : List UInt8) (hp : p.length ≤ 65536) (x : UInt8) (w : World) :
    Calls Try.prog 11 #[.string (bs (frm p) ++ ⟨#[x]⟩)] w fun e w' => NoM e w' ∧ Below w.heap.size w w' := by
  have h := dec_no (frm p ++ [x]) (by rw [List.length_append, frm_length]; simp only [maxLen, List.length_cons, List.length_nil]; omega) (de_more hp (by simp)) w
  rw [show bs (frm p ++ [x]) = bs (frm p) ++ ⟨#[x]⟩ from (bs_append _ _).symm] at h
  exact h
theorem dec_less (p : List UInt8) (hp : p.length ≤ 65536) (w : World) :
    Calls Try.prog 11 #[.string ((bs (frm p)).extract 0 ((bs (frm p)).size - 1))] w fun e w' => NoM e w' ∧ Below w.heap.size w w' := by
  have hl : (frm p).length = 6 + p.length := frm_length p
  have hw := tf_short p (by omega) ((frm p).length - 1) (by omega)
  have hd : dmOk ((frm p).take ((frm p).length - 1)) = false := dm_nil (by unfold fmL; rw [if_neg (by rw [hw]; omega)])
  have h := dec_no ((frm p).take ((frm p).length - 1)) (by rw [List.length_take]; simp only [maxLen]; omega) hd w
  rw [extract_bs, bs_data, bs_size]
  rw [List.drop_zero, Nat.sub_zero]
  exact h
set_option maxRecDepth 100000 in
set_option maxHeartbeats 4000000 in
theorem msgTerms (v : Value) (x : Mg × Option Addr × Nat × Value) (tz : Int) (w : World) (hx : MsgA w v x) (hz : (Lit.int .u64 tz).wf = true) :
    Calls Try.prog 7 #[v, .int .u64 tz] w fun e w' => e = .returned (.bool true) ∧ Below w.heap.size w w' := by
  obtain ⟨te, rfl, hte⟩ := Lo.u64_of hz
  obtain ⟨m, a, cp, u⟩ := x
  obtain ⟨rfl, hs, hi, hl⟩ := hx
  simp only at hs hi hl ⊢
  obtain ⟨sa, sc, rfl⟩ := hi.slice
  unfold mgV
  have HM0 : Hid (MsgIn w m a cp (.slice sa m.s.ks.length sc)) := ⟨hs, hi⟩
  have hb0 : Below w.heap.size w (w.alloc (.cells #[.int .u8 (m.k : Nat), .int .u64 (m.t : Nat), .int .u64 (m.x : Nat), .int .u64 (m.u : Nat), .int .u64 (m.c : Nat), .bool m.ok, .slice a m.l.length cp, .int .u64 (m.s.i : Nat), .int .u64 (m.s.t : Nat), .slice sa m.s.ks.length sc, .string m.s.d] 29)) := (Below.refl _ _).alloc (Nat.le_refl _) _
  have HB0 := Lib.hid hb0
  have R0 := Lib.hid (show Bxn (w.alloc (.cells #[.int .u8 (m.k : Nat), .int .u64 (m.t : Nat), .int .u64 (m.x : Nat), .int .u64 (m.u : Nat), .int .u64 (m.c : Nat), .bool m.ok, .slice a m.l.length cp, .int .u64 (m.s.i : Nat), .int .u64 (m.s.t : Nat), .slice sa m.s.ks.length sc, .string m.s.d] 29)) w.heap.size [.int .u8 (m.k : Nat), .int .u64 (m.t : Nat), .int .u64 (m.x : Nat), .int .u64 (m.u : Nat), .int .u64 (m.c : Nat), .bool m.ok, .slice a m.l.length cp, .int .u64 (m.s.i : Nat), .int .u64 (m.s.t : Nat), .slice sa m.s.ks.length sc, .string m.s.d] from Bxn.made w _ _)
  have HM1 := Lib.hid (HM0.out.on hb0)
  have KC := Lib.hid (fun z (h : MsgIn z m a cp (.slice sa m.s.ks.length sc)) => msg_check m a cp _ z h.1 h.2)
  have KN := Lib.hid (fun z (h : MsgIn z m a cp (.slice sa m.s.ks.length sc)) => msg_check ⟨m.k, te, m.x, m.u, m.c, m.ok, m.l, m.s⟩ a cp (.slice sa m.s.ks.length sc) z h.1 h.2)
  have HRT := Lib.hid (fun (h : okM m = true) => rt_term ((okM_iff m).1 h) te)
  have KL := Lib.hid lives
  unfold mgV at KC KN
  clear hb0 hs hi hl hz hte
  cases hk : okM m
  · rw [erM_f hk] at KC
    clear hk KN HRT
    go_enter Try.func7, Try.ntmps7
    go_wp2_with (go_at_call 13; go_loud ((with_reducible refine (KL.out _).mono ?_); rintro e w1 ⟨rfl, hb⟩; have R1 := Lib.hid (R0.out.below hb); have c0 : w1.cell? ⟨w.heap.size, 0, none⟩ = some (.int .u8 (m.k : Nat)) := R1.out.cell 0; have c1 : w1.cell? ⟨w.heap.size, 1, none⟩ = some (.int .u64 (m.t : Nat)) := R1.out.cell 1; have c2 : w1.cell? ⟨w.heap.size, 2, none⟩ = some (.int .u64 (m.x : Nat)) := R1.out.cell 2; have c3 : w1.cell? ⟨w.heap.size, 3, none⟩ = some (.int .u64 (m.u : Nat)) := R1.out.cell 3; have c4 : w1.cell? ⟨w.heap.size, 4, none⟩ = some (.int .u64 (m.c : Nat)) := R1.out.cell 4; have c5 : w1.cell? ⟨w.heap.size, 5, none⟩ = some (.bool m.ok) := R1.out.cell 5; have c6 : w1.cell? ⟨w.heap.size, 6, none⟩ = some (.slice a m.l.length cp) := R1.out.cell 6; have c7 : w1.cell? ⟨w.heap.size, 7, none⟩ = some (.int .u64 (m.s.i : Nat)) := R1.out.cell 7; have c8 : w1.cell? ⟨w.heap.size, 8, none⟩ = some (.int .u64 (m.s.t : Nat)) := R1.out.cell 8; have c9 : w1.cell? ⟨w.heap.size, 9, none⟩ = some (.slice sa m.s.ks.length sc) := R1.out.cell 9; have c10 : w1.cell? ⟨w.heap.size, 10, none⟩ = some (.string m.s.d) := R1.out.cell 10; have HM2 := Lib.hid (HM1.out.on hb); have HB1 := Lib.hid (HB0.out.trans (hb.mono HB0.out.size)); clear hb))
    go_wp2_with (go_at_call 15; go_loud ((with_reducible refine (KC.out _ HM2.out).mono ?_); rintro e w2 ⟨rfl, hb⟩; have HB2 := Lib.hid (HB1.out.trans (hb.mono HB1.out.size)); clear hb))
    go_wp2
    go_ret
    exact ⟨rfl, HB2.out⟩
  · rw [erM_t hk] at KC
    have HRT2 := Lib.hid (HRT.out hk)
    clear hk HRT
    go_enter Try.func7, Try.ntmps7
    go_wp2_with (go_at_call 13; go_loud ((with_reducible refine (KL.out _).mono ?_); rintro e w1 ⟨rfl, hb⟩; have R1 := Lib.hid (R0.out.below hb); have c0 : w1.cell? ⟨w.heap.size, 0, none⟩ = some (.int .u8 (m.k : Nat)) := R1.out.cell 0; have c1 : w1.cell? ⟨w.heap.size, 1, none⟩ = some (.int .u64 (m.t : Nat)) := R1.out.cell 1; have c2 : w1.cell? ⟨w.heap.size, 2, none⟩ = some (.int .u64 (m.x : Nat)) := R1.out.cell 2; have c3 : w1.cell? ⟨w.heap.size, 3, none⟩ = some (.int .u64 (m.u : Nat)) := R1.out.cell 3; have c4 : w1.cell? ⟨w.heap.size, 4, none⟩ = some (.int .u64 (m.c : Nat)) := R1.out.cell 4; have c5 : w1.cell? ⟨w.heap.size, 5, none⟩ = some (.bool m.ok) := R1.out.cell 5; have c6 : w1.cell? ⟨w.heap.size, 6, none⟩ = some (.slice a m.l.length cp) := R1.out.cell 6; have c7 : w1.cell? ⟨w.heap.size, 7, none⟩ = some (.int .u64 (m.s.i : Nat)) := R1.out.cell 7; have c8 : w1.cell? ⟨w.heap.size, 8, none⟩ = some (.int .u64 (m.s.t : Nat)) := R1.out.cell 8; have c9 : w1.cell? ⟨w.heap.size, 9, none⟩ = some (.slice sa m.s.ks.length sc) := R1.out.cell 9; have c10 : w1.cell? ⟨w.heap.size, 10, none⟩ = some (.string m.s.d) := R1.out.cell 10; have HM2 := Lib.hid (HM1.out.on hb); have HB1 := Lib.hid (HB0.out.trans (hb.mono HB0.out.size)); clear hb))
    go_wp2_with (go_at_call 15; go_loud ((with_reducible refine (KC.out _ HM2.out).mono ?_); rintro e w2 ⟨rfl, hb⟩; have R2 := Lib.hid (R1.out.below hb); have d0 : w2.cell? ⟨w.heap.size, 0, none⟩ = some (.int .u8 (m.k : Nat)) := R2.out.cell 0; have d1 : w2.cell? ⟨w.heap.size, 1, none⟩ = some (.int .u64 (m.t : Nat)) := R2.out.cell 1; have d2 : w2.cell? ⟨w.heap.size, 2, none⟩ = some (.int .u64 (m.x : Nat)) := R2.out.cell 2; have d3 : w2.cell? ⟨w.heap.size, 3, none⟩ = some (.int .u64 (m.u : Nat)) := R2.out.cell 3; have d4 : w2.cell? ⟨w.heap.size, 4, none⟩ = some (.int .u64 (m.c : Nat)) := R2.out.cell 4; have d5 : w2.cell? ⟨w.heap.size, 5, none⟩ = some (.bool m.ok) := R2.out.cell 5; have d6 : w2.cell? ⟨w.heap.size, 6, none⟩ = some (.slice a m.l.length cp) := R2.out.cell 6; have d7 : w2.cell? ⟨w.heap.size, 7, none⟩ = some (.int .u64 (m.s.i : Nat)) := R2.out.cell 7; have d8 : w2.cell? ⟨w.heap.size, 8, none⟩ = some (.int .u64 (m.s.t : Nat)) := R2.out.cell 8; have d9 : w2.cell? ⟨w.heap.size, 9, none⟩ = some (.slice sa m.s.ks.length sc) := R2.out.cell 9; have d10 : w2.cell? ⟨w.heap.size, 10, none⟩ = some (.string m.s.d) := R2.out.cell 10; have HM3 := Lib.hid (HM2.out.on hb); have HB2 := Lib.hid (HB1.out.trans (hb.mono HB1.out.size)); clear hb))
    have hbA : Below w2.heap.size w2 (w2.alloc (.cells #[.int .u8 (m.k : Nat), .int .u64 (te : Nat), .int .u64 (m.x : Nat), .int .u64 (m.u : Nat), .int .u64 (m.c : Nat), .bool m.ok, .slice a m.l.length cp, .int .u64 (m.s.i : Nat), .int .u64 (m.s.t : Nat), .slice sa m.s.ks.length sc, .string m.s.d] 29)) := (Below.refl _ _).alloc (Nat.le_refl _) _
    have HM4 := Lib.hid (HM3.out.on hbA)
    have HB3 := Lib.hid (HB2.out.trans (hbA.mono HB2.out.size))
    clear hbA
    by_cases hz0 : te = 0
    · have HE : Hid (erM ⟨m.k, te, m.x, m.u, m.c, m.ok, m.l, m.s⟩ = 4) := erM_f (by rw [HRT2.out]; simp [hz0])
      rw [HE.out] at KN
      have z1 : ¬ (0 : Int) < (te : Int) := by omega
      have z2 : decide ((0 : Int) < (te : Int)) = false := by simpa using z1
      have z3 : decide (0 < te) = false := by simp; omega
      clear hz0 HE HRT2
      go_wp2_with (go_at_call 15; go_loud ((with_reducible refine (KN.out _ HM4.out).mono ?_); rintro e w3 ⟨rfl, hb⟩; have HB4 := Lib.hid (HB3.out.trans (hb.mono HB3.out.size)); clear hb))
      go_wp2
      go_ret
      exact ⟨rfl, HB4.out⟩
    · have HE : Hid (erM ⟨m.k, te, m.x, m.u, m.c, m.ok, m.l, m.s⟩ = 0) := erM_t (by rw [HRT2.out]; simp [hz0])
      rw [HE.out] at KN
      have z1 : (0 : Int) < (te : Int) := by omega
      have z2 : decide ((0 : Int) < (te : Int)) = true := by simpa using z1
      have z3 : decide (0 < te) = true := by simp; omega
      clear hz0 HE HRT2
      go_wp2_with (go_at_call 15; go_loud ((with_reducible refine (KN.out _ HM4.out).mono ?_); rintro e w3 ⟨rfl, hb⟩; have HB4 := Lib.hid (HB3.out.trans (hb.mono HB3.out.size)); clear hb))
      go_wp2
      go_ret
      exact ⟨rfl, HB4.out⟩
set_option maxRecDepth 100000 in
set_option maxHeartbeats 4000000 in
theorem msgTwo (v v2 : Value) (x y : Mg × Option Addr × Nat × Value) (w : World) (hx : MsgA w v x) (hy : MsgA w v2 y) :
    Calls Try.prog 8 #[v, v2] w fun e w' => e = .returned (.bool true) ∧ Below w.heap.size w w' := by
  obtain ⟨m, a, cp, u⟩ := x
  obtain ⟨n, a2, cp2, u2⟩ := y
  obtain ⟨rfl, hs, hi, hl⟩ := hx
  obtain ⟨rfl, hs2, hi2, hl2⟩ := hy
  simp only at hs hi hl hs2 hi2 hl2 ⊢
  obtain ⟨sa, sc, rfl⟩ := hi.slice
  obtain ⟨sa2, sc2, rfl⟩ := hi2.slice
  unfold mgV
  have HM0 : Hid (MsgIn w m a cp (.slice sa m.s.ks.length sc)) := ⟨hs, hi⟩
  have HN0 : Hid (MsgIn w n a2 cp2 (.slice sa2 n.s.ks.length sc2)) := ⟨hs2, hi2⟩
  have hb0 : Below w.heap.size w ((w.alloc (.cells #[.int .u8 (m.k : Nat), .int .u64 (m.t : Nat), .int .u64 (m.x : Nat), .int .u64 (m.u : Nat), .int .u64 (m.c : Nat), .bool m.ok, .slice a m.l.length cp, .int .u64 (m.s.i : Nat), .int .u64 (m.s.t : Nat), .slice sa m.s.ks.length sc, .string m.s.d] 29)).alloc (.cells #[.int .u8 (n.k : Nat), .int .u64 (n.t : Nat), .int .u64 (n.x : Nat), .int .u64 (n.u : Nat), .int .u64 (n.c : Nat), .bool n.ok, .slice a2 n.l.length cp2, .int .u64 (n.s.i : Nat), .int .u64 (n.s.t : Nat), .slice sa2 n.s.ks.length sc2, .string n.s.d] 29)) := ((Below.refl _ _).alloc (Nat.le_refl _) _).alloc (by simp) _
  have HB0 := Lib.hid hb0
  have R0 := Lib.hid (show Bxn ((w.alloc (.cells #[.int .u8 (m.k : Nat), .int .u64 (m.t : Nat), .int .u64 (m.x : Nat), .int .u64 (m.u : Nat), .int .u64 (m.c : Nat), .bool m.ok, .slice a m.l.length cp, .int .u64 (m.s.i : Nat), .int .u64 (m.s.t : Nat), .slice sa m.s.ks.length sc, .string m.s.d] 29)).alloc (.cells #[.int .u8 (n.k : Nat), .int .u64 (n.t : Nat), .int .u64 (n.x : Nat), .int .u64 (n.u : Nat), .int .u64 (n.c : Nat), .bool n.ok, .slice a2 n.l.length cp2, .int .u64 (n.s.i : Nat), .int .u64 (n.s.t : Nat), .slice sa2 n.s.ks.length sc2, .string n.s.d] 29)) w.heap.size [.int .u8 (m.k : Nat), .int .u64 (m.t : Nat), .int .u64 (m.x : Nat), .int .u64 (m.u : Nat), .int .u64 (m.c : Nat), .bool m.ok, .slice a m.l.length cp, .int .u64 (m.s.i : Nat), .int .u64 (m.s.t : Nat), .slice sa m.s.ks.length sc, .string m.s.d] from (Bxn.made w _ _).below ((Below.refl _ _).alloc (Nat.le_refl _) _))
  have Q0 := Lib.hid (show Bxn ((w.alloc (.cells #[.int .u8 (m.k : Nat), .int .u64 (m.t : Nat), .int .u64 (m.x : Nat), .int .u64 (m.u : Nat), .int .u64 (m.c : Nat), .bool m.ok, .slice a m.l.length cp, .int .u64 (m.s.i : Nat), .int .u64 (m.s.t : Nat), .slice sa m.s.ks.length sc, .string m.s.d] 29)).alloc (.cells #[.int .u8 (n.k : Nat), .int .u64 (n.t : Nat), .int .u64 (n.x : Nat), .int .u64 (n.u : Nat), .int .u64 (n.c : Nat), .bool n.ok, .slice a2 n.l.length cp2, .int .u64 (n.s.i : Nat), .int .u64 (n.s.t : Nat), .slice sa2 n.s.ks.length sc2, .string n.s.d] 29)) (w.heap.size + 1) [.int .u8 (n.k : Nat), .int .u64 (n.t : Nat), .int .u64 (n.x : Nat), .int .u64 (n.u : Nat), .int .u64 (n.c : Nat), .bool n.ok, .slice a2 n.l.length cp2, .int .u64 (n.s.i : Nat), .int .u64 (n.s.t : Nat), .slice sa2 n.s.ks.length sc2, .string n.s.d] by have h9 := Bxn.made (w.alloc (.cells #[.int .u8 (m.k : Nat), .int .u64 (m.t : Nat), .int .u64 (m.x : Nat), .int .u64 (m.u : Nat), .int .u64 (m.c : Nat), .bool m.ok, .slice a m.l.length cp, .int .u64 (m.s.i : Nat), .int .u64 (m.s.t : Nat), .slice sa m.s.ks.length sc, .string m.s.d] 29)) [.int .u8 (n.k : Nat), .int .u64 (n.t : Nat), .int .u64 (n.x : Nat), .int .u64 (n.u : Nat), .int .u64 (n.c : Nat), .bool n.ok, .slice a2 n.l.length cp2, .int .u64 (n.s.i : Nat), .int .u64 (n.s.t : Nat), .slice sa2 n.s.ks.length sc2, .string n.s.d] 29; rw [World.size_alloc] at h9; exact h9)
  have HM1 := Lib.hid (HM0.out.on hb0)
  have HN1 := Lib.hid (HN0.out.on hb0)
  have KE := Lib.hid (fun z (h : MsgIn z m a cp (.slice sa m.s.ks.length sc)) => msg_encode m a cp _ z h.1 h.2 hl)
  have KF := Lib.hid (fun z (h : MsgIn z n a2 cp2 (.slice sa2 n.s.ks.length sc2)) => msg_encode n a2 cp2 _ z h.1 h.2 hl2)
  have KL := Lib.hid lives
  have HLM := Lib.hid hl
  have HLN := Lib.hid hl2
  unfold mgV at KE KF
  clear hb0 hs hi hl hs2 hi2 hl2 HM0 HN0
  go_enter Try.func8, Try.ntmps8
  go_wp2_with (go_at_call 13; go_loud ((with_reducible refine (KL.out _).mono ?_); rintro e w1 ⟨rfl, hb⟩; have R1 := Lib.hid (R0.out.below hb); have Q1 := Lib.hid (Q0.out.below hb); have c0 : w1.cell? ⟨w.heap.size, 0, none⟩ = some (.int .u8 (m.k : Nat)) := R1.out.cell 0; have c1 : w1.cell? ⟨w.heap.size, 1, none⟩ = some (.int .u64 (m.t : Nat)) := R1.out.cell 1; have c2 : w1.cell? ⟨w.heap.size, 2, none⟩ = some (.int .u64 (m.x : Nat)) := R1.out.cell 2; have c3 : w1.cell? ⟨w.heap.size, 3, none⟩ = some (.int .u64 (m.u : Nat)) := R1.out.cell 3; have c4 : w1.cell? ⟨w.heap.size, 4, none⟩ = some (.int .u64 (m.c : Nat)) := R1.out.cell 4; have c5 : w1.cell? ⟨w.heap.size, 5, none⟩ = some (.bool m.ok) := R1.out.cell 5; have c6 : w1.cell? ⟨w.heap.size, 6, none⟩ = some (.slice a m.l.length cp) := R1.out.cell 6; have c7 : w1.cell? ⟨w.heap.size, 7, none⟩ = some (.int .u64 (m.s.i : Nat)) := R1.out.cell 7; have c8 : w1.cell? ⟨w.heap.size, 8, none⟩ = some (.int .u64 (m.s.t : Nat)) := R1.out.cell 8; have c9 : w1.cell? ⟨w.heap.size, 9, none⟩ = some (.slice sa m.s.ks.length sc) := R1.out.cell 9; have c10 : w1.cell? ⟨w.heap.size, 10, none⟩ = some (.string m.s.d) := R1.out.cell 10; have d0 : w1.cell? ⟨w.heap.size + 1, 0, none⟩ = some (.int .u8 (n.k : Nat)) := Q1.out.cell 0; have d1 : w1.cell? ⟨w.heap.size + 1, 1, none⟩ = some (.int .u64 (n.t : Nat)) := Q1.out.cell 1; have d2 : w1.cell? ⟨w.heap.size + 1, 2, none⟩ = some (.int .u64 (n.x : Nat)) := Q1.out.cell 2; have d3 : w1.cell? ⟨w.heap.size + 1, 3, none⟩ = some (.int .u64 (n.u : Nat)) := Q1.out.cell 3; have d4 : w1.cell? ⟨w.heap.size + 1, 4, none⟩ = some (.int .u64 (n.c : Nat)) := Q1.out.cell 4; have d5 : w1.cell? ⟨w.heap.size + 1, 5, none⟩ = some (.bool n.ok) := Q1.out.cell 5; have d6 : w1.cell? ⟨w.heap.size + 1, 6, none⟩ = some (.slice a2 n.l.length cp2) := Q1.out.cell 6; have d7 : w1.cell? ⟨w.heap.size + 1, 7, none⟩ = some (.int .u64 (n.s.i : Nat)) := Q1.out.cell 7; have d8 : w1.cell? ⟨w.heap.size + 1, 8, none⟩ = some (.int .u64 (n.s.t : Nat)) := Q1.out.cell 8; have d9 : w1.cell? ⟨w.heap.size + 1, 9, none⟩ = some (.slice sa2 n.s.ks.length sc2) := Q1.out.cell 9; have d10 : w1.cell? ⟨w.heap.size + 1, 10, none⟩ = some (.string n.s.d) := Q1.out.cell 10; have HM2 := Lib.hid (HM1.out.on hb); have HN2 := Lib.hid (HN1.out.on hb); have HB1 := Lib.hid (HB0.out.trans (hb.mono HB0.out.size)); clear hb))
  cases hk : okM m
  · rw [erM_f hk] at KE
    clear hk
    go_wp2_with (go_at_call 9; go_loud ((with_reducible refine (KE.out _ HM2.out).mono ?_); rintro e w2 ⟨rfl, hb⟩; have Q2 := Lib.hid (Q1.out.below hb); have e0 : w2.cell? ⟨w.heap.size + 1, 0, none⟩ = some (.int .u8 (n.k : Nat)) := Q2.out.cell 0; have e1 : w2.cell? ⟨w.heap.size + 1, 1, none⟩ = some (.int .u64 (n.t : Nat)) := Q2.out.cell 1; have e2 : w2.cell? ⟨w.heap.size + 1, 2, none⟩ = some (.int .u64 (n.x : Nat)) := Q2.out.cell 2; have e3 : w2.cell? ⟨w.heap.size + 1, 3, none⟩ = some (.int .u64 (n.u : Nat)) := Q2.out.cell 3; have e4 : w2.cell? ⟨w.heap.size + 1, 4, none⟩ = some (.int .u64 (n.c : Nat)) := Q2.out.cell 4; have e5 : w2.cell? ⟨w.heap.size + 1, 5, none⟩ = some (.bool n.ok) := Q2.out.cell 5; have e6 : w2.cell? ⟨w.heap.size + 1, 6, none⟩ = some (.slice a2 n.l.length cp2) := Q2.out.cell 6; have e7 : w2.cell? ⟨w.heap.size + 1, 7, none⟩ = some (.int .u64 (n.s.i : Nat)) := Q2.out.cell 7; have e8 : w2.cell? ⟨w.heap.size + 1, 8, none⟩ = some (.int .u64 (n.s.t : Nat)) := Q2.out.cell 8; have e9 : w2.cell? ⟨w.heap.size + 1, 9, none⟩ = some (.slice sa2 n.s.ks.length sc2) := Q2.out.cell 9; have e10 : w2.cell? ⟨w.heap.size + 1, 10, none⟩ = some (.string n.s.d) := Q2.out.cell 10; have HN3 := Lib.hid (HN2.out.on hb); have HB2 := Lib.hid (HB1.out.trans (hb.mono HB1.out.size)); clear hb))
    go_wp2_with (go_at_call 9; go_loud ((with_reducible refine (KF.out _ HN3.out).mono ?_); rintro e w3 ⟨rfl, hb⟩; have HB3 := Lib.hid (HB2.out.trans (hb.mono HB2.out.size)); clear hb))
    go_wp2
    go_ret
    exact ⟨rfl, HB3.out⟩
  · have hrt := (okM_iff m).1 hk
    rw [erM_t hk, show enM m = frm (mgB m) by unfold enM; rw [if_pos hk]] at KE
    clear hk
    have hlm := mgB_len hrt HLM.out
    obtain ⟨f1, f2⟩ := bsF_size (mgB m) hlm
    go_wp2_with (go_at_call 9; go_loud ((with_reducible refine (KE.out _ HM2.out).mono ?_); rintro e w2 ⟨rfl, hb⟩; have R2 := Lib.hid (R1.out.below hb); have Q2 := Lib.hid (Q1.out.below hb); have e0 : w2.cell? ⟨w.heap.size + 1, 0, none⟩ = some (.int .u8 (n.k : Nat)) := Q2.out.cell 0; have e1 : w2.cell? ⟨w.heap.size + 1, 1, none⟩ = some (.int .u64 (n.t : Nat)) := Q2.out.cell 1; have e2 : w2.cell? ⟨w.heap.size + 1, 2, none⟩ = some (.int .u64 (n.x : Nat)) := Q2.out.cell 2; have e3 : w2.cell? ⟨w.heap.size + 1, 3, none⟩ = some (.int .u64 (n.u : Nat)) := Q2.out.cell 3; have e4 : w2.cell? ⟨w.heap.size + 1, 4, none⟩ = some (.int .u64 (n.c : Nat)) := Q2.out.cell 4; have e5 : w2.cell? ⟨w.heap.size + 1, 5, none⟩ = some (.bool n.ok) := Q2.out.cell 5; have e6 : w2.cell? ⟨w.heap.size + 1, 6, none⟩ = some (.slice a2 n.l.length cp2) := Q2.out.cell 6; have e7 : w2.cell? ⟨w.heap.size + 1, 7, none⟩ = some (.int .u64 (n.s.i : Nat)) := Q2.out.cell 7; have e8 : w2.cell? ⟨w.heap.size + 1, 8, none⟩ = some (.int .u64 (n.s.t : Nat)) := Q2.out.cell 8; have e9 : w2.cell? ⟨w.heap.size + 1, 9, none⟩ = some (.slice sa2 n.s.ks.length sc2) := Q2.out.cell 9; have e10 : w2.cell? ⟨w.heap.size + 1, 10, none⟩ = some (.string n.s.d) := Q2.out.cell 10; have HM3 := Lib.hid (HM2.out.on hb); have HN3 := Lib.hid (HN2.out.on hb); have HB2 := Lib.hid (HB1.out.trans (hb.mono HB1.out.size)); clear hb))
    cases hk2 : okM n
    · rw [erM_f hk2] at KF
      clear hk2
      go_wp2_with (go_at_call 9; go_loud ((with_reducible refine (KF.out _ HN3.out).mono ?_); rintro e w3 ⟨rfl, hb⟩; have HB3 := Lib.hid (HB2.out.trans (hb.mono HB2.out.size)); clear hb))
      go_wp2
      go_ret
      exact ⟨rfl, HB3.out⟩
    · have hrt2 := (okM_iff n).1 hk2
      rw [erM_t hk2, show enM n = frm (mgB n) by unfold enM; rw [if_pos hk2]] at KF
      clear hk2
      have hln := mgB_len hrt2 HLN.out
      obtain ⟨g1, g2⟩ := bsF_size (mgB n) hln
      have D1 := Lib.hid (dec_two (mgB m) (mgB n) hlm hln)
      have D2 := Lib.hid (dec_less (mgB m) hlm)
      clear hrt hrt2 hlm hln HLM HLN
      generalize bs (frm (mgB m)) = q at *
      generalize bs (frm (mgB n)) = q2 at *
      have z1 : q.size + q2.size ≤ 9223372036854775807 := by omega
      have z2 : ¬ 9223372036854775807 < q.size + q2.size := by omega
      have z3 : q.size + q2.size ≤ maxLen := by unfold maxLen; omega
      have z4 : 1 ≤ q.size := by omega
      have z5 : (1 : Int) ≤ (q.size : Int) := by omega
      go_wp2_with (go_at_call 9; go_loud ((with_reducible refine (KF.out _ HN3.out).mono ?_); rintro e w3 ⟨rfl, hb⟩; have HB3 := Lib.hid (HB2.out.trans (hb.mono HB2.out.size)); clear hb))
      go_wp2_with fail
      refine (D1.out _).mono ?_
      rintro e w4 ⟨⟨a4, c4, u4, e4, rfl, -⟩, hb⟩
      have HB4 := Lib.hid (HB3.out.trans (hb.mono HB3.out.size))
      clear hb
      go_wp2_with fail
      refine (D2.out _).mono ?_
      rintro e w5 ⟨⟨a5, c5, u5, e5, rfl, -⟩, hb⟩
      have HB5 := Lib.hid ((HB4.out.alloc HB4.out.size (.cells #[.int .u8 0, .int .u64 0, .int .u64 0, .int .u64 0, .int .u64 0, .bool false, .slice a4 0 c4, .int .u64 0, .int .u64 0, .slice u4 0 e4, .string ⟨#[]⟩] 29)).trans (hb.mono (Nat.le_trans HB4.out.size (by simp))))
      clear hb
      go_wp2
      go_ret
      exact ⟨rfl, HB5.out.alloc HB5.out.size _⟩
end Hd
end Go.Proofs.Ytlkdjnnlbccjdaa
