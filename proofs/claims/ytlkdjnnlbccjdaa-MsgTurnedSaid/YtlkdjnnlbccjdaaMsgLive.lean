/-
  lives of gafferlaw13 is true.
-/
import Derived.Test.YtlkdjnnlbccjdaaMgS
namespace Go.Proofs.Ytlkdjnnlbccjdaa
open Go.RowKit
namespace Hd
open PM
set_option linter.unusedVariables false
/-- A message's memory. -/
def MsgIn (w : World) (m : Mg) (a : Option Addr) (cp : Nat) (v : Value) : Prop := Lo.Sl w 0 w.heap.size a cp m.l ∧ Lo.IntsR w 0 w.heap.size v m.s.ks
theorem MsgIn.on {w w' : World} {m : Mg} {a : Option Addr} {cp : Nat} {v : Value} (h : MsgIn w m a cp v) (hb : Below w.heap.size w w') : MsgIn w' m a cp v :=
  ⟨(h.1.keep hb).more hb.size (Nat.le_refl _), (h.2.keep hb).more hb.size (Nat.le_refl _)⟩
theorem dec_yes {m : Mg} (hr : Rt m) (hf : Lts m) (w : World) :
    Calls Try.prog 11 #[.string (bs (frm (mgB m)))] w fun e w' => (∃ a cp v, e = .returned (.tuple #[mgV m a cp v, .int .i64 0]) ∧ MsgIn w' m a cp v) ∧ Below w.heap.size w w' := by
  obtain ⟨h1, h2, h3⟩ := de_whole hr hf
  have hl := mgB_len hr hf
  refine (msg_decode (frm (mgB m)) w (by rw [frm_length]; simp only [maxLen]; omega)).mono ?_
  rintro e w' ⟨⟨a, cp, v, he, hs, hi⟩, hb⟩
  rw [h2, h3] at he
  rw [h2] at hs hi
  exact ⟨⟨a, cp, v, he, hs.more (Nat.le_refl _) (Nat.zero_le _), hi.more (Nat.le_refl _) (Nat.zero_le _)⟩, hb⟩
/-- What is told of bytes that are none. -/
def NoM (e : Ending) (w' : World) : Prop := ∃ a cp u d, e = .returned (.tuple #[.agg #[.int .u8 0, .int .u64 0, .int .u64 0, .int .u64 0, .int .u64 0, .bool false, .slice a 0 cp, .int .u64 0, .int .u64 0, .slice u 0 d, .string ⟨#[]⟩], .int .i64 4]) ∧ MsgIn w' mg0 a cp (.slice u 0 d)
theorem dec_no (l : List UInt8) (hl : l.length ≤ maxLen) (h : dmOk l = false) (w : World) :
    Calls Try.prog 11 #[.string (bs l)] w fun e w' => NoM e w' ∧ Below w.heap.size w w' := by
  obtain ⟨h3, h2⟩ := de_no h
  refine (msg_decode l w hl).mono ?_
  rintro e w' ⟨⟨a, cp, v, he, hs, hi⟩, hb⟩
  rw [h2, h3] at he
  rw [h2] at hs hi
  obtain ⟨u, d, hv⟩ := hi.slice
  have hv2 : v = .slice u 0 d := hv
  subst hv2
  exact ⟨⟨a, cp, u, d, he, hs.more (Nat.le_refl _) (Nat.zero_le _), hi.more (Nat.le_refl _) (Nat.zero_le _)⟩, hb⟩
def m00 : Mg := ⟨2, 2, 0, 0, 0, true, [], sn0⟩
theorem m00_rt : Rt m00 := (okM_iff _).1 (by decide +kernel)
theorem m00_lts : Lts m00 := ⟨by decide, by decide, by decide, by decide, by decide, by decide, by decide, by intro e he; cases he⟩
theorem m00_b : mgB m00 = [1, 2, 1, 2, 1, 1] := by decide +kernel
theorem m00_f : frm [1, 2, 1, 2, 1, 1] = frm (mgB m00) := by rw [m00_b]
theorem m00_len : (bs (frm (mgB m00))).size = 12 := by rw [bs_size, frm_length, m00_b]; rfl
theorem enc00 (w : World) : Calls Try.prog 9 #[.agg #[.int .u8 2, .int .u64 2, .int .u64 0, .int .u64 0, .int .u64 0, .bool true, .slice none 0 0, .int .u64 0, .int .u64 0, .slice none 0 0, .string ⟨#[]⟩]] w fun e w' => e = .returned (.tuple #[.string (bs (frm (mgB m00))), .int .i64 0]) ∧ Below w.heap.size w w' := by
  have h := msg_encode m00 none 0 (.slice none 0 0) w (A := 0) (Lo.Sl.empty _ _ _ _ _ (fun _ => rfl)) (intsR_nil _ _ _) m00_lts
  have e1 : enM m00 = frm (mgB m00) := by unfold enM; rw [if_pos ((okM_iff _).2 m00_rt)]
  rw [e1, erM_t ((okM_iff _).2 m00_rt)] at h
  exact h
theorem frame00 (w : World) : Calls Try.prog 18 #[.string ⟨#[1, 2, 1, 2, 1, 1]⟩] w fun e w' => e = .returned (.tuple #[.string (bs (frm (mgB m00))), .int .i64 0]) ∧ Below w.heap.size w w' := by
  have hq : (⟨#[1, 2, 1, 2, 1, 1]⟩ : ByteArray) = bs (mgB m00) := by rw [m00_b]; rfl
  rw [hq]
  refine (PackFrame.frame_own (bs (mgB m00)) w (by rw [bs_size, m00_b]; decide)).mono ?_
  rintro e w' ⟨he, hb⟩
  refine ⟨?_, hb⟩
  unfold PackFrame.Framed PackFrame.frS PackFrame.frW at he
  rw [if_neg (by rw [bs_size, m00_b]; decide), if_neg (by rw [bs_size, m00_b]; decide), bs_data] at he
  exact he
theorem dec00 (w : World) : Calls Try.prog 11 #[.string (bs (frm (mgB m00)))] w fun e w' => (∃ a c u d, e = .returned (.tuple #[.agg #[.int .u8 2, .int .u64 2, .int .u64 0, .int .u64 0, .int .u64 0, .bool true, .slice a 0 c, .int .u64 0, .int .u64 0, .slice u 0 d, .string ⟨#[]⟩], .int .i64 0]) ∧ MsgIn w' m00 a c (.slice u 0 d)) ∧ Below w.heap.size w w' := by
  refine (dec_yes m00_rt m00_lts w).mono ?_
  rintro e w' ⟨⟨a, cp, v, he, hm⟩, hb⟩
  obtain ⟨u, d, hv⟩ := hm.2.slice
  have hv2 : v = .slice u 0 d := hv
  subst hv2
  exact ⟨⟨a, cp, u, d, he, hm⟩, hb⟩
theorem dec01 (w : World) : Calls Try.prog 11 #[.string (bs (frm (mgB m00)) ++ ⟨#[120]⟩)] w fun e w' => NoM e w' ∧ Below w.heap.size w w' := by
  have hl := mgB_len m00_rt m00_lts
  have h := dec_no (frm (mgB m00) ++ [120]) (by rw [List.length_append, frm_length]; simp only [maxLen, List.length_cons, List.length_nil]; omega) (de_more hl (by simp)) w
  rw [show bs (frm (mgB m00) ++ [120]) = bs (frm (mgB m00)) ++ ⟨#[120]⟩ from (bs_append _ _).symm] at h
  exact h
theorem same00 (a : Option Addr) (c : Nat) (u : Option Addr) (d : Nat) (w : World) (h : MsgIn w m00 a c (.slice u 0 d)) : Calls Try.prog 14 #[.agg #[.int .u8 2, .int .u64 2, .int .u64 0, .int .u64 0, .int .u64 0, .bool true, .slice none 0 0, .int .u64 0, .int .u64 0, .slice none 0 0, .string ⟨#[]⟩], .agg #[.int .u8 2, .int .u64 2, .int .u64 0, .int .u64 0, .int .u64 0, .bool true, .slice a 0 c, .int .u64 0, .int .u64 0, .slice u 0 d, .string ⟨#[]⟩]] w fun e w' => e = .returned (.bool true) ∧ Below w.heap.size w w' := by
  have := same_msg m00 none 0 (.slice none 0 0) m00 a c (.slice u 0 d) w (A1 := 0) (A2 := 0) (Lo.Sl.empty _ _ _ _ _ (fun _ => rfl)) (intsR_nil _ _ _) h.1 h.2
  rw [smM_self] at this
  exact this
set_option maxRecDepth 100000 in
set_option maxHeartbeats 4000000 in
theorem lives (w : World) : Calls Try.prog 13 #[] w fun e w' => e = .returned (.bool true) ∧ Below w.heap.size w w' := by
  have HLN := Lib.hid m00_len
  have K1 := Lib.hid enc00
  have K2 := Lib.hid frame00
  have K3 := Lib.hid dec00
  have K4 := Lib.hid dec01
  have K5 := Lib.hid same00
  have hlen := m00_len
  generalize bs (frm (mgB m00)) = q at *
  have s0 : ((q.size : Nat) : Int) = 12 := by rw [hlen]; rfl
  have s1 : (q.size : Int) == 12 := by rw [hlen]; rfl
  clear hlen
  have HB0 : Hid (Below w.heap.size w (w.alloc (.cells #[.int .u8 2, .int .u64 2, .int .u64 0, .int .u64 0, .int .u64 0, .bool true, .slice none 0 0, .int .u64 0, .int .u64 0, .slice none 0 0, .string ⟨#[]⟩] 29))) := (Below.refl _ _).alloc (Nat.le_refl _) _
  have R0 := Lib.hid (show Bxn (w.alloc (.cells #[.int .u8 2, .int .u64 2, .int .u64 0, .int .u64 0, .int .u64 0, .bool true, .slice none 0 0, .int .u64 0, .int .u64 0, .slice none 0 0, .string ⟨#[]⟩] 29)) w.heap.size [.int .u8 2, .int .u64 2, .int .u64 0, .int .u64 0, .int .u64 0, .bool true, .slice none 0 0, .int .u64 0, .int .u64 0, .slice none 0 0, .string ⟨#[]⟩] from Bxn.made w _ _)
  go_enter Try.func13, Try.ntmps13
  go_wp2_with (go_at_call 9; go_loud ((with_reducible refine (K1.out _).mono ?_); rintro e w1 ⟨rfl, hb⟩; have R1 := Lib.hid (R0.out.below hb); have HB1 := Lib.hid (HB0.out.trans (hb.mono HB0.out.size)); clear hb))
  go_wp2_with (go_at_call 18; go_loud ((with_reducible refine (K2.out _).mono ?_); rintro e w2 ⟨rfl, hb⟩; have R2 := Lib.hid (R1.out.below hb); have HB2 := Lib.hid (HB1.out.trans (hb.mono HB1.out.size)); clear hb))
  go_wp2_with fail
  refine (K3.out _).mono ?_
  rintro e w3 ⟨⟨a, c, u, d, rfl, hm⟩, hb⟩
  have hz3 : w2.heap.size ≤ w3.heap.size := hb.size
  have R3 := Lib.hid ((R2.out.below hb).below ((Below.refl _ _).alloc (Nat.le_refl _) (.cells #[.int .u8 2, .int .u64 2, .int .u64 0, .int .u64 0, .int .u64 0, .bool true, .slice a 0 c, .int .u64 0, .int .u64 0, .slice u 0 d, .string ⟨#[]⟩] 29)))
  have E3 := Lib.hid (show Bxn (w3.alloc (.cells #[.int .u8 2, .int .u64 2, .int .u64 0, .int .u64 0, .int .u64 0, .bool true, .slice a 0 c, .int .u64 0, .int .u64 0, .slice u 0 d, .string ⟨#[]⟩] 29)) w3.heap.size [.int .u8 2, .int .u64 2, .int .u64 0, .int .u64 0, .int .u64 0, .bool true, .slice a 0 c, .int .u64 0, .int .u64 0, .slice u 0 d, .string ⟨#[]⟩] from Bxn.made w3 _ _)
  have HB3 := Lib.hid ((HB2.out.trans (hb.mono HB2.out.size)).alloc (Nat.le_trans HB2.out.size hb.size) (.cells #[.int .u8 2, .int .u64 2, .int .u64 0, .int .u64 0, .int .u64 0, .bool true, .slice a 0 c, .int .u64 0, .int .u64 0, .slice u 0 d, .string ⟨#[]⟩] 29))
  have HM3 := Lib.hid (hm.on ((Below.refl _ _).alloc (Nat.le_refl _) (.cells #[.int .u8 2, .int .u64 2, .int .u64 0, .int .u64 0, .int .u64 0, .bool true, .slice a 0 c, .int .u64 0, .int .u64 0, .slice u 0 d, .string ⟨#[]⟩] 29)))
  clear hb hm
  have hw3 : w.heap.size < w3.heap.size := by have := R2.out.lt; have := HB3.out.size; have h9 := hz3; omega
  go_wp2_with fail
  generalize (w3.alloc (.cells #[.int .u8 2, .int .u64 2, .int .u64 0, .int .u64 0, .int .u64 0, .bool true, .slice a 0 c, .int .u64 0, .int .u64 0, .slice u 0 d, .string ⟨#[]⟩] 29)) = X3 at *
  generalize w3.heap.size = E at *
  refine (K4.out _).mono ?_
  rintro e w4 ⟨⟨a2, c2, u2, d2, rfl, hm⟩, hb⟩
  have hbA : Below w4.heap.size w4 (w4.alloc (.cells #[.int .u8 0, .int .u64 0, .int .u64 0, .int .u64 0, .int .u64 0, .bool false, .slice a2 0 c2, .int .u64 0, .int .u64 0, .slice u2 0 d2, .string ⟨#[]⟩] 29)) := (Below.refl _ _).alloc (Nat.le_refl _) _
  have R4 := Lib.hid ((R3.out.below hb).below hbA)
  have E4 := Lib.hid ((E3.out.below hb).below hbA)
  have HB4 := Lib.hid ((HB3.out.trans (hb.mono HB3.out.size)).trans (hbA.mono (Nat.le_trans HB3.out.size hb.size)))
  have HM4 := Lib.hid ((HM3.out.on hb).on hbA)
  clear hb hm hbA
  have x0 : (w4.alloc (.cells #[.int .u8 0, .int .u64 0, .int .u64 0, .int .u64 0, .int .u64 0, .bool false, .slice a2 0 c2, .int .u64 0, .int .u64 0, .slice u2 0 d2, .string ⟨#[]⟩] 29)).cell? ⟨w.heap.size, 0, none⟩ = some (.int .u8 2) := R4.out.cell 0
  have y0 : (w4.alloc (.cells #[.int .u8 0, .int .u64 0, .int .u64 0, .int .u64 0, .int .u64 0, .bool false, .slice a2 0 c2, .int .u64 0, .int .u64 0, .slice u2 0 d2, .string ⟨#[]⟩] 29)).cell? ⟨E, 0, none⟩ = some (.int .u8 2) := E4.out.cell 0
  have x1 : (w4.alloc (.cells #[.int .u8 0, .int .u64 0, .int .u64 0, .int .u64 0, .int .u64 0, .bool false, .slice a2 0 c2, .int .u64 0, .int .u64 0, .slice u2 0 d2, .string ⟨#[]⟩] 29)).cell? ⟨w.heap.size, 1, none⟩ = some (.int .u64 2) := R4.out.cell 1
  have y1 : (w4.alloc (.cells #[.int .u8 0, .int .u64 0, .int .u64 0, .int .u64 0, .int .u64 0, .bool false, .slice a2 0 c2, .int .u64 0, .int .u64 0, .slice u2 0 d2, .string ⟨#[]⟩] 29)).cell? ⟨E, 1, none⟩ = some (.int .u64 2) := E4.out.cell 1
  have x2 : (w4.alloc (.cells #[.int .u8 0, .int .u64 0, .int .u64 0, .int .u64 0, .int .u64 0, .bool false, .slice a2 0 c2, .int .u64 0, .int .u64 0, .slice u2 0 d2, .string ⟨#[]⟩] 29)).cell? ⟨w.heap.size, 2, none⟩ = some (.int .u64 0) := R4.out.cell 2
  have y2 : (w4.alloc (.cells #[.int .u8 0, .int .u64 0, .int .u64 0, .int .u64 0, .int .u64 0, .bool false, .slice a2 0 c2, .int .u64 0, .int .u64 0, .slice u2 0 d2, .string ⟨#[]⟩] 29)).cell? ⟨E, 2, none⟩ = some (.int .u64 0) := E4.out.cell 2
  have x3 : (w4.alloc (.cells #[.int .u8 0, .int .u64 0, .int .u64 0, .int .u64 0, .int .u64 0, .bool false, .slice a2 0 c2, .int .u64 0, .int .u64 0, .slice u2 0 d2, .string ⟨#[]⟩] 29)).cell? ⟨w.heap.size, 3, none⟩ = some (.int .u64 0) := R4.out.cell 3
  have y3 : (w4.alloc (.cells #[.int .u8 0, .int .u64 0, .int .u64 0, .int .u64 0, .int .u64 0, .bool false, .slice a2 0 c2, .int .u64 0, .int .u64 0, .slice u2 0 d2, .string ⟨#[]⟩] 29)).cell? ⟨E, 3, none⟩ = some (.int .u64 0) := E4.out.cell 3
  have x4 : (w4.alloc (.cells #[.int .u8 0, .int .u64 0, .int .u64 0, .int .u64 0, .int .u64 0, .bool false, .slice a2 0 c2, .int .u64 0, .int .u64 0, .slice u2 0 d2, .string ⟨#[]⟩] 29)).cell? ⟨w.heap.size, 4, none⟩ = some (.int .u64 0) := R4.out.cell 4
  have y4 : (w4.alloc (.cells #[.int .u8 0, .int .u64 0, .int .u64 0, .int .u64 0, .int .u64 0, .bool false, .slice a2 0 c2, .int .u64 0, .int .u64 0, .slice u2 0 d2, .string ⟨#[]⟩] 29)).cell? ⟨E, 4, none⟩ = some (.int .u64 0) := E4.out.cell 4
  have x5 : (w4.alloc (.cells #[.int .u8 0, .int .u64 0, .int .u64 0, .int .u64 0, .int .u64 0, .bool false, .slice a2 0 c2, .int .u64 0, .int .u64 0, .slice u2 0 d2, .string ⟨#[]⟩] 29)).cell? ⟨w.heap.size, 5, none⟩ = some (.bool true) := R4.out.cell 5
  have y5 : (w4.alloc (.cells #[.int .u8 0, .int .u64 0, .int .u64 0, .int .u64 0, .int .u64 0, .bool false, .slice a2 0 c2, .int .u64 0, .int .u64 0, .slice u2 0 d2, .string ⟨#[]⟩] 29)).cell? ⟨E, 5, none⟩ = some (.bool true) := E4.out.cell 5
  have x6 : (w4.alloc (.cells #[.int .u8 0, .int .u64 0, .int .u64 0, .int .u64 0, .int .u64 0, .bool false, .slice a2 0 c2, .int .u64 0, .int .u64 0, .slice u2 0 d2, .string ⟨#[]⟩] 29)).cell? ⟨w.heap.size, 6, none⟩ = some (.slice none 0 0) := R4.out.cell 6
  have y6 : (w4.alloc (.cells #[.int .u8 0, .int .u64 0, .int .u64 0, .int .u64 0, .int .u64 0, .bool false, .slice a2 0 c2, .int .u64 0, .int .u64 0, .slice u2 0 d2, .string ⟨#[]⟩] 29)).cell? ⟨E, 6, none⟩ = some (.slice a 0 c) := E4.out.cell 6
  have x7 : (w4.alloc (.cells #[.int .u8 0, .int .u64 0, .int .u64 0, .int .u64 0, .int .u64 0, .bool false, .slice a2 0 c2, .int .u64 0, .int .u64 0, .slice u2 0 d2, .string ⟨#[]⟩] 29)).cell? ⟨w.heap.size, 7, none⟩ = some (.int .u64 0) := R4.out.cell 7
  have y7 : (w4.alloc (.cells #[.int .u8 0, .int .u64 0, .int .u64 0, .int .u64 0, .int .u64 0, .bool false, .slice a2 0 c2, .int .u64 0, .int .u64 0, .slice u2 0 d2, .string ⟨#[]⟩] 29)).cell? ⟨E, 7, none⟩ = some (.int .u64 0) := E4.out.cell 7
  have x8 : (w4.alloc (.cells #[.int .u8 0, .int .u64 0, .int .u64 0, .int .u64 0, .int .u64 0, .bool false, .slice a2 0 c2, .int .u64 0, .int .u64 0, .slice u2 0 d2, .string ⟨#[]⟩] 29)).cell? ⟨w.heap.size, 8, none⟩ = some (.int .u64 0) := R4.out.cell 8
  have y8 : (w4.alloc (.cells #[.int .u8 0, .int .u64 0, .int .u64 0, .int .u64 0, .int .u64 0, .bool false, .slice a2 0 c2, .int .u64 0, .int .u64 0, .slice u2 0 d2, .string ⟨#[]⟩] 29)).cell? ⟨E, 8, none⟩ = some (.int .u64 0) := E4.out.cell 8
  have x9 : (w4.alloc (.cells #[.int .u8 0, .int .u64 0, .int .u64 0, .int .u64 0, .int .u64 0, .bool false, .slice a2 0 c2, .int .u64 0, .int .u64 0, .slice u2 0 d2, .string ⟨#[]⟩] 29)).cell? ⟨w.heap.size, 9, none⟩ = some (.slice none 0 0) := R4.out.cell 9
  have y9 : (w4.alloc (.cells #[.int .u8 0, .int .u64 0, .int .u64 0, .int .u64 0, .int .u64 0, .bool false, .slice a2 0 c2, .int .u64 0, .int .u64 0, .slice u2 0 d2, .string ⟨#[]⟩] 29)).cell? ⟨E, 9, none⟩ = some (.slice u 0 d) := E4.out.cell 9
  have x10 : (w4.alloc (.cells #[.int .u8 0, .int .u64 0, .int .u64 0, .int .u64 0, .int .u64 0, .bool false, .slice a2 0 c2, .int .u64 0, .int .u64 0, .slice u2 0 d2, .string ⟨#[]⟩] 29)).cell? ⟨w.heap.size, 10, none⟩ = some (.string ⟨#[]⟩) := R4.out.cell 10
  have y10 : (w4.alloc (.cells #[.int .u8 0, .int .u64 0, .int .u64 0, .int .u64 0, .int .u64 0, .bool false, .slice a2 0 c2, .int .u64 0, .int .u64 0, .slice u2 0 d2, .string ⟨#[]⟩] 29)).cell? ⟨E, 10, none⟩ = some (.string ⟨#[]⟩) := E4.out.cell 10
  go_wp2_with (go_at_call 14; go_loud ((with_reducible refine (K5.out _ _ _ _ _ HM4.out).mono ?_); rintro e w5 ⟨rfl, hb⟩; have HB5 := Lib.hid (HB4.out.trans (hb.mono HB4.out.size)); clear hb))
  go_wp2
  go_ret
  exact ⟨rfl, HB5.out⟩
end Hd
end Go.Proofs.Ytlkdjnnlbccjdaa
