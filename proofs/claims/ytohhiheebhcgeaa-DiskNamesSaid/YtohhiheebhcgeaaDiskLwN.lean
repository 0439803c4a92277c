/-
  LAW: DiskNames.
-/
import Derived.Test.YtohhiheebhcgeaaDiskRf6
namespace Go.Proofs.Ytohhiheebhcgeaa
open Go.RowKit Go.Lib Go.Sort
namespace Dk

set_option maxRecDepth 100000 in
set_option maxHeartbeats 8000000 in
theorem diskNames (v : Value) (dn : Bool) (fu : Int) (fs : List Fl) (nm to : ByteArray) (w : World) (hv : Files w w.heap.size v fs) (hlo : -9223372036854775808 ≤ fu) (hhi : fu ≤ 9223372036854775807) (h40 : fs.length * 40 ≤ 140737488355328) :
    Calls Try.prog 4 #[.agg #[v, .bool dn, .int .i64 fu], .string nm, .string to] w fun e w' => e = .returned (.bool true) ∧ Below w.heap.size w w' := by
  have HV := Lib.hid hv
  obtain ⟨a, c, rfl, -⟩ := hv
  have HS0 := Lib.hid (St.made (dn := dn) (fu := fu) HV.out)
  have h1 := copy_ref _ dn fu fs _ HS0.out.files h40
  have HF := Lib.hid HV.out.fine
  have HL := Lib.hid HV.out.len
  have HP0 : Hid (∀ (w1 : World) (a1 : Option Addr) (c1 : Nat), Files w1 w1.heap.size (.slice a1 fs.length c1) fs → Calls Try.prog 20 #[.agg #[.slice a1 fs.length c1, .bool dn, .int .i64 fu], .string nm, .string to] w1 (DoIs w1 (swpO fs dn fu nm to).fs (swpO fs dn fu nm to).dn (swpO fs dn fu nm to).fu (swpO fs dn fu nm to).r)) := fun w1 a1 c1 hf => swap_all _ fs dn fu nm to hlo hhi w1 hf
  have HQ0 : Hid (∀ (w1 : World) (a1 : Option Addr) (c1 : Nat), Files w1 w1.heap.size (.slice a1 fs.length c1) fs → Calls Try.prog 21 #[.agg #[.slice a1 fs.length c1, .bool dn, .int .i64 fu], .string nm, .string to] w1 (DoIs w1 (swpO fs dn fu nm to).fs (swpO fs dn fu nm to).dn (swpO fs dn fu nm to).fu (swpO fs dn fu nm to).r)) := fun w1 a1 c1 hf => swap_ref _ fs dn fu nm to hlo hhi h40 w1 hf
  obtain ⟨hf0, hl0⟩ := (swpO_fine HF.out HL.out : Fine (swpO fs dn fu nm to).fs ∧ (swpO fs dn fu nm to).fs.length ≤ 4611686018427387904)
  generalize swpO fs dn fu nm to = O0 at *
  rcases O0 with ⟨gs0, dn0, fu0, r0⟩
  simp only at HP0 HQ0 hf0 hl0
  have HF0 := Lib.hid hf0
  have HL0 := Lib.hid hl0
  clear hf0 hl0
  have HP1 : Hid (∀ (w1 : World) (a1 : Option Addr) (c1 : Nat), Files w1 w1.heap.size (.slice a1 fs.length c1) fs → Calls Try.prog 22 #[.agg #[.slice a1 fs.length c1, .bool dn, .int .i64 fu], .string nm] w1 (DoIs w1 (drpO fs dn fu nm).fs (drpO fs dn fu nm).dn (drpO fs dn fu nm).fu (drpO fs dn fu nm).r)) := fun w1 a1 c1 hf => drop_all _ fs dn fu nm hlo hhi w1 hf
  have HQ1 : Hid (∀ (w1 : World) (a1 : Option Addr) (c1 : Nat), Files w1 w1.heap.size (.slice a1 fs.length c1) fs → Calls Try.prog 23 #[.agg #[.slice a1 fs.length c1, .bool dn, .int .i64 fu], .string nm] w1 (DoIs w1 (drpO fs dn fu nm).fs (drpO fs dn fu nm).dn (drpO fs dn fu nm).fu (drpO fs dn fu nm).r)) := fun w1 a1 c1 hf => drop_ref _ fs dn fu nm hlo hhi h40 w1 hf
  obtain ⟨hf1, hl1⟩ := (drpO_fine HF.out HL.out : Fine (drpO fs dn fu nm).fs ∧ (drpO fs dn fu nm).fs.length ≤ 4611686018427387904)
  generalize drpO fs dn fu nm = O1 at *
  rcases O1 with ⟨gs1, dn1, fu1, r1⟩
  simp only at HP1 HQ1 hf1 hl1
  have HF1 := Lib.hid hf1
  have HL1 := Lib.hid hl1
  clear hf1 hl1
  clear h40
  go_enter Try.func4, Try.ntmps4
  go_wp2_with (go_at_call 11; go_loud (refine h1.mono ?_; intro e w1 hc; obtain ⟨a1, c1, rfl, hb, hg⟩ := hc.var HS0.out.below HF.out HL.out; obtain ⟨hd, d0, d1, d2, dl⟩ := HS0.out.next hb (.cells #[.slice a1 fs.length c1, .bool dn, .int .i64 fu] 24); have HG1 := Lib.hid hg; have HD1 := Lib.hid hd; clear hc hb hg hd HS0))
  go_wp2_with (go_at_call 20; go_loud (refine (HP0.out _ _ _ HG1.out.files).mono ?_; intro e w2 hc; obtain ⟨a2, c2, rfl, hb, hz⟩ := hc.var HG1.out.below HF0.out HL0.out; obtain ⟨hd, d0, d1, d2, dl⟩ := HD1.out.next hb (.cells #[.slice a2 gs0.length c2, .bool dn0, .int .i64 fu0] 24); obtain ⟨hg, g0, g1, g2, gl⟩ := HG1.out.next hb (.cells #[.slice a2 gs0.length c2, .bool dn0, .int .i64 fu0] 24); have HV0P2 := Lib.hid hz; have HD2 := Lib.hid hd; have HG2 := Lib.hid hg; clear hc hb hz hd hg HD1 HG1 ))
  go_wp2_with (go_at_call 21; go_loud (refine (HQ0.out _ _ _ HD2.out.files).mono ?_; intro e w3 hc; obtain ⟨a3, c3, rfl, hb, hz⟩ := hc.var HD2.out.below HF0.out HL0.out; obtain ⟨hd, d0, d1, d2, dl⟩ := HD2.out.next hb (.cells #[.slice a3 gs0.length c3, .bool dn0, .int .i64 fu0] 24); obtain ⟨hg, g0, g1, g2, gl⟩ := HG2.out.next hb (.cells #[.slice a3 gs0.length c3, .bool dn0, .int .i64 fu0] 24); have HV0P3 := Lib.hid (HV0P2.out.next hb (.cells #[.slice a3 gs0.length c3, .bool dn0, .int .i64 fu0] 24)).1; have HV0Q3 := Lib.hid hz; have HD3 := Lib.hid hd; have HG3 := Lib.hid hg; clear hc hb hz hd hg HD2 HG2 HV0P2))
  go_wp2_with (go_at_call 22; go_loud (refine (HP1.out _ _ _ HG3.out.files).mono ?_; intro e w4 hc; obtain ⟨a4, c4, rfl, hb, hz⟩ := hc.var HG3.out.below HF1.out HL1.out; obtain ⟨hd, d0, d1, d2, dl⟩ := HD3.out.next hb (.cells #[.slice a4 gs1.length c4, .bool dn1, .int .i64 fu1] 24); obtain ⟨hg, g0, g1, g2, gl⟩ := HG3.out.next hb (.cells #[.slice a4 gs1.length c4, .bool dn1, .int .i64 fu1] 24); have HV0P4 := Lib.hid (HV0P3.out.next hb (.cells #[.slice a4 gs1.length c4, .bool dn1, .int .i64 fu1] 24)).1; have HV0Q4 := Lib.hid (HV0Q3.out.next hb (.cells #[.slice a4 gs1.length c4, .bool dn1, .int .i64 fu1] 24)).1; have HV1P4 := Lib.hid hz; have HD4 := Lib.hid hd; have HG4 := Lib.hid hg; clear hc hb hz hd hg HD3 HG3 HV0P3 HV0Q3))
  go_wp2_with (go_at_call 23; go_loud (refine (HQ1.out _ _ _ HD4.out.files).mono ?_; intro e w5 hc; obtain ⟨a5, c5, rfl, hb, hz⟩ := hc.var HD4.out.below HF1.out HL1.out; obtain ⟨hd, d0, d1, d2, dl⟩ := HD4.out.next hb (.cells #[.slice a5 gs1.length c5, .bool dn1, .int .i64 fu1] 24); obtain ⟨hg, g0, g1, g2, gl⟩ := HG4.out.next hb (.cells #[.slice a5 gs1.length c5, .bool dn1, .int .i64 fu1] 24); have HV0P5 := Lib.hid (HV0P4.out.next hb (.cells #[.slice a5 gs1.length c5, .bool dn1, .int .i64 fu1] 24)).1; have HV0Q5 := Lib.hid (HV0Q4.out.next hb (.cells #[.slice a5 gs1.length c5, .bool dn1, .int .i64 fu1] 24)).1; have HV1P5 := Lib.hid (HV1P4.out.next hb (.cells #[.slice a5 gs1.length c5, .bool dn1, .int .i64 fu1] 24)).1; have HV1Q5 := Lib.hid hz; have HD5 := Lib.hid hd; have HG5 := Lib.hid hg; clear hc hb hz hd hg HD4 HG4 HV0P4 HV0Q4 HV1P4))
  go_wp2_with (first
    | (go_at_call 18; go_loud (refine (lives _).mono ?_; rintro e w6 ⟨rfl, hb⟩; obtain ⟨hx, q0_0, q0_1, q0_2, q0_l⟩ := HD5.out.after hb; have HD6 := Lib.hid hx; clear hx HD5; obtain ⟨hx, q1_0, q1_1, q1_2, q1_l⟩ := HG5.out.after hb; have HG6 := Lib.hid hx; clear hx HG5; obtain ⟨hx, q2_0, q2_1, q2_2, q2_l⟩ := HV0P5.out.after hb; have HV0P6 := Lib.hid hx; clear hx HV0P5; obtain ⟨hx, q3_0, q3_1, q3_2, q3_l⟩ := HV0Q5.out.after hb; have HV0Q6 := Lib.hid hx; clear hx HV0Q5; obtain ⟨hx, q4_0, q4_1, q4_2, q4_l⟩ := HV1P5.out.after hb; have HV1P6 := Lib.hid hx; clear hx HV1P5; obtain ⟨hx, q5_0, q5_1, q5_2, q5_l⟩ := HV1Q5.out.after hb; have HV1Q6 := Lib.hid hx; clear hx HV1Q5; clear hb))
    | (go_at_call 19; go_loud (refine (same_ref _ _ _ _ _ _ _ _ _ HV0P6.out.files HV0Q6.out.files).mono ?_; rintro e w7 ⟨⟨b, rfl, hbt⟩, hb⟩; obtain rfl : b = true := hbt.2 ⟨rfl, rfl, rfl⟩; obtain ⟨hx, q0_0, q0_1, q0_2, q0_l⟩ := HD6.out.after hb; have HD7 := Lib.hid hx; clear hx HD6; obtain ⟨hx, q1_0, q1_1, q1_2, q1_l⟩ := HG6.out.after hb; have HG7 := Lib.hid hx; clear hx HG6; obtain ⟨hx, q4_0, q4_1, q4_2, q4_l⟩ := HV1P6.out.after hb; have HV1P7 := Lib.hid hx; clear hx HV1P6; obtain ⟨hx, q5_0, q5_1, q5_2, q5_l⟩ := HV1Q6.out.after hb; have HV1Q7 := Lib.hid hx; clear hx HV1Q6; clear hb hbt HV0P6 HV0Q6))
    | (go_at_call 19; go_loud (refine (same_ref _ _ _ _ _ _ _ _ _ HV1P7.out.files HV1Q7.out.files).mono ?_; rintro e w8 ⟨⟨b, rfl, hbt⟩, hb⟩; obtain rfl : b = true := hbt.2 ⟨rfl, rfl, rfl⟩; obtain ⟨hx, q0_0, q0_1, q0_2, q0_l⟩ := HD7.out.after hb; have HD8 := Lib.hid hx; clear hx HD7; obtain ⟨hx, q1_0, q1_1, q1_2, q1_l⟩ := HG7.out.after hb; have HG8 := Lib.hid hx; clear hx HG7; clear hb hbt HV1P7 HV1Q7))
    | (go_at_call 19; go_loud (refine (same_ref _ _ _ _ _ _ _ _ _ HG8.out.files HD8.out.files).mono ?_; rintro e w9 ⟨⟨b, rfl, hbt⟩, hb⟩; obtain rfl : b = true := hbt.2 ⟨rfl, rfl, rfl⟩; have HEND := Lib.hid (HD8.out.keep hb).below; clear hb hbt))
    )
  go_ret
  exact ⟨by rfl, HEND.out⟩
end Dk
end Go.Proofs.Ytohhiheebhcgeaa
