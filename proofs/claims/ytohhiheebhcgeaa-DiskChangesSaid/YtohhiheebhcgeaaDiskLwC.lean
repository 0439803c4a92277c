/-
  LAW: DiskChanges.
-/
import Derived.Test.YtohhiheebhcgeaaDiskRf5
namespace Go.Proofs.Ytohhiheebhcgeaa
open Go.RowKit Go.Lib Go.Sort
namespace Dk

set_option maxRecDepth 100000 in
set_option maxHeartbeats 8000000 in
theorem diskChanges (v : Value) (dn : Bool) (fu : Int) (fs : List Fl) (nm da : ByteArray) (sz : Int) (w : World) (hv : Files w w.heap.size v fs) (hlo : -9223372036854775808 ≤ fu) (hhi : fu ≤ 9223372036854775807) (h40 : fs.length * 40 ≤ 140737488355328) (hz0 : da.size ≤ 9223372036854775807) (hzz : ∀ f ∈ fs, f.da.size + da.size ≤ 9223372036854775807) :
    Calls Try.prog 3 #[.agg #[v, .bool dn, .int .i64 fu], .string nm, .string da, .int .i64 sz] w fun e w' => e = .returned (.bool true) ∧ Below w.heap.size w w' := by
  have HV := Lib.hid hv
  obtain ⟨a, c, rfl, -⟩ := hv
  have HS0 := Lib.hid (St.made (dn := dn) (fu := fu) HV.out)
  have h1 := copy_ref _ dn fu fs _ HS0.out.files h40
  have HF := Lib.hid HV.out.fine
  have HL := Lib.hid HV.out.len
  have HP0 : Hid (∀ (w1 : World) (a1 : Option Addr) (c1 : Nat), Files w1 w1.heap.size (.slice a1 fs.length c1) fs → Calls Try.prog 12 #[.agg #[.slice a1 fs.length c1, .bool dn, .int .i64 fu], .string nm, .string da] w1 (DoIs w1 (addO fs dn fu nm da).fs (addO fs dn fu nm da).dn (addO fs dn fu nm da).fu (addO fs dn fu nm da).r)) := fun w1 a1 c1 hf => add_all _ fs dn fu nm da hlo hhi hz0 hzz w1 hf
  have HQ0 : Hid (∀ (w1 : World) (a1 : Option Addr) (c1 : Nat), Files w1 w1.heap.size (.slice a1 fs.length c1) fs → Calls Try.prog 13 #[.agg #[.slice a1 fs.length c1, .bool dn, .int .i64 fu], .string nm, .string da] w1 (DoIs w1 (addO fs dn fu nm da).fs (addO fs dn fu nm da).dn (addO fs dn fu nm da).fu (addO fs dn fu nm da).r)) := fun w1 a1 c1 hf => add_ref _ fs dn fu nm da hlo hhi h40 hz0 hzz w1 hf
  obtain ⟨hf0, hl0⟩ := ((fun h1 h2 => addO_fine h1 h2 hz0 hzz) HF.out HL.out : Fine (addO fs dn fu nm da).fs ∧ (addO fs dn fu nm da).fs.length ≤ 4611686018427387904)
  generalize addO fs dn fu nm da = O0 at *
  rcases O0 with ⟨gs0, dn0, fu0, r0⟩
  simp only at HP0 HQ0 hf0 hl0
  have HF0 := Lib.hid hf0
  have HL0 := Lib.hid hl0
  clear hf0 hl0
  have HP1 : Hid (∀ (w1 : World) (a1 : Option Addr) (c1 : Nat), Files w1 w1.heap.size (.slice a1 fs.length c1) fs → Calls Try.prog 14 #[.agg #[.slice a1 fs.length c1, .bool dn, .int .i64 fu], .string nm] w1 (DoIs w1 (synO fs dn fu nm).fs (synO fs dn fu nm).dn (synO fs dn fu nm).fu (synO fs dn fu nm).r)) := fun w1 a1 c1 hf => sync_all _ fs dn fu nm hlo hhi w1 hf
  have HQ1 : Hid (∀ (w1 : World) (a1 : Option Addr) (c1 : Nat), Files w1 w1.heap.size (.slice a1 fs.length c1) fs → Calls Try.prog 15 #[.agg #[.slice a1 fs.length c1, .bool dn, .int .i64 fu], .string nm] w1 (DoIs w1 (synO fs dn fu nm).fs (synO fs dn fu nm).dn (synO fs dn fu nm).fu (synO fs dn fu nm).r)) := fun w1 a1 c1 hf => sync_ref _ fs dn fu nm hlo hhi h40 w1 hf
  obtain ⟨hf1, hl1⟩ := (synO_fine HF.out HL.out : Fine (synO fs dn fu nm).fs ∧ (synO fs dn fu nm).fs.length ≤ 4611686018427387904)
  generalize synO fs dn fu nm = O1 at *
  rcases O1 with ⟨gs1, dn1, fu1, r1⟩
  simp only at HP1 HQ1 hf1 hl1
  have HF1 := Lib.hid hf1
  have HL1 := Lib.hid hl1
  clear hf1 hl1
  have HP2 : Hid (∀ (w1 : World) (a1 : Option Addr) (c1 : Nat), Files w1 w1.heap.size (.slice a1 fs.length c1) fs → Calls Try.prog 16 #[.agg #[.slice a1 fs.length c1, .bool dn, .int .i64 fu], .string nm, .int .i64 sz] w1 (DoIs w1 (cutO fs dn fu nm sz).fs (cutO fs dn fu nm sz).dn (cutO fs dn fu nm sz).fu (cutO fs dn fu nm sz).r)) := fun w1 a1 c1 hf => cut_all _ fs dn fu nm sz hlo hhi w1 hf
  have HQ2 : Hid (∀ (w1 : World) (a1 : Option Addr) (c1 : Nat), Files w1 w1.heap.size (.slice a1 fs.length c1) fs → Calls Try.prog 17 #[.agg #[.slice a1 fs.length c1, .bool dn, .int .i64 fu], .string nm, .int .i64 sz] w1 (DoIs w1 (cutO fs dn fu nm sz).fs (cutO fs dn fu nm sz).dn (cutO fs dn fu nm sz).fu (cutO fs dn fu nm sz).r)) := fun w1 a1 c1 hf => cut_ref _ fs dn fu nm sz hlo hhi h40 w1 hf
  obtain ⟨hf2, hl2⟩ := (cutO_fine HF.out HL.out : Fine (cutO fs dn fu nm sz).fs ∧ (cutO fs dn fu nm sz).fs.length ≤ 4611686018427387904)
  generalize cutO fs dn fu nm sz = O2 at *
  rcases O2 with ⟨gs2, dn2, fu2, r2⟩
  simp only at HP2 HQ2 hf2 hl2
  have HF2 := Lib.hid hf2
  have HL2 := Lib.hid hl2
  clear hf2 hl2
  clear h40
  go_enter Try.func3, Try.ntmps3
  go_wp2_with (go_at_call 11; go_loud (refine h1.mono ?_; intro e w1 hc; obtain ⟨a1, c1, rfl, hb, hg⟩ := hc.var HS0.out.below HF.out HL.out; obtain ⟨hd, d0, d1, d2, dl⟩ := HS0.out.next hb (.cells #[.slice a1 fs.length c1, .bool dn, .int .i64 fu] 24); have HG1 := Lib.hid hg; have HD1 := Lib.hid hd; clear hc hb hg hd HS0))
  go_wp2_with (go_at_call 12; go_loud (refine (HP0.out _ _ _ HG1.out.files).mono ?_; intro e w2 hc; obtain ⟨a2, c2, rfl, hb, hz⟩ := hc.var HG1.out.below HF0.out HL0.out; obtain ⟨hd, d0, d1, d2, dl⟩ := HD1.out.next hb (.cells #[.slice a2 gs0.length c2, .bool dn0, .int .i64 fu0] 24); obtain ⟨hg, g0, g1, g2, gl⟩ := HG1.out.next hb (.cells #[.slice a2 gs0.length c2, .bool dn0, .int .i64 fu0] 24); have HV0P2 := Lib.hid hz; have HD2 := Lib.hid hd; have HG2 := Lib.hid hg; clear hc hb hz hd hg HD1 HG1 ))
  go_wp2_with (go_at_call 13; go_loud (refine (HQ0.out _ _ _ HD2.out.files).mono ?_; intro e w3 hc; obtain ⟨a3, c3, rfl, hb, hz⟩ := hc.var HD2.out.below HF0.out HL0.out; obtain ⟨hd, d0, d1, d2, dl⟩ := HD2.out.next hb (.cells #[.slice a3 gs0.length c3, .bool dn0, .int .i64 fu0] 24); obtain ⟨hg, g0, g1, g2, gl⟩ := HG2.out.next hb (.cells #[.slice a3 gs0.length c3, .bool dn0, .int .i64 fu0] 24); have HV0P3 := Lib.hid (HV0P2.out.next hb (.cells #[.slice a3 gs0.length c3, .bool dn0, .int .i64 fu0] 24)).1; have HV0Q3 := Lib.hid hz; have HD3 := Lib.hid hd; have HG3 := Lib.hid hg; clear hc hb hz hd hg HD2 HG2 HV0P2))
  go_wp2_with (go_at_call 14; go_loud (refine (HP1.out _ _ _ HG3.out.files).mono ?_; intro e w4 hc; obtain ⟨a4, c4, rfl, hb, hz⟩ := hc.var HG3.out.below HF1.out HL1.out; obtain ⟨hd, d0, d1, d2, dl⟩ := HD3.out.next hb (.cells #[.slice a4 gs1.length c4, .bool dn1, .int .i64 fu1] 24); obtain ⟨hg, g0, g1, g2, gl⟩ := HG3.out.next hb (.cells #[.slice a4 gs1.length c4, .bool dn1, .int .i64 fu1] 24); have HV0P4 := Lib.hid (HV0P3.out.next hb (.cells #[.slice a4 gs1.length c4, .bool dn1, .int .i64 fu1] 24)).1; have HV0Q4 := Lib.hid (HV0Q3.out.next hb (.cells #[.slice a4 gs1.length c4, .bool dn1, .int .i64 fu1] 24)).1; have HV1P4 := Lib.hid hz; have HD4 := Lib.hid hd; have HG4 := Lib.hid hg; clear hc hb hz hd hg HD3 HG3 HV0P3 HV0Q3))
  go_wp2_with (go_at_call 15; go_loud (refine (HQ1.out _ _ _ HD4.out.files).mono ?_; intro e w5 hc; obtain ⟨a5, c5, rfl, hb, hz⟩ := hc.var HD4.out.below HF1.out HL1.out; obtain ⟨hd, d0, d1, d2, dl⟩ := HD4.out.next hb (.cells #[.slice a5 gs1.length c5, .bool dn1, .int .i64 fu1] 24); obtain ⟨hg, g0, g1, g2, gl⟩ := HG4.out.next hb (.cells #[.slice a5 gs1.length c5, .bool dn1, .int .i64 fu1] 24); have HV0P5 := Lib.hid (HV0P4.out.next hb (.cells #[.slice a5 gs1.length c5, .bool dn1, .int .i64 fu1] 24)).1; have HV0Q5 := Lib.hid (HV0Q4.out.next hb (.cells #[.slice a5 gs1.length c5, .bool dn1, .int .i64 fu1] 24)).1; have HV1P5 := Lib.hid (HV1P4.out.next hb (.cells #[.slice a5 gs1.length c5, .bool dn1, .int .i64 fu1] 24)).1; have HV1Q5 := Lib.hid hz; have HD5 := Lib.hid hd; have HG5 := Lib.hid hg; clear hc hb hz hd hg HD4 HG4 HV0P4 HV0Q4 HV1P4))
  go_wp2_with (go_at_call 16; go_loud (refine (HP2.out _ _ _ HG5.out.files).mono ?_; intro e w6 hc; obtain ⟨a6, c6, rfl, hb, hz⟩ := hc.var HG5.out.below HF2.out HL2.out; obtain ⟨hd, d0, d1, d2, dl⟩ := HD5.out.next hb (.cells #[.slice a6 gs2.length c6, .bool dn2, .int .i64 fu2] 24); obtain ⟨hg, g0, g1, g2, gl⟩ := HG5.out.next hb (.cells #[.slice a6 gs2.length c6, .bool dn2, .int .i64 fu2] 24); have HV0P6 := Lib.hid (HV0P5.out.next hb (.cells #[.slice a6 gs2.length c6, .bool dn2, .int .i64 fu2] 24)).1; have HV0Q6 := Lib.hid (HV0Q5.out.next hb (.cells #[.slice a6 gs2.length c6, .bool dn2, .int .i64 fu2] 24)).1; have HV1P6 := Lib.hid (HV1P5.out.next hb (.cells #[.slice a6 gs2.length c6, .bool dn2, .int .i64 fu2] 24)).1; have HV1Q6 := Lib.hid (HV1Q5.out.next hb (.cells #[.slice a6 gs2.length c6, .bool dn2, .int .i64 fu2] 24)).1; have HV2P6 := Lib.hid hz; have HD6 := Lib.hid hd; have HG6 := Lib.hid hg; clear hc hb hz hd hg HD5 HG5 HV0P5 HV0Q5 HV1P5 HV1Q5))
  go_wp2_with (go_at_call 17; go_loud (refine (HQ2.out _ _ _ HD6.out.files).mono ?_; intro e w7 hc; obtain ⟨a7, c7, rfl, hb, hz⟩ := hc.var HD6.out.below HF2.out HL2.out; obtain ⟨hd, d0, d1, d2, dl⟩ := HD6.out.next hb (.cells #[.slice a7 gs2.length c7, .bool dn2, .int .i64 fu2] 24); obtain ⟨hg, g0, g1, g2, gl⟩ := HG6.out.next hb (.cells #[.slice a7 gs2.length c7, .bool dn2, .int .i64 fu2] 24); have HV0P7 := Lib.hid (HV0P6.out.next hb (.cells #[.slice a7 gs2.length c7, .bool dn2, .int .i64 fu2] 24)).1; have HV0Q7 := Lib.hid (HV0Q6.out.next hb (.cells #[.slice a7 gs2.length c7, .bool dn2, .int .i64 fu2] 24)).1; have HV1P7 := Lib.hid (HV1P6.out.next hb (.cells #[.slice a7 gs2.length c7, .bool dn2, .int .i64 fu2] 24)).1; have HV1Q7 := Lib.hid (HV1Q6.out.next hb (.cells #[.slice a7 gs2.length c7, .bool dn2, .int .i64 fu2] 24)).1; have HV2P7 := Lib.hid (HV2P6.out.next hb (.cells #[.slice a7 gs2.length c7, .bool dn2, .int .i64 fu2] 24)).1; have HV2Q7 := Lib.hid hz; have HD7 := Lib.hid hd; have HG7 := Lib.hid hg; clear hc hb hz hd hg HD6 HG6 HV0P6 HV0Q6 HV1P6 HV1Q6 HV2P6))
  go_wp2_with (first
    | (go_at_call 18; go_loud (refine (lives _).mono ?_; rintro e w8 ⟨rfl, hb⟩; obtain ⟨hx, q0_0, q0_1, q0_2, q0_l⟩ := HD7.out.after hb; have HD8 := Lib.hid hx; clear hx HD7; obtain ⟨hx, q1_0, q1_1, q1_2, q1_l⟩ := HG7.out.after hb; have HG8 := Lib.hid hx; clear hx HG7; obtain ⟨hx, q2_0, q2_1, q2_2, q2_l⟩ := HV0P7.out.after hb; have HV0P8 := Lib.hid hx; clear hx HV0P7; obtain ⟨hx, q3_0, q3_1, q3_2, q3_l⟩ := HV0Q7.out.after hb; have HV0Q8 := Lib.hid hx; clear hx HV0Q7; obtain ⟨hx, q4_0, q4_1, q4_2, q4_l⟩ := HV1P7.out.after hb; have HV1P8 := Lib.hid hx; clear hx HV1P7; obtain ⟨hx, q5_0, q5_1, q5_2, q5_l⟩ := HV1Q7.out.after hb; have HV1Q8 := Lib.hid hx; clear hx HV1Q7; obtain ⟨hx, q6_0, q6_1, q6_2, q6_l⟩ := HV2P7.out.after hb; have HV2P8 := Lib.hid hx; clear hx HV2P7; obtain ⟨hx, q7_0, q7_1, q7_2, q7_l⟩ := HV2Q7.out.after hb; have HV2Q8 := Lib.hid hx; clear hx HV2Q7; clear hb))
    | (go_at_call 19; go_loud (refine (same_ref _ _ _ _ _ _ _ _ _ HV0P8.out.files HV0Q8.out.files).mono ?_; rintro e w9 ⟨⟨b, rfl, hbt⟩, hb⟩; obtain rfl : b = true := hbt.2 ⟨rfl, rfl, rfl⟩; obtain ⟨hx, q0_0, q0_1, q0_2, q0_l⟩ := HD8.out.after hb; have HD9 := Lib.hid hx; clear hx HD8; obtain ⟨hx, q1_0, q1_1, q1_2, q1_l⟩ := HG8.out.after hb; have HG9 := Lib.hid hx; clear hx HG8; obtain ⟨hx, q4_0, q4_1, q4_2, q4_l⟩ := HV1P8.out.after hb; have HV1P9 := Lib.hid hx; clear hx HV1P8; obtain ⟨hx, q5_0, q5_1, q5_2, q5_l⟩ := HV1Q8.out.after hb; have HV1Q9 := Lib.hid hx; clear hx HV1Q8; obtain ⟨hx, q6_0, q6_1, q6_2, q6_l⟩ := HV2P8.out.after hb; have HV2P9 := Lib.hid hx; clear hx HV2P8; obtain ⟨hx, q7_0, q7_1, q7_2, q7_l⟩ := HV2Q8.out.after hb; have HV2Q9 := Lib.hid hx; clear hx HV2Q8; clear hb hbt HV0P8 HV0Q8))
    | (go_at_call 19; go_loud (refine (same_ref _ _ _ _ _ _ _ _ _ HV1P9.out.files HV1Q9.out.files).mono ?_; rintro e w10 ⟨⟨b, rfl, hbt⟩, hb⟩; obtain rfl : b = true := hbt.2 ⟨rfl, rfl, rfl⟩; obtain ⟨hx, q0_0, q0_1, q0_2, q0_l⟩ := HD9.out.after hb; have HD10 := Lib.hid hx; clear hx HD9; obtain ⟨hx, q1_0, q1_1, q1_2, q1_l⟩ := HG9.out.after hb; have HG10 := Lib.hid hx; clear hx HG9; obtain ⟨hx, q6_0, q6_1, q6_2, q6_l⟩ := HV2P9.out.after hb; have HV2P10 := Lib.hid hx; clear hx HV2P9; obtain ⟨hx, q7_0, q7_1, q7_2, q7_l⟩ := HV2Q9.out.after hb; have HV2Q10 := Lib.hid hx; clear hx HV2Q9; clear hb hbt HV1P9 HV1Q9))
    | (go_at_call 19; go_loud (refine (same_ref _ _ _ _ _ _ _ _ _ HV2P10.out.files HV2Q10.out.files).mono ?_; rintro e w11 ⟨⟨b, rfl, hbt⟩, hb⟩; obtain rfl : b = true := hbt.2 ⟨rfl, rfl, rfl⟩; obtain ⟨hx, q0_0, q0_1, q0_2, q0_l⟩ := HD10.out.after hb; have HD11 := Lib.hid hx; clear hx HD10; obtain ⟨hx, q1_0, q1_1, q1_2, q1_l⟩ := HG10.out.after hb; have HG11 := Lib.hid hx; clear hx HG10; clear hb hbt HV2P10 HV2Q10))
    | (go_at_call 19; go_loud (refine (same_ref _ _ _ _ _ _ _ _ _ HG11.out.files HD11.out.files).mono ?_; rintro e w12 ⟨⟨b, rfl, hbt⟩, hb⟩; obtain rfl : b = true := hbt.2 ⟨rfl, rfl, rfl⟩; have HEND := Lib.hid (HD11.out.keep hb).below; clear hb hbt))
    )
  go_ret
  exact ⟨by rfl, HEND.out⟩
end Dk
end Go.Proofs.Ytohhiheebhcgeaa
