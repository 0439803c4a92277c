/-
  OrderTold: what is told has the bytes that the document says, or none.
-/
import Derived.Test.YthlchdlgafincaaOrdTref
namespace Go.Proofs.Ythlchdlgafincaa
open Go.RowKit
namespace Hd
open PM Hc
set_option maxRecDepth 100000 in
theorem eql_told (z1 z2 : Int) (n1 n2 : ByteArray) (w : World) : (binOp .eql 44 (.agg #[.int .i64 z1, .string n1]) (.agg #[.int .i64 z2, .string n2])).run Try.prog w = .ok (.bool ((z1 == z2) && (n1.toList == n2.toList))) w := by
  have u3 := Try.underlying34
  have u9 := Try.underlying9
  have a3 := Try.isAgg34
  have a9 := Try.isAgg9
  have z3 := Try.sizeOf34
  have z9 := Try.sizeOf9
  have hS : Try.prog.underlying 44 = some (.struct (Try.prog.fieldsOf 44)) := by kernel_rfl
  have hp : Try.prog.stoodInHeld 44 = false := by kernel_rfl
  rw [run_eql_struct, show (10000 : Nat) = 9999 + 1 from rfl, run_equalIn_agg w 9999 44 _ _ hS hp]
  simp only [Program.fieldsOf, Try.underlying44]
  go_simp
  by_cases h1 : z1 = z2 <;> by_cases h2 : n1.toList = n2.toList <;> simp [h1, h2]
set_option maxRecDepth 100000 in
set_option maxHeartbeats 2000000 in
theorem orderTold (why : Int) (ts s : ByteArray) (w : World) (hs : s.size ≤ maxLen) :
    Calls Try.prog 4 #[.agg #[.int .i64 why, .string ts], .string s] w fun e w' => e = .returned (.bool true) ∧ Below w.heap.size w w' := by
  have HX0 : Hid (Bx2 (w.alloc (.cells #[.int .i64 why, .string ts] 44)) w.heap.size (.int .i64 why) (.string ts)) := Bx2.made w _ _ _
  have HB0 : Hid (Below w.heap.size w (w.alloc (.cells #[.int .i64 why, .string ts] 44))) := (Below.refl _ _).alloc (Nat.le_refl _) _
  have k1 := fun z => told_encode why ts z
  have k2 := fun z => tenc_ref why ts z
  have k3 := fun z => told_decode s.data.toList z (by exact hs)
  have k4 := fun z => tdec_ref s.data.toList z (by exact hs)
  unfold ToldIs at k1 k2
  unfold TuIs at k3 k4
  rw [bs_of] at k3 k4
  generalize bs (teS why ts) = q at *
  generalize teE why ts = x at *
  generalize bs (if tuOk s.data.toList = true then ttT (tdR s.data.toList) else []) = r at *
  generalize (if tuOk s.data.toList = true then tdW s.data.toList else 0) = n at *
  generalize (if tuOk s.data.toList = true then 0 else 4) = y at *
  have K1 := Lib.hid k1
  have K2 := Lib.hid k2
  have K3 := Lib.hid k3
  have K4 := Lib.hid k4
  have KL := Lib.hid lives_true
  clear k1 k2 k3 k4 hs
  go_enter Try.func4, Try.ntmps4
  go_upto_region 1 with fail
  generalize w.alloc (.cells #[.int .i64 why, .string ts] 44) = W0 at *
  obtain ⟨c0, c1⟩ := HX0.out.cells
  go_wp2_with fail
  refine (K1.out _).mono ?_
  rintro e w1 ⟨rfl, hb⟩
  have HX1 := Lib.hid (HX0.out.below hb)
  have HB1 := Lib.hid (HB0.out.trans (hb.mono HB0.out.size))
  clear hb c0 c1
  obtain ⟨c0, c1⟩ := HX1.out.cells
  go_wp2_with fail
  refine (K2.out _).mono ?_
  rintro e w2 ⟨rfl, hb⟩
  have HB2 := Lib.hid (HB1.out.trans (hb.mono HB1.out.size))
  clear hb c0 c1
  go_wp2_with fail
  refine (K3.out _).mono ?_
  rintro e w3 ⟨rfl, hb⟩
  have ha3 : Below w3.heap.size w3 (w3.alloc (.cells #[.int .i64 (n : Nat), .string r] 44)) := (Below.refl _ _).alloc (Nat.le_refl _) _
  have HB3 := Lib.hid (((HB2.out.trans (hb.mono HB2.out.size))).trans (ha3.mono (Nat.le_trans HB2.out.size hb.size)))
  have HX3 := Lib.hid (Bx2.made w3 (.int .i64 (n : Nat)) (.string r) 44)
  clear hb ha3
  go_upto_region 4 with fail
  generalize w3.alloc (.cells #[.int .i64 (n : Nat), .string r] 44) = W3 at *
  generalize w3.heap.size = N3 at *
  go_wp2_with fail
  refine (K4.out _).mono ?_
  rintro e w4 ⟨rfl, hb⟩
  have ha4 : Below w4.heap.size w4 (w4.alloc (.cells #[.int .i64 (n : Nat), .string r] 44)) := (Below.refl _ _).alloc (Nat.le_refl _) _
  have HB4 := Lib.hid (((HB3.out.trans (hb.mono HB3.out.size))).trans (ha4.mono (Nat.le_trans HB3.out.size hb.size)))
  have HX4 := Lib.hid ((HX3.out.below hb).below ha4)
  have HY4 := Lib.hid (Bx2.made w4 (.int .i64 (n : Nat)) (.string r) 44)
  clear hb ha4
  go_upto_region 5 with fail
  generalize w4.alloc (.cells #[.int .i64 (n : Nat), .string r] 44) = W4 at *
  generalize w4.heap.size = N4 at *
  go_wp2_with fail
  refine (KL.out _).mono ?_
  rintro e w5 ⟨rfl, hb⟩
  have HB5 := Lib.hid (HB4.out.trans (hb.mono HB4.out.size))
  obtain ⟨c0, c1⟩ := (HX4.out.below hb).cells
  obtain ⟨d0, d1⟩ := (HY4.out.below hb).cells
  clear hb
  have gf := guard_told
  have hq := eql_told (n : Nat) (n : Nat) r r
  rw [show ((((n : Nat) : Int) == ((n : Nat) : Int)) && (r.toList == r.toList)) = true by simp] at hq
  go_wp2
  go_ret
  exact ⟨rfl, HB5.out⟩
theorem orderToldA (u : Value) (p : Int × ByteArray) (s : ByteArray) (w : World) (ht : ToldArg u p) (hs : s.size ≤ maxLen) :
    Calls Try.prog 4 #[u, .string s] w fun e w' => e = .returned (.bool true) ∧ Below w.heap.size w w' := by
  obtain rfl := ht.1
  exact orderTold p.1 p.2 s w hs
end Hd
end Go.Proofs.Ythlchdlgafincaa
