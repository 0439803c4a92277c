/-
  NetOwn: the walk.
-/
import Derived.Test.YtejolapbdkkdaaaNetOwnL
namespace Go.Proofs.Ytejolapbdkkdaaa
open Go.RowKit Go.Lib
namespace Nt
open Rw
set_option linter.unusedVariables false
set_option maxHeartbeats 8000000 in
set_option maxRecDepth 100000 in
theorem netOwn (v vl : Value) (n l : List Pk) (i : Int) (w : World) (h : Sl w 0 w.heap.size v n) (hl : Sl w 0 w.heap.size vl l) :
    Calls Try.prog 5 #[.agg #[v], vl, .int .i64 i] w fun e w' => e = .returned (.bool true) ∧ Below w.heap.size w w' := by
  have KL : Hid (∀ z, Calls Try.prog 12 #[] z fun e w' => e = .returned (.bool true) ∧ Below z.heap.size z w') := fun z => lives_true z
  have hnl := h.len
  have KC : Hid (∀ z, Below w.heap.size w z → Calls Try.prog 7 #[.agg #[v]] z fun e w' => ∃ a c, e = .returned (.agg #[.slice a n.length c]) ∧ OwnP w' z.heap.size (.slice a n.length c) n ∧ Below z.heap.size z w') := fun z hz => (copy_ref v n z (h.on hz)).mono fun e w' ⟨v', h1, h2, h3⟩ => by
    obtain ⟨a, c, rfl⟩ := Own.slice h2
    exact ⟨a, c, h1, h2, h3⟩
  have KS : Hid (∀ z, Below w.heap.size w z → Calls Try.prog 8 #[.agg #[v], vl] z fun e w' => ∃ (a : Option Addr) (q c : Nat) (k r : Int), e = .returned (.tuple #[.agg #[.slice a q c], .int .i64 k, .int .i64 r]) ∧ Stock w' z.heap.size w'.heap.size (.slice a q c) ∧ Below z.heap.size z w') := fun z hz => (send_any _ _ n l z (h.on hz) (hl.on hz)).mono fun e w' ht => send_stock ht
  have KG : Hid (∀ z, Below w.heap.size w z → Calls Try.prog 10 #[.agg #[v], .int .i64 i] z fun e w' => ∃ (a : Option Addr) (q c : Nat) (f t : Int) (d : ByteArray) (r : Int), e = .returned (.tuple #[.agg #[.slice a q c], .agg #[.int .i64 f, .int .i64 t, .string d], .int .i64 r]) ∧ Stock w' z.heap.size w'.heap.size (.slice a q c) ∧ Below z.heap.size z w') := fun z hz => (give_own _ n i z (h.on hz)).mono fun e w' ht => give_stock ht hnl
  have KT : Hid (∀ z, Below w.heap.size w z → Calls Try.prog 14 #[.agg #[v], .int .i64 i] z fun e w' => ∃ (a : Option Addr) (q c : Nat) (r : Int), e = .returned (.tuple #[.agg #[.slice a q c], .int .i64 r]) ∧ Stock w' z.heap.size w'.heap.size (.slice a q c) ∧ Below z.heap.size z w') := fun z hz => (twice_own _ n i z (h.on hz)).mono fun e w' ht => twice_stock ht hnl
  have KK : Hid (∀ z, Below w.heap.size w z → Calls Try.prog 16 #[.agg #[v]] z fun e w' => ∃ (a : Option Addr) (q c : Nat) (r : Int), e = .returned (.tuple #[.slice a q c, .agg #[.slice none 0 0], .int .i64 r]) ∧ Stock w' z.heap.size w'.heap.size (.slice a q c) ∧ Below z.heap.size z w') := fun z hz => (take_own _ n z (h.on hz)).mono fun e w' ht => take_stock ht hnl
  have KE : Hid (∀ (u : Value) (base : Nat) z, Below w.heap.size w z → OwnP z base u n → Calls Try.prog 13 #[.agg #[v], .agg #[u]] z fun e w' => SameIs n n e ∧ Below z.heap.size z w') := fun u base z hz ho => same_ref v u n n z (h.on hz) (Own.sl ho hnl)
  obtain ⟨a, c, rfl⟩ := h.slice
  obtain ⟨a2, c2, rfl⟩ := hl.slice
  clear h hl
  have HB := Lib.hid (al w (.cells #[.slice a n.length c] 24))
  have HC0 := Lib.hid (cell_new w (.slice a n.length c) 24)
  have HZ : Hid (w.heap.size < (w.alloc (.cells #[.slice a n.length c] 24)).heap.size) := by show _ < _; simp
  go_enter Try.func5, Try.ntmps5
  go_wp2_with (go_at_call 12; go_loud ((with_reducible refine (KL.out _).mono ?_); rintro e w1 ⟨rfl, hb⟩; have HB1 := Lib.hid (HB.out.trans (hb.mono HB.out.size)); have y0 := (hb.cell (p := ⟨w.heap.size, 0, none⟩) HZ.out).trans HC0.out; have HZ1 := Lib.hid (Nat.lt_of_lt_of_le HZ.out hb.size); clear hb))
  go_wp2_with (go_at_call 7; go_loud ((with_reducible refine (KC.out _ HB1.out).mono ?_); rintro e w2 ⟨ak, ck, rfl, ho, hb⟩; have HB2 := Lib.hid (HB1.out.trans (hb.mono HB1.out.size)); have y1 := (hb.cell (p := ⟨w.heap.size, 0, none⟩) HZ1.out).trans y0; have HZ2 := Lib.hid (Nat.lt_of_lt_of_le HZ1.out hb.size); have y2 := cell_old (.cells #[.slice ak n.length ck] 24) y1; have HB3 := Lib.hid (HB2.out.alloc HB2.out.size (.cells #[.slice ak n.length ck] 24)); have HOK := Lib.hid (keepP ho (al w2 (.cells #[.slice ak n.length ck] 24))); have HC7 := Lib.hid (cell_new w2 (.slice ak n.length ck) 24); have HZ7 : Hid (w2.heap.size < (w2.alloc (.cells #[.slice ak n.length ck] 24)).heap.size) := (by show _ < _; simp); clear hb ho y0 y1))
  go_wp2_with fail
  generalize hW : w2.alloc (.cells #[.slice ak n.length ck] 24) = W at *
  have HWZ : Hid (w.heap.size < W.heap.size) := by show _ < _; rw [← hW]; have := HZ2.out; simp; omega
  clear hW HB HB1 HB2 HC0 HZ HZ1 HZ2
  have HY2 := Lib.hid y2
  have HY : Hid (∀ z, Below W.heap.size W z → z.cell? ⟨w.heap.size, 0, none⟩ = some (.slice a n.length c)) := fun z hz => (hz.cell (p := ⟨w.heap.size, 0, none⟩) HWZ.out).trans y2
  have HYB : Hid (∀ z, Below W.heap.size W z → Below w.heap.size w z) := fun z hz => HB3.out.trans (hz.mono HB3.out.size)
  refine Calls.mono (KS.out _ HB3.out) ?_
  rintro e w4 ⟨a4, q4, c4, k4, r4, rfl, hs4, hb4⟩
  have HX4 := Lib.hid (hb4.alloc hb4.size (.cells #[.slice a4 q4 c4] 24))
  have HS4 : Hid (Stock (w4.alloc (.cells #[.slice a4 q4 c4] 24)) W.heap.size w4.heap.size (.slice a4 q4 c4)) := hs4.keep (al w4 _) (Nat.le_refl _)
  have HC8 := Lib.hid (cell_new w4 (.slice a4 q4 c4) 24)
  have HZ8 : Hid (w4.heap.size < (w4.alloc (.cells #[.slice a4 q4 c4] 24)).heap.size) := by show _ < _; simp
  have y3 := HY.out _ HX4.out
  clear hs4 hb4
  go_wp2_with fail
  generalize w4.alloc (.cells #[.slice a4 q4 c4] 24) = X4 at *
  refine Calls.mono (KG.out _ (HYB.out _ HX4.out)) ?_
  rintro e w5 ⟨a5, q5, c5, f5, t5, d5, r5, rfl, hs5, hb5⟩
  have hx5 : Below X4.heap.size X4 ((w5.alloc (.cells #[.slice a5 q5 c5] 24)).alloc (.cells #[.int .i64 f5, .int .i64 t5, .string d5] 30)) := (hb5.alloc hb5.size _).alloc (by have := hb5.size; simp; omega) _
  have HX45 := Lib.hid hx5
  have HX5 := Lib.hid (HX4.out.trans (hx5.mono HX4.out.size))
  have HS5 : Hid (Stock ((w5.alloc (.cells #[.slice a5 q5 c5] 24)).alloc (.cells #[.int .i64 f5, .int .i64 t5, .string d5] 30)) X4.heap.size w5.heap.size (.slice a5 q5 c5)) := hs5.keep ((al w5 _).alloc (by simp) _) (Nat.le_refl _)
  have HC11 : Hid (((w5.alloc (.cells #[.slice a5 q5 c5] 24)).alloc (.cells #[.int .i64 f5, .int .i64 t5, .string d5] 30)).cell? ⟨w5.heap.size, 0, none⟩ = some (.slice a5 q5 c5)) := cell_old _ (cell_new _ _ _)
  have HZ11 : Hid (w5.heap.size < ((w5.alloc (.cells #[.slice a5 q5 c5] 24)).alloc (.cells #[.int .i64 f5, .int .i64 t5, .string d5] 30)).heap.size) := by show _ < _; simp; omega
  have y4 := HY.out _ HX5.out
  clear hs5 hb5 hx5 y3
  go_wp2_with fail
  generalize (w5.alloc (.cells #[.slice a5 q5 c5] 24)).alloc (.cells #[.int .i64 f5, .int .i64 t5, .string d5] 30) = X5 at *
  refine Calls.mono (KT.out _ (HYB.out _ HX5.out)) ?_
  rintro e w6 ⟨a6, q6, c6, r6, rfl, hs6, hb6⟩
  have HX56 := Lib.hid (hb6.alloc hb6.size (.cells #[.slice a6 q6 c6] 24))
  have HX6 := Lib.hid (HX5.out.trans (HX56.out.mono HX5.out.size))
  have HS6 : Hid (Stock (w6.alloc (.cells #[.slice a6 q6 c6] 24)) X5.heap.size w6.heap.size (.slice a6 q6 c6)) := hs6.keep (al w6 _) (Nat.le_refl _)
  have HC14 := Lib.hid (cell_new w6 (.slice a6 q6 c6) 24)
  have HZ14 : Hid (w6.heap.size < (w6.alloc (.cells #[.slice a6 q6 c6] 24)).heap.size) := by show _ < _; simp
  have y5 := HY.out _ HX6.out
  clear hs6 hb6 y4
  go_wp2_with fail
  generalize w6.alloc (.cells #[.slice a6 q6 c6] 24) = X6 at *
  refine Calls.mono (KK.out _ (HYB.out _ HX6.out)) ?_
  rintro e w7 ⟨a7, q7, c7, r7, rfl, hs7, hb7⟩
  have HX67 := Lib.hid (hb7.alloc hb7.size (.cells #[.slice none 0 0] 24))
  have HX7 := Lib.hid (HX6.out.trans (HX67.out.mono HX6.out.size))
  have HS7 : Hid (Stock (w7.alloc (.cells #[.slice none 0 0] 24)) X6.heap.size w7.heap.size (.slice a7 q7 c7)) := hs7.keep (al w7 _) (Nat.le_refl _)
  have hz7 : w7.heap.size < (w7.alloc (.cells #[.slice none 0 0] 24)).heap.size := by simp
  have HZ7' := Lib.hid hz7
  clear hs7 hb7 y5 hz7
  have hx57 := HX56.out.trans (HX67.out.mono HX56.out.size)
  have hx47 := HX45.out.trans (hx57.mono HX45.out.size)
  have u8 := (hx47.cell (p := ⟨w4.heap.size, 0, none⟩) HZ8.out).trans HC8.out
  have u11 := (hx57.cell (p := ⟨w5.heap.size, 0, none⟩) HZ11.out).trans HC11.out
  have u14 := (HX67.out.cell (p := ⟨w6.heap.size, 0, none⟩) HZ14.out).trans HC14.out
  have HSA := Lib.hid (HS4.out.keep hx47 (Nat.le_of_lt HZ8.out))
  have HSB := Lib.hid (HS5.out.keep hx57 (Nat.le_of_lt HZ11.out))
  have HSC := Lib.hid (HS6.out.keep HX67.out (Nat.le_of_lt HZ14.out))
  clear hx57 hx47
  go_wp2
  have hX7 : (w7.alloc (.cells #[.slice none 0 0] 24)).heap.size = w7.heap.size + 1 := by simp
  generalize w7.alloc (.cells #[.slice none 0 0] 24) = X7 at *
  have HOS : Hid (OwS W (w7.heap.size + 1) [.slice a4 q4 c4, .slice a5 q5 c5, .slice a6 q6 c6, .slice a7 q7 c7] (X7.alloc (.cells #[.slice a4 q4 c4, .slice a5 q5 c5, .slice a6 q6 c6, .slice a7 q7 c7] 22))) := by
    have h4 := HX4.out.size
    have h5 := HX45.out.size
    have h6 := HX56.out.size
    have h7 := HX67.out.size
    have m4 := HZ8.out
    have m5 := HZ11.out
    have m6 := HZ14.out
    have m7 := HZ7'.out
    rw [← hX7]
    refine ⟨HX7.out.alloc HX7.out.size _, row_new X7 [.slice a4 q4 c4, .slice a5 q5 c5, .slice a6 q6 c6, .slice a7 q7 c7] 22, ?_⟩
    intro v hv
    simp only [List.mem_cons, List.not_mem_nil, or_false] at hv
    rcases hv with rfl | rfl | rfl | rfl
    · exact ((HSA.out.more (B' := X7.heap.size) (by omega)).keep (al X7 _) (Nat.le_refl _))
    · exact (((HSB.out.low (by omega)).more (B' := X7.heap.size) (by omega)).keep (al X7 _) (Nat.le_refl _))
    · exact (((HSC.out.low (by omega)).more (B' := X7.heap.size) (by omega)).keep (al X7 _) (Nat.le_refl _))
    · exact (((HS7.out.low (by omega)).more (B' := X7.heap.size) (by omega)).keep (al X7 _) (Nat.le_refl _))
  clear HSA HSB HSC HS4 HS5 HS6 HS7 HC8 HC11 HC14 HZ8 HZ11 HZ14 HZ7' HX4 HX45 HX5 HX56 HX6 HX67 KS KG KT KK KC u8 u11 u14 HY KL y2
  have HV4 : Hid ([Value.slice a4 q4 c4, .slice a5 q5 c5, .slice a6 q6 c6, .slice a7 q7 c7].length = 4) := rfl
  generalize X7.alloc (.cells #[.slice a4 q4 c4, .slice a5 q5 c5, .slice a6 q6 c6, .slice a7 q7 c7] 22) = X8 at *
  have HX7S := Lib.hid HX7.out.size
  have HX7E := Lib.hid hX7
  clear hX7
  generalize hB : w7.heap.size + 1 = B at *
  obtain ⟨vs, hvs⟩ : ∃ vs, vs = [Value.slice a4 q4 c4, .slice a5 q5 c5, .slice a6 q6 c6, .slice a7 q7 c7] := ⟨_, rfl⟩
  rw [← hvs] at HOS HV4
  clear hvs
  have hbw : W.heap.size ≤ B := by have := HX7S.out; have := HX7E.out; omega
  have HBW := Lib.hid hbw
  clear hbw hB HX7
  go_loopg [61] 4 (fun gg iv wx => ∃ k : Nat, k + gg = 4 ∧ iv = .int .i64 k ∧ Aside (OwS W B vs wx))
  case atStart => exact ⟨0, rfl, rfl, HOS.out⟩
  case round =>
    obtain ⟨k, hkg, rfl, HS⟩ := hrel
    clear HOS
    cases gk with
    | zero =>
      obtain rfl : k = 4 := by omega
      clear hkg
      have y3 := (HS.out.be.cell (p := ⟨w.heap.size, 0, none⟩) HWZ.out).trans HY2.out
      have y7 := (HS.out.be.cell (p := ⟨w2.heap.size, 0, none⟩) HZ7.out).trans HC7.out
      have KE2 := Lib.hid (KE.out _ _ _ (HYB.out _ HS.out.be) (keepP HOK.out HS.out.be))
      go_wp2_with (go_at_call 13; go_loud ((with_reducible refine KE2.out.mono ?_); rintro e w9 ⟨⟨b, rfl, hbb⟩, hb⟩; obtain rfl : b = true := hbb.2 rfl; have HB9 := Lib.hid ((HYB.out _ HS.out.be).trans (hb.mono (HYB.out _ HS.out.be).size)); clear hb hbb))
      go_wp2
      go_ret
      exact ⟨rfl, HB9.out⟩
    | succ gg =>
      have hk4 : k < vs.length := by have := HV4.out; omega
      have hk5 : (k : Int) < 4 := by omega
      have hk6 : decide ((k : Int) < 4) = true := by simpa using hk5
      have HMV := Lib.hid (List.getElem_mem hk4)
      have HCV : Hid (∀ z, OwS W B vs z → z.cell? ⟨B, k, none⟩ = some vs[k] ∧ Stock z W.heap.size B vs[k]) := fun z hz => ⟨hz.c k hk4, hz.s _ HMV.out⟩
      clear HMV
      generalize vs[k] = vk at *
      obtain ⟨ar, nr, cr, rfl, hnr, -⟩ := (HCV.out _ HS.out).2
      have x0 := (HCV.out _ HS.out).1
      have tk : IntKind.i64.wrap ((k : Int) + 1) = (k : Int) + 1 := by rw [IntKind.wrap_i64]; omega
      have HK := Lib.hid hkg
      clear hkg hk4
      go_wp2
      go_loopg [67] nr (fun gg2 jv wx => ∃ j : Nat, j + gg2 = nr ∧ jv = .int .i64 j ∧ Aside (OwS W B vs wx))
      case atStart => exact ⟨0, by omega, rfl, HS.out⟩
      case round =>
        obtain ⟨j, hjg, rfl, HS2⟩ := hrel
        clear HS x0
        cases gk with
        | zero =>
          obtain rfl : j = nr := by omega
          clear hjg
          go_wp2
          go_roundg gg
          case measure => omega
          case rel => exact ⟨k + 1, by have := HK.out; omega, by simp, HS2.out⟩
        | succ g2 =>
          have hj1 : j < nr := by omega
          have hj2 : (j : Int) < (nr : Int) := by omega
          obtain ⟨a9, n9, c9, he, -, hcc⟩ := (HCV.out _ HS2.out).2
          simp only [Value.slice.injEq] at he
          obtain ⟨rfl, rfl, rfl⟩ := he
          obtain ⟨g, rfl, hg1, hg2, hgc⟩ := hcc (by omega)
          obtain ⟨⟨u, hu⟩, hf⟩ := hgc j hj1
          have tj : IntKind.i64.wrap ((j : Int) + 1) = (j : Int) + 1 := by rw [IntKind.wrap_i64]; omega
          have HP := Lib.hid (fun (x : Value) => HS2.out.put (x := x) (j := j * 3 + 2) hg1 hg2)
          clear hgc hcc hg1 hg2
          go_wp2
          go_roundg g2
          case measure => omega
          case rel => exact ⟨j + 1, by omega, by simp, HP.out _⟩
/-- As NetA gives it. -/
theorem netOwnA (v vl : Value) (n l : List Pk) (i : Int) (w : World) (h : ∃ u, v = .agg #[u] ∧ Sl w 0 w.heap.size u n) (hl : Sl w 0 w.heap.size vl l) :
    Calls Try.prog 5 #[v, vl, .int .i64 i] w fun e w' => e = .returned (.bool true) ∧ Below w.heap.size w w' := by
  obtain ⟨u, rfl, hu⟩ := h
  exact netOwn u vl n l i w hu hl
end Nt
end Go.Proofs.Ytejolapbdkkdaaa
