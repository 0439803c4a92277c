/-
  LogJoined: what was joined is there; joined again it changes nothing.
-/
import Derived.Test.YthcjnnbnacdhoaaLogLive
import Derived.Test.YthcjnnbnacdhoaaLogSame
import Derived.Test.YthcjnnbnacdhoaaLogArg
import Derived.Test.YthcjnnbnacdhoaaLogJmath
namespace Go.Proofs.Ythcjnnbnacdhoaa
open Go.RowKit Go.Lib
namespace Lo
set_option linter.unusedVariables false
theorem same_to (b t : Nat) (a : Option Addr) (c : Nat) (l : List En) (a2 : Option Addr) (c2 n : Nat) (w : World) (hn : n = l.length) (h : Sl w 0 w.heap.size a c l) (h2 : Sl w 0 w.heap.size a2 c2 l) :
    Calls Try.prog 30 #[.agg #[.int .u64 (b : Nat), .int .u64 (t : Nat), .slice a l.length c], .agg #[.int .u64 (b : Nat), .int .u64 (t : Nat), .slice a2 n c2]] w fun e w' => e = .returned (.bool true) ∧ Below w.heap.size w w' := by
  subst hn
  have := same_log b t a c l b t a2 c2 l w h h2
  rw [sameG_self] at this
  exact this
theorem heap_old {w w' : World} {B : Nat} {o : Obj} (hb : Below w.heap.size w w') (h : w.heap[B]? = some o) : w'.heap[B]? = some o := (hb.block B (Array.getElem?_eq_some_iff.1 h).1).trans h
theorem ent_cells {w : World} {B : Nat} {i t k d u : Value} {T : TypeId} (h : w.heap[B]? = some (.cells #[i, t, k, d, u] T (0, 0))) : w.cell? ⟨B, 0, none⟩ = some i ∧ w.cell? ⟨B, 1, none⟩ = some t :=
  ⟨by rw [cell_of_row w B 0 _ _ (0, 0) h]; rfl, by rw [cell_of_row w B 1 _ _ (0, 0) h]; rfl⟩
set_option maxHeartbeats 16000000 in
set_option maxRecDepth 100000 in
theorem logJoined (v : Value) (x : Lg) (ix te : Int) (u : Value) (y : Option Addr × Nat × List En) (w : World) (hx : LogA w v x) (hi : (Lit.int .u64 ix).wf = true) (ht : (Lit.int .u64 te).wf = true)
    (hy : u = .slice y.1 y.2.2.length y.2.1 ∧ Sl w 0 w.heap.size y.1 y.2.1 y.2.2) (hsum : x.l.length + y.2.2.length ≤ 1048576) :
    Calls Try.prog 5 #[v, .int .u64 ix, .int .u64 te, u] w fun e w' => e = .returned (.bool true) ∧ Below w.heap.size w w' := by
  obtain ⟨ix, rfl, hix⟩ := u64_of hi
  obtain ⟨te, rfl, hte⟩ := u64_of ht
  obtain ⟨b, t, a, c, l⟩ := x
  obtain ⟨rfl, hs, hb, htt⟩ := hx
  obtain ⟨ya, yc, s⟩ := y
  obtain ⟨rfl, hy⟩ := hy
  simp only at hs hb htt hy hsum ⊢
  have hB : Below w.heap.size w (w.alloc (.cells #[.int .u64 (b : Nat), .int .u64 (t : Nat), .slice a l.length c] 25)) := (Below.refl _ _).alloc (Nat.le_refl _) _
  have HB0 := Lib.hid hB
  have C0 := Lib.hid (Bx3.made w (.int .u64 (b : Nat)) (.int .u64 (t : Nat)) (.slice a l.length c) 25)
  have HS0 := Lib.hid (hs.on hB)
  have HY0 := Lib.hid (hy.on hB)
  have KL := Lib.hid lives_true
  have HJN := Lib.hid (fun z h h2 => the_join b t ix te a c l ya yc s z (A := 0) (A2 := 0) h h2 hb hix (by omega))
  have HLS := Lib.hid hs.len
  have HLY := Lib.hid hy.len
  clear hB hs hy
  unfold JV JIs at HJN
  rcases jv_cases (b := b) (t := t) (x := ix) (u := te) (l := l) (s := s) with ⟨r, hr, hv⟩ | ⟨hk, hrw, hq, hj, hv⟩
  · rw [hv] at HJN
    have q5 : ¬ (r : Int) = 0 := by omega
    have q6 : ((r : Int) != 0) = true := by simp; omega
    have HSM := Lib.hid (fun a1 c1 z h1 => same_to 0 0 a1 c1 [] none 0 0 z rfl h1 (Sl.empty _ _ _ _ _ (fun _ => rfl)))
    simp only [List.length_nil] at HJN HSM
    simp only [show ((0 : Nat) : Int) = 0 from rfl] at HJN HSM
    clear hr hv hix hte hb htt hsum
    go_enter Try.func5, Try.ntmps5
    go_upto_region 1 with fail
    generalize (w.alloc (.cells #[.int .u64 (b : Nat), .int .u64 (t : Nat), .slice a l.length c] 25)) = W0 at *
    obtain ⟨d00, d01, d02⟩ := C0.out.cells
    go_upto_region 4 with (first
      | (go_at_call 15; go_loud ((with_reducible refine (KL.out _).mono ?_); rintro e w1 ⟨rfl, hb⟩; have HB1 := Lib.hid (HB0.out.trans (hb.mono HB0.out.size)); have HS1 := Lib.hid (HS0.out.on hb); have HY1 := Lib.hid (HY0.out.on hb); have C1 := Lib.hid (C0.out.below hb); obtain ⟨d10, d11, d12⟩ := C1.out.cells; clear hb))
      | (go_at_call 26; go_loud ((with_reducible refine (HJN.out _ HS1.out HY1.out).mono ?_); rintro e w2 ⟨⟨a2, c2, rfl, ho⟩, hb⟩; have HB2 := Lib.hid (HB1.out.trans (hb.mono HB1.out.size)); have HS2 := Lib.hid (HS1.out.on hb); have HY2 := Lib.hid (HY1.out.on hb); have C2 := Lib.hid (C1.out.below hb); obtain ⟨d20, d21, d22⟩ := C2.out.cells; have HO := Lib.hid (ho.sl.more (Nat.le_refl _) (Nat.zero_le _)); clear hb ho)))
    have hb : Below w2.heap.size w2 (w2.alloc (.cells #[.int .u64 0, .int .u64 0, .slice a2 0 c2] 25)) := ((Below.refl _ _).alloc (Nat.le_refl _) _)
    have HM3 := Lib.hid (HO.out.on hb)
    have R3 := Lib.hid (Bx3.made w2 (.int .u64 0) (.int .u64 0) (.slice a2 0 c2) 25)
    have HB3 := Lib.hid (HB2.out.trans (hb.mono HB2.out.size))
    have HS3 := Lib.hid (HS2.out.on hb)
    have HY3 := Lib.hid (HY2.out.on hb)
    have C3 := Lib.hid (C2.out.below hb)
    clear hb
    generalize w2.alloc (.cells #[.int .u64 0, .int .u64 0, .slice a2 0 c2] 25) = w3 at *
    generalize w2.heap.size = N at *
    obtain ⟨d30, d31, d32⟩ := C3.out.cells
    obtain ⟨e30, e31, e32⟩ := R3.out.cells
    go_wp2_with (go_at_call 30; go_loud ((with_reducible refine (HSM.out _ _ _ HM3.out).mono ?_); rintro e w4 ⟨rfl, hb⟩; have HB4 := Lib.hid (HB3.out.trans (hb.mono HB3.out.size)); clear hb))
    go_wp2
    go_ret
    exact ⟨rfl, HB4.out⟩
  · obtain ⟨j1, j2, j3, j4, j5, j6⟩ := join_is hb hix hk hrw hq hj
    rw [hv] at HJN
    simp only at HJN
    generalize joinL b t l (jnS b ix s) = L at *
    generalize joinF b t l (jnS b ix s) = F at *
    have HJ2 := Lib.hid (fun a2 c2 z h h2 => the_join b t ix te a2 c2 L ya yc s z (A := 0) (A2 := 0) h h2 hb hix (by omega))
    unfold JV JIs at HJ2
    rw [j2] at HJ2
    simp only at HJ2
    have HSM := Lib.hid (fun a1 c1 a2 c2 z h1 h2 => same_to b t a1 c1 L a2 c2 L.length z rfl h1 h2)
    have HSL := Lib.hid (fun hL a1 c1 a2 c2 z h1 h2 => same_to b t a1 c1 l a2 c2 L.length z (congrArg List.length hL) h1 h2)
    have HCK := Lib.hid (fun a2 c2 z h => log_check b t a2 c2 L z (A := 0) h)
    simp only [j1, if_true] at HCK
    have HTM := Lib.hid (fun i (hi : Lt64 i) a2 c2 z h => the_term b t i a2 c2 L z (A := 0) h hb hi)
    simp only [j1, if_true] at HTM
    have J3 := Lib.hid j3
    have J4 := Lib.hid j4
    have J5 := Lib.hid j5
    have z1 : ((b : Int) != (b : Int)) = false := by simp
    clear j1 j2 j3 j4 j5 j6 hv hk hrw hq hj hix hte hb htt hsum
    by_cases hF : F = 0
    · subst hF
      have HLL := Lib.hid (J3.out rfl)
      simp only [show ((0 : Nat) : Int) = 0 from rfl] at HJN HJ2
      have fz : (0 : Int) = 0 := rfl
      go_enter Try.func5, Try.ntmps5
      go_upto_region 1 with fail
      generalize (w.alloc (.cells #[.int .u64 (b : Nat), .int .u64 (t : Nat), .slice a l.length c] 25)) = W0 at *
      obtain ⟨d00, d01, d02⟩ := C0.out.cells
      go_upto_region 4 with (first
        | (go_at_call 15; go_loud ((with_reducible refine (KL.out _).mono ?_); rintro e w1 ⟨rfl, hb⟩; have HB1 := Lib.hid (HB0.out.trans (hb.mono HB0.out.size)); have HS1 := Lib.hid (HS0.out.on hb); have HY1 := Lib.hid (HY0.out.on hb); have C1 := Lib.hid (C0.out.below hb); obtain ⟨d10, d11, d12⟩ := C1.out.cells; clear hb))
        | (go_at_call 26; go_loud ((with_reducible refine (HJN.out _ HS1.out HY1.out).mono ?_); rintro e w2 ⟨⟨a2, c2, rfl, ho⟩, hb⟩; have HB2 := Lib.hid (HB1.out.trans (hb.mono HB1.out.size)); have HS2 := Lib.hid (HS1.out.on hb); have HY2 := Lib.hid (HY1.out.on hb); have C2 := Lib.hid (C1.out.below hb); obtain ⟨d20, d21, d22⟩ := C2.out.cells; have HO := Lib.hid (ho.sl.more (Nat.le_refl _) (Nat.zero_le _)); clear hb ho)))
      have hb : Below w2.heap.size w2 (w2.alloc (.cells #[.int .u64 (b : Nat), .int .u64 (t : Nat), .slice a2 L.length c2] 25)) := ((Below.refl _ _).alloc (Nat.le_refl _) _)
      have HM3 := Lib.hid (HO.out.on hb)
      have R3 := Lib.hid (Bx3.made w2 (.int .u64 (b : Nat)) (.int .u64 (t : Nat)) (.slice a2 L.length c2) 25)
      have HB3 := Lib.hid (HB2.out.trans (hb.mono HB2.out.size))
      have HS3 := Lib.hid (HS2.out.on hb)
      have HY3 := Lib.hid (HY2.out.on hb)
      have C3 := Lib.hid (C2.out.below hb)
      clear hb
      generalize w2.alloc (.cells #[.int .u64 (b : Nat), .int .u64 (t : Nat), .slice a2 L.length c2] 25) = w3 at *
      generalize w2.heap.size = N at *
      obtain ⟨d30, d31, d32⟩ := C3.out.cells
      obtain ⟨e30, e31, e32⟩ := R3.out.cells
      go_upto_region 7 with (go_at_call 26; go_loud ((with_reducible refine (HJ2.out _ _ _ HM3.out HY3.out).mono ?_); rintro e w4 ⟨⟨a3, c3, rfl, ho⟩, hb⟩; have HB4 := Lib.hid (HB3.out.trans (hb.mono HB3.out.size)); have HS4 := Lib.hid (HS3.out.on hb); have HY4 := Lib.hid (HY3.out.on hb); have C4 := Lib.hid (C3.out.below hb); obtain ⟨d40, d41, d42⟩ := C4.out.cells; have HM4 := Lib.hid (HM3.out.on hb); have R4 := Lib.hid (R3.out.below hb); obtain ⟨e40, e41, e42⟩ := R4.out.cells; have HO4 := Lib.hid (ho.sl.more (Nat.le_refl _) (Nat.zero_le _)); clear hb ho))
      have hb : Below w4.heap.size w4 (w4.alloc (.cells #[.int .u64 (b : Nat), .int .u64 (t : Nat), .slice a3 L.length c3] 25)) := ((Below.refl _ _).alloc (Nat.le_refl _) _)
      have HQ5 := Lib.hid (HO4.out.on hb)
      have Q5 := Lib.hid (Bx3.made w4 (.int .u64 (b : Nat)) (.int .u64 (t : Nat)) (.slice a3 L.length c3) 25)
      have HB5 := Lib.hid (HB4.out.trans (hb.mono HB4.out.size))
      have HS5 := Lib.hid (HS4.out.on hb)
      have HY5 := Lib.hid (HY4.out.on hb)
      have C5 := Lib.hid (C4.out.below hb)
      have HM5 := Lib.hid (HM4.out.on hb)
      have R5 := Lib.hid (R4.out.below hb)
      clear hb
      generalize w4.alloc (.cells #[.int .u64 (b : Nat), .int .u64 (t : Nat), .slice a3 L.length c3] 25) = w5 at *
      generalize w4.heap.size = N2 at *
      obtain ⟨d50, d51, d52⟩ := C5.out.cells
      obtain ⟨e50, e51, e52⟩ := R5.out.cells
      obtain ⟨q50, q51, q52⟩ := Q5.out.cells
      go_wp2_with (go_at_call 22; go_loud ((with_reducible refine (HCK.out _ _ _ HM5.out).mono ?_); rintro e w6 ⟨rfl, hb⟩; have HB6 := Lib.hid (HB5.out.trans (hb.mono HB5.out.size)); have HS6 := Lib.hid (HS5.out.on hb); have HY6 := Lib.hid (HY5.out.on hb); have C6 := Lib.hid (C5.out.below hb); obtain ⟨d60, d61, d62⟩ := C6.out.cells; have HM6 := Lib.hid (HM5.out.on hb); have R6 := Lib.hid (R5.out.below hb); obtain ⟨e60, e61, e62⟩ := R6.out.cells; have HQ6 := Lib.hid (HQ5.out.on hb); have Q6 := Lib.hid (Q5.out.below hb); obtain ⟨q60, q61, q62⟩ := Q6.out.cells; clear hb))
      go_wp2_with (go_at_call 30; go_loud ((with_reducible refine (HSM.out _ _ _ _ _ HM6.out HQ6.out).mono ?_); rintro e w7 ⟨rfl, hb⟩; have HB7 := Lib.hid (HB6.out.trans (hb.mono HB6.out.size)); have HS7 := Lib.hid (HS6.out.on hb); have HY7 := Lib.hid (HY6.out.on hb); have C7 := Lib.hid (C6.out.below hb); obtain ⟨d70, d71, d72⟩ := C7.out.cells; have HM7 := Lib.hid (HM6.out.on hb); have R7 := Lib.hid (R6.out.below hb); obtain ⟨e70, e71, e72⟩ := R7.out.cells; clear hb))
      go_wp2_with (go_at_call 30; go_loud ((with_reducible refine (HSL.out HLL.out _ _ _ _ _ HS7.out (HLL.out ▸ HM7.out)).mono ?_); rintro e w8 ⟨rfl, hb⟩; have HB8 := Lib.hid (HB7.out.trans (hb.mono HB7.out.size)); have HS8 := Lib.hid (HS7.out.on hb); have HY8 := Lib.hid (HY7.out.on hb); have C8 := Lib.hid (C7.out.below hb); obtain ⟨d80, d81, d82⟩ := C8.out.cells; have HM8 := Lib.hid (HM7.out.on hb); have R8 := Lib.hid (R7.out.below hb); obtain ⟨e80, e81, e82⟩ := R8.out.cells; clear hb))
      go_wp2
      have HW := Lib.hid (show Below w8.heap.size w8 w8 from Below.refl _ _)
      clear KL HJN HJ2 HSM HSL HCK
      go_loopg [88] s.length (fun gg i wx => ∃ k : Nat, k + gg = s.length ∧ i = .int .i64 k ∧ Aside (Below w8.heap.size w8 wx))
      case atStart => exact ⟨0, by omega, rfl, HW.out⟩
      case round =>
        obtain ⟨k, hkg, rfl, HBW⟩ := hrel
        have hb := HBW.out
        have HB20 := Lib.hid (HB8.out.trans (hb.mono HB8.out.size))
        have HS20 := Lib.hid (HS8.out.on hb)
        have HY20 := Lib.hid (HY8.out.on hb)
        have C20 := Lib.hid (C8.out.below hb)
        obtain ⟨d200, d201, d202⟩ := C20.out.cells
        have HM20 := Lib.hid (HM8.out.on hb)
        have R20 := Lib.hid (R8.out.below hb)
        obtain ⟨e200, e201, e202⟩ := R20.out.cells
        clear hb
        cases gk with
        | zero =>
          obtain rfl : k = s.length := by omega
          clear hkg
          go_wp2
          go_loopg [118] l.length (fun gg i wx => ∃ k : Nat, k + gg = l.length ∧ i = .int .i64 k ∧ Aside (Below w8.heap.size w8 wx))
          case atStart => exact ⟨0, by omega, rfl, HBW.out⟩
          case round =>
            clear HBW HB20 HS20 HY20 HM20 R20 C20 d200 d201 d202 e200 e201 e202
            obtain ⟨k, hkg, rfl, HBW⟩ := hrel
            have hb := HBW.out
            have HB30 := Lib.hid (HB8.out.trans (hb.mono HB8.out.size))
            have HS30 := Lib.hid (HS8.out.on hb)
            have HY30 := Lib.hid (HY8.out.on hb)
            have C30 := Lib.hid (C8.out.below hb)
            obtain ⟨d300, d301, d302⟩ := C30.out.cells
            have HM30 := Lib.hid (HM8.out.on hb)
            have R30 := Lib.hid (R8.out.below hb)
            obtain ⟨e300, e301, e302⟩ := R30.out.cells
            clear hb
            cases gk with
            | zero =>
              obtain rfl : k = l.length := by omega
              clear hkg
              go_wp2
              go_ret
              exact ⟨rfl, HB30.out⟩
            | succ gg =>
              have hlt : k < l.length := by omega
              have hlt2 : (k : Int) < (l.length : Int) := by omega
              have tk : IntKind.i64.wrap ((k : Int) + 1) = (k : Int) + 1 := by have := HLS.out; rw [IntKind.wrap_i64]; omega
              obtain ⟨blk, off, rfl, -, hbk, u, hc⟩ := HS30.out.at k hlt
              obtain ⟨c0, c1, c2', c3', c4, iv, i64, -⟩ := hc
              obtain ⟨ua, uc, rfl⟩ := iv.slice
              have HK := Lib.hid hkg
              have I64 := Lib.hid i64
              have HTF := Lib.hid (J5.out k hlt)
              clear iv i64 hkg
              generalize l[k] = e at *
              rcases e with ⟨ei, et, ek, ed, eks⟩
              simp only at c0 c1 c2' c3' c4 I64 HTF
              have HT := Lib.hid (fun a2 c2 z h => HTM.out ei I64.out a2 c2 z h)
              have n5 := R30.out.lt
              have n6 := C30.out.lt
              have n1 : N ≠ wr.heap.size := Nat.ne_of_lt R30.out.lt
              have n2 : ¬ wr.heap.size = N := fun h => n1 h.symm
              have n3 : w.heap.size ≠ wr.heap.size := Nat.ne_of_lt C30.out.lt
              have n4 : ¬ wr.heap.size = w.heap.size := fun h => n3 h.symm
              have z4 : ((et : Int) != (et : Int)) = false := by simp
              obtain ⟨m1, m2⟩ := HTF.out (.inl trivial)
              simp only [m1, m2] at HT
              clear m1 m2
              clear HTF
              go_wp2_with (go_at_call 11; go_loud ((with_reducible refine (HT.out _ _ _ (HM30.out.on ((Below.refl _ _).alloc (Nat.le_refl _) _))).mono ?_); rintro e w31 ⟨rfl, hb0⟩; have hb : Below wr.heap.size wr w31 := ((Below.refl _ _).alloc (Nat.le_refl _) _).trans (hb0.mono (by simp)); have HBX := Lib.hid (HBW.out.trans (hb.mono HBW.out.size)); have EB := Lib.hid (heap_old hb0 (heap_alloc_new wr _)); have HB31 := Lib.hid (HB30.out.trans (hb.mono HB30.out.size)); have HS31 := Lib.hid (HS30.out.on hb); have HY31 := Lib.hid (HY30.out.on hb); have C31 := Lib.hid (C30.out.below hb); obtain ⟨d310, d311, d312⟩ := C31.out.cells; have HM31 := Lib.hid (HM30.out.on hb); have R31 := Lib.hid (R30.out.below hb); obtain ⟨e310, e311, e312⟩ := R31.out.cells; obtain ⟨g0, g1⟩ := ent_cells EB.out; clear hb hb0))
              go_wp2
              go_roundg gg
              case measure => omega
              case rel => exact ⟨k + 1, by have := HK.out; omega, by simp, HBX.out⟩
        | succ gg =>
          have hlt : k < s.length := by omega
          have hlt2 : (k : Int) < (s.length : Int) := by omega
          have tk : IntKind.i64.wrap ((k : Int) + 1) = (k : Int) + 1 := by have := HLY.out; rw [IntKind.wrap_i64]; omega
          obtain ⟨blk, off, rfl, -, hbk, u, hc⟩ := HY20.out.at k hlt
          obtain ⟨c0, c1, c2', c3', c4, iv, i64, -⟩ := hc
          obtain ⟨ua, uc, rfl⟩ := iv.slice
          have HK := Lib.hid hkg
          have I64 := Lib.hid i64
          have HTF := Lib.hid (J4.out k hlt)
          clear iv i64 hkg
          generalize s[k] = e at *
          rcases e with ⟨ei, et, ek, ed, eks⟩
          simp only at c0 c1 c2' c3' c4 I64 HTF
          have HT := Lib.hid (fun a2 c2 z h => HTM.out ei I64.out a2 c2 z h)
          have n5 := R20.out.lt
          have n6 := C20.out.lt
          have n1 : N ≠ wr.heap.size := Nat.ne_of_lt R20.out.lt
          have n2 : ¬ wr.heap.size = N := fun h => n1 h.symm
          have n3 : w.heap.size ≠ wr.heap.size := Nat.ne_of_lt C20.out.lt
          have n4 : ¬ wr.heap.size = w.heap.size := fun h => n3 h.symm
          have z4 : ((et : Int) != (et : Int)) = false := by simp
          by_cases hbe : b < ei
          · have p1 : (b : Int) < (ei : Int) := by omega
            have p2 : decide ((b : Int) < (ei : Int)) = true := by simp; omega
            obtain ⟨m1, m2⟩ := HTF.out hbe
            simp only [m1, m2] at HT
            clear m1 m2
            clear hbe HTF
            go_wp2_with (go_at_call 11; go_loud ((with_reducible refine (HT.out _ _ _ (HM20.out.on ((Below.refl _ _).alloc (Nat.le_refl _) _))).mono ?_); rintro e w31 ⟨rfl, hb0⟩; have hb : Below wr.heap.size wr w31 := ((Below.refl _ _).alloc (Nat.le_refl _) _).trans (hb0.mono (by simp)); have HBX := Lib.hid (HBW.out.trans (hb.mono HBW.out.size)); have EB := Lib.hid (heap_old hb0 (heap_alloc_new wr _)); have HB31 := Lib.hid (HB20.out.trans (hb.mono HB20.out.size)); have HS31 := Lib.hid (HS20.out.on hb); have HY31 := Lib.hid (HY20.out.on hb); have C31 := Lib.hid (C20.out.below hb); obtain ⟨d310, d311, d312⟩ := C31.out.cells; have HM31 := Lib.hid (HM20.out.on hb); have R31 := Lib.hid (R20.out.below hb); obtain ⟨e310, e311, e312⟩ := R31.out.cells; obtain ⟨g0, g1⟩ := ent_cells EB.out; clear hb hb0))
            go_wp2
            go_roundg gg
            case measure => omega
            case rel => exact ⟨k + 1, by have := HK.out; omega, by simp, HBX.out⟩
          · have p1 : ¬ (b : Int) < (ei : Int) := by omega
            have p2 : decide ((b : Int) < (ei : Int)) = false := by simp; omega
            have p3 : decide (b < ei) = false := by simp; omega
            clear hbe HTF
            generalize tmE b L.length ei = v1 at *
            generalize tmV b t L ei = v2 at *
            go_wp2_with (go_at_call 11; go_loud ((with_reducible refine (HT.out _ _ _ (HM20.out.on ((Below.refl _ _).alloc (Nat.le_refl _) _))).mono ?_); rintro e w31 ⟨rfl, hb0⟩; have hb : Below wr.heap.size wr w31 := ((Below.refl _ _).alloc (Nat.le_refl _) _).trans (hb0.mono (by simp)); have HBX := Lib.hid (HBW.out.trans (hb.mono HBW.out.size)); have EB := Lib.hid (heap_old hb0 (heap_alloc_new wr _)); have HB31 := Lib.hid (HB20.out.trans (hb.mono HB20.out.size)); have HS31 := Lib.hid (HS20.out.on hb); have HY31 := Lib.hid (HY20.out.on hb); have C31 := Lib.hid (C20.out.below hb); obtain ⟨d310, d311, d312⟩ := C31.out.cells; have HM31 := Lib.hid (HM20.out.on hb); have R31 := Lib.hid (R20.out.below hb); obtain ⟨e310, e311, e312⟩ := R31.out.cells; obtain ⟨g0, g1⟩ := ent_cells EB.out; clear hb hb0))
            go_wp2
            go_roundg gg
            case measure => omega
            case rel => exact ⟨k + 1, by have := HK.out; omega, by simp, HBX.out⟩
    · have f1 : (0 : Int) < (F : Int) := by omega
      have f2 : ¬ (F : Int) = 0 := by omega
      have f3 : ((F : Int) == 0) = false := by simp; omega
      simp only [show ((0 : Nat) : Int) = 0 from rfl] at HJN HJ2
      go_enter Try.func5, Try.ntmps5
      go_upto_region 1 with fail
      generalize (w.alloc (.cells #[.int .u64 (b : Nat), .int .u64 (t : Nat), .slice a l.length c] 25)) = W0 at *
      obtain ⟨d00, d01, d02⟩ := C0.out.cells
      go_upto_region 4 with (first
        | (go_at_call 15; go_loud ((with_reducible refine (KL.out _).mono ?_); rintro e w1 ⟨rfl, hb⟩; have HB1 := Lib.hid (HB0.out.trans (hb.mono HB0.out.size)); have HS1 := Lib.hid (HS0.out.on hb); have HY1 := Lib.hid (HY0.out.on hb); have C1 := Lib.hid (C0.out.below hb); obtain ⟨d10, d11, d12⟩ := C1.out.cells; clear hb))
        | (go_at_call 26; go_loud ((with_reducible refine (HJN.out _ HS1.out HY1.out).mono ?_); rintro e w2 ⟨⟨a2, c2, rfl, ho⟩, hb⟩; have HB2 := Lib.hid (HB1.out.trans (hb.mono HB1.out.size)); have HS2 := Lib.hid (HS1.out.on hb); have HY2 := Lib.hid (HY1.out.on hb); have C2 := Lib.hid (C1.out.below hb); obtain ⟨d20, d21, d22⟩ := C2.out.cells; have HO := Lib.hid (ho.sl.more (Nat.le_refl _) (Nat.zero_le _)); clear hb ho)))
      have hb : Below w2.heap.size w2 (w2.alloc (.cells #[.int .u64 (b : Nat), .int .u64 (t : Nat), .slice a2 L.length c2] 25)) := ((Below.refl _ _).alloc (Nat.le_refl _) _)
      have HM3 := Lib.hid (HO.out.on hb)
      have R3 := Lib.hid (Bx3.made w2 (.int .u64 (b : Nat)) (.int .u64 (t : Nat)) (.slice a2 L.length c2) 25)
      have HB3 := Lib.hid (HB2.out.trans (hb.mono HB2.out.size))
      have HS3 := Lib.hid (HS2.out.on hb)
      have HY3 := Lib.hid (HY2.out.on hb)
      have C3 := Lib.hid (C2.out.below hb)
      clear hb
      generalize w2.alloc (.cells #[.int .u64 (b : Nat), .int .u64 (t : Nat), .slice a2 L.length c2] 25) = w3 at *
      generalize w2.heap.size = N at *
      obtain ⟨d30, d31, d32⟩ := C3.out.cells
      obtain ⟨e30, e31, e32⟩ := R3.out.cells
      go_upto_region 7 with (go_at_call 26; go_loud ((with_reducible refine (HJ2.out _ _ _ HM3.out HY3.out).mono ?_); rintro e w4 ⟨⟨a3, c3, rfl, ho⟩, hb⟩; have HB4 := Lib.hid (HB3.out.trans (hb.mono HB3.out.size)); have HS4 := Lib.hid (HS3.out.on hb); have HY4 := Lib.hid (HY3.out.on hb); have C4 := Lib.hid (C3.out.below hb); obtain ⟨d40, d41, d42⟩ := C4.out.cells; have HM4 := Lib.hid (HM3.out.on hb); have R4 := Lib.hid (R3.out.below hb); obtain ⟨e40, e41, e42⟩ := R4.out.cells; have HO4 := Lib.hid (ho.sl.more (Nat.le_refl _) (Nat.zero_le _)); clear hb ho))
      have hb : Below w4.heap.size w4 (w4.alloc (.cells #[.int .u64 (b : Nat), .int .u64 (t : Nat), .slice a3 L.length c3] 25)) := ((Below.refl _ _).alloc (Nat.le_refl _) _)
      have HQ5 := Lib.hid (HO4.out.on hb)
      have Q5 := Lib.hid (Bx3.made w4 (.int .u64 (b : Nat)) (.int .u64 (t : Nat)) (.slice a3 L.length c3) 25)
      have HB5 := Lib.hid (HB4.out.trans (hb.mono HB4.out.size))
      have HS5 := Lib.hid (HS4.out.on hb)
      have HY5 := Lib.hid (HY4.out.on hb)
      have C5 := Lib.hid (C4.out.below hb)
      have HM5 := Lib.hid (HM4.out.on hb)
      have R5 := Lib.hid (R4.out.below hb)
      clear hb
      generalize w4.alloc (.cells #[.int .u64 (b : Nat), .int .u64 (t : Nat), .slice a3 L.length c3] 25) = w5 at *
      generalize w4.heap.size = N2 at *
      obtain ⟨d50, d51, d52⟩ := C5.out.cells
      obtain ⟨e50, e51, e52⟩ := R5.out.cells
      obtain ⟨q50, q51, q52⟩ := Q5.out.cells
      go_wp2_with (go_at_call 22; go_loud ((with_reducible refine (HCK.out _ _ _ HM5.out).mono ?_); rintro e w6 ⟨rfl, hb⟩; have HB6 := Lib.hid (HB5.out.trans (hb.mono HB5.out.size)); have HS6 := Lib.hid (HS5.out.on hb); have HY6 := Lib.hid (HY5.out.on hb); have C6 := Lib.hid (C5.out.below hb); obtain ⟨d60, d61, d62⟩ := C6.out.cells; have HM6 := Lib.hid (HM5.out.on hb); have R6 := Lib.hid (R5.out.below hb); obtain ⟨e60, e61, e62⟩ := R6.out.cells; have HQ6 := Lib.hid (HQ5.out.on hb); have Q6 := Lib.hid (Q5.out.below hb); obtain ⟨q60, q61, q62⟩ := Q6.out.cells; clear hb))
      go_wp2_with (go_at_call 30; go_loud ((with_reducible refine (HSM.out _ _ _ _ _ HM6.out HQ6.out).mono ?_); rintro e w7 ⟨rfl, hb⟩; have HB7 := Lib.hid (HB6.out.trans (hb.mono HB6.out.size)); have HS7 := Lib.hid (HS6.out.on hb); have HY7 := Lib.hid (HY6.out.on hb); have C7 := Lib.hid (C6.out.below hb); obtain ⟨d70, d71, d72⟩ := C7.out.cells; have HM7 := Lib.hid (HM6.out.on hb); have R7 := Lib.hid (R6.out.below hb); obtain ⟨e70, e71, e72⟩ := R7.out.cells; clear hb))
      go_wp2
      have HW := Lib.hid (show Below w7.heap.size w7 w7 from Below.refl _ _)
      clear KL HJN HJ2 HSM HSL HCK
      go_loopg [88] s.length (fun gg i wx => ∃ k : Nat, k + gg = s.length ∧ i = .int .i64 k ∧ Aside (Below w7.heap.size w7 wx))
      case atStart => exact ⟨0, by omega, rfl, HW.out⟩
      case round =>
        obtain ⟨k, hkg, rfl, HBW⟩ := hrel
        have hb := HBW.out
        have HB20 := Lib.hid (HB7.out.trans (hb.mono HB7.out.size))
        have HS20 := Lib.hid (HS7.out.on hb)
        have HY20 := Lib.hid (HY7.out.on hb)
        have C20 := Lib.hid (C7.out.below hb)
        obtain ⟨d200, d201, d202⟩ := C20.out.cells
        have HM20 := Lib.hid (HM7.out.on hb)
        have R20 := Lib.hid (R7.out.below hb)
        obtain ⟨e200, e201, e202⟩ := R20.out.cells
        clear hb
        cases gk with
        | zero =>
          obtain rfl : k = s.length := by omega
          clear hkg
          go_wp2
          go_loopg [118] l.length (fun gg i wx => ∃ k : Nat, k + gg = l.length ∧ i = .int .i64 k ∧ Aside (Below w7.heap.size w7 wx))
          case atStart => exact ⟨0, by omega, rfl, HBW.out⟩
          case round =>
            clear HBW HB20 HS20 HY20 HM20 R20 C20 d200 d201 d202 e200 e201 e202
            obtain ⟨k, hkg, rfl, HBW⟩ := hrel
            have hb := HBW.out
            have HB30 := Lib.hid (HB7.out.trans (hb.mono HB7.out.size))
            have HS30 := Lib.hid (HS7.out.on hb)
            have HY30 := Lib.hid (HY7.out.on hb)
            have C30 := Lib.hid (C7.out.below hb)
            obtain ⟨d300, d301, d302⟩ := C30.out.cells
            have HM30 := Lib.hid (HM7.out.on hb)
            have R30 := Lib.hid (R7.out.below hb)
            obtain ⟨e300, e301, e302⟩ := R30.out.cells
            clear hb
            cases gk with
            | zero =>
              obtain rfl : k = l.length := by omega
              clear hkg
              go_wp2
              go_ret
              exact ⟨rfl, HB30.out⟩
            | succ gg =>
              have hlt : k < l.length := by omega
              have hlt2 : (k : Int) < (l.length : Int) := by omega
              have tk : IntKind.i64.wrap ((k : Int) + 1) = (k : Int) + 1 := by have := HLS.out; rw [IntKind.wrap_i64]; omega
              obtain ⟨blk, off, rfl, -, hbk, u, hc⟩ := HS30.out.at k hlt
              obtain ⟨c0, c1, c2', c3', c4, iv, i64, -⟩ := hc
              obtain ⟨ua, uc, rfl⟩ := iv.slice
              have HK := Lib.hid hkg
              have I64 := Lib.hid i64
              have HTF := Lib.hid (J5.out k hlt)
              clear iv i64 hkg
              generalize l[k] = e at *
              rcases e with ⟨ei, et, ek, ed, eks⟩
              simp only at c0 c1 c2' c3' c4 I64 HTF
              have HT := Lib.hid (fun a2 c2 z h => HTM.out ei I64.out a2 c2 z h)
              have n5 := R30.out.lt
              have n6 := C30.out.lt
              have n1 : N ≠ wr.heap.size := Nat.ne_of_lt R30.out.lt
              have n2 : ¬ wr.heap.size = N := fun h => n1 h.symm
              have n3 : w.heap.size ≠ wr.heap.size := Nat.ne_of_lt C30.out.lt
              have n4 : ¬ wr.heap.size = w.heap.size := fun h => n3 h.symm
              have z4 : ((et : Int) != (et : Int)) = false := by simp
              by_cases hbe : ei < F
              · have p1 : ¬ (F : Int) ≤ (ei : Int) := by omega
                have p2 : decide ((F : Int) ≤ (ei : Int)) = false := by simp; omega
                have p3 : (ei : Int) < (F : Int) := by omega
                have p4 : decide (F ≤ ei) = false := by simp; omega
                obtain ⟨m1, m2⟩ := HTF.out (.inr hbe)
                simp only [m1, m2] at HT
                clear m1 m2
                clear hbe HTF
                go_wp2_with (go_at_call 11; go_loud ((with_reducible refine (HT.out _ _ _ (HM30.out.on ((Below.refl _ _).alloc (Nat.le_refl _) _))).mono ?_); rintro e w31 ⟨rfl, hb0⟩; have hb : Below wr.heap.size wr w31 := ((Below.refl _ _).alloc (Nat.le_refl _) _).trans (hb0.mono (by simp)); have HBX := Lib.hid (HBW.out.trans (hb.mono HBW.out.size)); have EB := Lib.hid (heap_old hb0 (heap_alloc_new wr _)); have HB31 := Lib.hid (HB30.out.trans (hb.mono HB30.out.size)); have HS31 := Lib.hid (HS30.out.on hb); have HY31 := Lib.hid (HY30.out.on hb); have C31 := Lib.hid (C30.out.below hb); obtain ⟨d310, d311, d312⟩ := C31.out.cells; have HM31 := Lib.hid (HM30.out.on hb); have R31 := Lib.hid (R30.out.below hb); obtain ⟨e310, e311, e312⟩ := R31.out.cells; obtain ⟨g0, g1⟩ := ent_cells EB.out; clear hb hb0))
                go_wp2
                go_roundg gg
                case measure => omega
                case rel => exact ⟨k + 1, by have := HK.out; omega, by simp, HBX.out⟩
              · have p1 : (F : Int) ≤ (ei : Int) := by omega
                have p2 : decide ((F : Int) ≤ (ei : Int)) = true := by simp; omega
                have p3 : ¬ (ei : Int) < (F : Int) := by omega
                clear hbe HTF
                generalize tmE b L.length ei = v1 at *
                generalize tmV b t L ei = v2 at *
                go_wp2_with (go_at_call 11; go_loud ((with_reducible refine (HT.out _ _ _ (HM30.out.on ((Below.refl _ _).alloc (Nat.le_refl _) _))).mono ?_); rintro e w31 ⟨rfl, hb0⟩; have hb : Below wr.heap.size wr w31 := ((Below.refl _ _).alloc (Nat.le_refl _) _).trans (hb0.mono (by simp)); have HBX := Lib.hid (HBW.out.trans (hb.mono HBW.out.size)); have EB := Lib.hid (heap_old hb0 (heap_alloc_new wr _)); have HB31 := Lib.hid (HB30.out.trans (hb.mono HB30.out.size)); have HS31 := Lib.hid (HS30.out.on hb); have HY31 := Lib.hid (HY30.out.on hb); have C31 := Lib.hid (C30.out.below hb); obtain ⟨d310, d311, d312⟩ := C31.out.cells; have HM31 := Lib.hid (HM30.out.on hb); have R31 := Lib.hid (R30.out.below hb); obtain ⟨e310, e311, e312⟩ := R31.out.cells; obtain ⟨g0, g1⟩ := ent_cells EB.out; clear hb hb0))
                go_wp2
                go_ret
                exact ⟨rfl, HB31.out⟩
        | succ gg =>
          have hlt : k < s.length := by omega
          have hlt2 : (k : Int) < (s.length : Int) := by omega
          have tk : IntKind.i64.wrap ((k : Int) + 1) = (k : Int) + 1 := by have := HLY.out; rw [IntKind.wrap_i64]; omega
          obtain ⟨blk, off, rfl, -, hbk, u, hc⟩ := HY20.out.at k hlt
          obtain ⟨c0, c1, c2', c3', c4, iv, i64, -⟩ := hc
          obtain ⟨ua, uc, rfl⟩ := iv.slice
          have HK := Lib.hid hkg
          have I64 := Lib.hid i64
          have HTF := Lib.hid (J4.out k hlt)
          clear iv i64 hkg
          generalize s[k] = e at *
          rcases e with ⟨ei, et, ek, ed, eks⟩
          simp only at c0 c1 c2' c3' c4 I64 HTF
          have HT := Lib.hid (fun a2 c2 z h => HTM.out ei I64.out a2 c2 z h)
          have n5 := R20.out.lt
          have n6 := C20.out.lt
          have n1 : N ≠ wr.heap.size := Nat.ne_of_lt R20.out.lt
          have n2 : ¬ wr.heap.size = N := fun h => n1 h.symm
          have n3 : w.heap.size ≠ wr.heap.size := Nat.ne_of_lt C20.out.lt
          have n4 : ¬ wr.heap.size = w.heap.size := fun h => n3 h.symm
          have z4 : ((et : Int) != (et : Int)) = false := by simp
          by_cases hbe : b < ei
          · have p1 : (b : Int) < (ei : Int) := by omega
            have p2 : decide ((b : Int) < (ei : Int)) = true := by simp; omega
            obtain ⟨m1, m2⟩ := HTF.out hbe
            simp only [m1, m2] at HT
            clear m1 m2
            clear hbe HTF
            go_wp2_with (go_at_call 11; go_loud ((with_reducible refine (HT.out _ _ _ (HM20.out.on ((Below.refl _ _).alloc (Nat.le_refl _) _))).mono ?_); rintro e w31 ⟨rfl, hb0⟩; have hb : Below wr.heap.size wr w31 := ((Below.refl _ _).alloc (Nat.le_refl _) _).trans (hb0.mono (by simp)); have HBX := Lib.hid (HBW.out.trans (hb.mono HBW.out.size)); have EB := Lib.hid (heap_old hb0 (heap_alloc_new wr _)); have HB31 := Lib.hid (HB20.out.trans (hb.mono HB20.out.size)); have HS31 := Lib.hid (HS20.out.on hb); have HY31 := Lib.hid (HY20.out.on hb); have C31 := Lib.hid (C20.out.below hb); obtain ⟨d310, d311, d312⟩ := C31.out.cells; have HM31 := Lib.hid (HM20.out.on hb); have R31 := Lib.hid (R20.out.below hb); obtain ⟨e310, e311, e312⟩ := R31.out.cells; obtain ⟨g0, g1⟩ := ent_cells EB.out; clear hb hb0))
            go_wp2
            go_roundg gg
            case measure => omega
            case rel => exact ⟨k + 1, by have := HK.out; omega, by simp, HBX.out⟩
          · have p1 : ¬ (b : Int) < (ei : Int) := by omega
            have p2 : decide ((b : Int) < (ei : Int)) = false := by simp; omega
            have p3 : decide (b < ei) = false := by simp; omega
            clear hbe HTF
            generalize tmE b L.length ei = v1 at *
            generalize tmV b t L ei = v2 at *
            go_wp2_with (go_at_call 11; go_loud ((with_reducible refine (HT.out _ _ _ (HM20.out.on ((Below.refl _ _).alloc (Nat.le_refl _) _))).mono ?_); rintro e w31 ⟨rfl, hb0⟩; have hb : Below wr.heap.size wr w31 := ((Below.refl _ _).alloc (Nat.le_refl _) _).trans (hb0.mono (by simp)); have HBX := Lib.hid (HBW.out.trans (hb.mono HBW.out.size)); have EB := Lib.hid (heap_old hb0 (heap_alloc_new wr _)); have HB31 := Lib.hid (HB20.out.trans (hb.mono HB20.out.size)); have HS31 := Lib.hid (HS20.out.on hb); have HY31 := Lib.hid (HY20.out.on hb); have C31 := Lib.hid (C20.out.below hb); obtain ⟨d310, d311, d312⟩ := C31.out.cells; have HM31 := Lib.hid (HM20.out.on hb); have R31 := Lib.hid (R20.out.below hb); obtain ⟨e310, e311, e312⟩ := R31.out.cells; obtain ⟨g0, g1⟩ := ent_cells EB.out; clear hb hb0))
            go_wp2
            go_roundg gg
            case measure => omega
            case rel => exact ⟨k + 1, by have := HK.out; omega, by simp, HBX.out⟩
end Lo
end Go.Proofs.Ythcjnnbnacdhoaa
