/-
  quorum.Settled, quorum.Next.
-/
import Derived.Test.YtndihliagcgdeaaQuSet
namespace Go.Proofs.Ytndihliagcgdeaa
open Go.RowKit Go.Lib
namespace Qu
open Lo
set_option linter.unusedVariables false
theorem stp_0 {f : Int → Nat} {ks : List Int} {m : Int} {b : Nat} (h : ¬ b < f m) : stp f ks m b = b := if_neg h
theorem stp_1 {f : Int → Nat} {ks : List Int} {m : Int} {b : Nat} (h : b < f m) (h2 : mostF (geF f (f m)) ks = false) : stp f ks m b = b := by unfold stp; rw [if_pos h, if_neg (by rw [h2]; simp)]
theorem stp_2 {f : Int → Nat} {ks : List Int} {m : Int} {b : Nat} (h : b < f m) (h2 : mostF (geF f (f m)) ks = true) : stp f ks m b = f m := by unfold stp; rw [if_pos h, if_pos h2]
set_option maxHeartbeats 4000000 in
set_option maxRecDepth 100000 in
theorem the_settled (v u : Value) (ks : List Int) (id : Int) (en : Nat) (l : List Pe) (w : World) {A A2 : Nat} (h : IntsR w A w.heap.size v ks) (hu : PeR w A2 w.heap.size u l) :
    Calls Try.prog 16 #[v, .int .i64 id, .int .u64 (en : Nat), u] w fun e w' => e = .returned (.int .u64 (setB ks id en l : Nat)) ∧ Below w.heap.size w w' := by
  have hE1 : ∀ args w, (callFunc 26 args).run Try.prog w = .ok (.enter 26 args) w := Go.Proofs.enters_of Try.func26 (by kernel_rfl) rfl
  have hmf : ∀ (fn : Fn) (first cap : Array Value) (w : World), (Instr.makeFunc fn first cap).run Try.prog w = .ok (.func fn first cap) w := fun _ _ _ _ => rfl
  have K1 : Hid (∀ g9 m z, StS w g9 id en u z → Calls Try.prog 26 #[.int .i64 m, .pointer (some ⟨w.heap.size, 0, none⟩), .pointer (some ⟨w.heap.size + 1, 0, none⟩), .pointer (some ⟨w.heap.size + 1 + 1, 0, none⟩)] z fun e z' => e = .returned (.int .u64 (upt id en l m : Nat)) ∧ Below z.heap.size z z') := by
    intro g9 m z hz
    exact settled_1 _ _ _ u id en l m z (hu.on hz.be) hz.c0 hz.c1 hz.c2
  have K3 : Hid (∀ g9 g n z, StS w g9 id en u z → z.cell? ⟨g, 0, none⟩ = some (.int .u64 (n : Nat)) → g < z.heap.size → Calls Try.prog 21 #[v, .func (.func 28) #[] #[.pointer (some ⟨g9, 0, none⟩), .pointer (some ⟨g, 0, none⟩)]] z fun e z' => e = .returned (.bool (mostF (geF (upt id en l) n) ks)) ∧ Below z.heap.size z z') := by
    intro g9 g n z hz hg hgl
    exact the_most2 28 (Go.Proofs.enters_of Try.func28 (by kernel_rfl) rfl) _ _ _ v ks z (h.on hz.be) (fun m y hy => settled_2 w g9 g id en n u l m y hu (hz.go hy) ((hy.cell (by exact hgl)).trans hg) (Nat.lt_of_lt_of_le hgl hy.size))
  have HR : Hid (∀ z, Below w.heap.size w z → Calls Try.prog 20 #[v] z fun e z' => e = .returned (.bool (rmB ks)) ∧ Below z.heap.size z z') := fun z hz => the_right v ks z (h.on hz)
  have HQ : Hid (setB ks id en l = if rmB ks = true then stl (upt id en l) ks ks 0 else 0) := rfl
  have HB0 : Hid (Below w.heap.size w (((w.alloc (.cells #[.int .i64 id] 3)).alloc (.cells #[.int .u64 (en : Nat)] 27)).alloc (.cells #[u] 28))) :=
    (((Below.refl _ w).alloc (Nat.le_refl _) _).alloc (by rw [World.size_alloc]; omega) _).alloc (by rw [World.size_alloc, World.size_alloc]; omega) _
  have C0 : Hid ((((w.alloc (.cells #[.int .i64 id] 3)).alloc (.cells #[.int .u64 (en : Nat)] 27)).alloc (.cells #[u] 28)).cell? ⟨w.heap.size, 0, none⟩ = some (.int .i64 id) ∧
      (((w.alloc (.cells #[.int .i64 id] 3)).alloc (.cells #[.int .u64 (en : Nat)] 27)).alloc (.cells #[u] 28)).cell? ⟨w.heap.size + 1, 0, none⟩ = some (.int .u64 (en : Nat)) ∧
      (((w.alloc (.cells #[.int .i64 id] 3)).alloc (.cells #[.int .u64 (en : Nat)] 27)).alloc (.cells #[u] 28)).cell? ⟨w.heap.size + 1 + 1, 0, none⟩ = some u) := by
    refine ⟨?_, ?_, ?_⟩
    · exact cell_old _ (cell_old _ (cell_new w _ _))
    · have := cell_new (w.alloc (.cells #[.int .i64 id] 3)) (.int .u64 (en : Nat)) 27
      rw [World.size_alloc] at this
      exact cell_old _ this
    · have := cell_new ((w.alloc (.cells #[.int .i64 id] 3)).alloc (.cells #[.int .u64 (en : Nat)] 27)) u 28
      rw [World.size_alloc, World.size_alloc] at this
      exact this
  obtain ⟨a, c, rfl, hl, hr, hc⟩ := h
  obtain ⟨a2, c2, rfl⟩ := hu.slice
  have HC := Lib.hid hc
  clear hu hr hc
  generalize setB ks id en l = r at *
  cases hq : rmB ks
  · rw [hq] at HR HQ
    have HE : Hid (r = 0) := HQ.out
    clear hq HQ K1 K3 HC
    go_enter Try.func16, Try.ntmps16
    go_wp2_with (go_at_call 20; go_loud ((with_reducible refine (HR.out _ HB0.out).mono ?_); rintro e w1 ⟨rfl, hb⟩; have HB := Lib.hid (HB0.out.trans (hb.mono HB0.out.size)); clear hb))
    go_wp2
    go_ret
    exact ⟨by rw [HE.out]; rfl, HB.out⟩
  · rw [hq] at HR HQ
    have HE : Hid (r = stl (upt id en l) ks ks 0) := HQ.out
    clear hq HQ
    generalize upt id en l = f at *
    go_enter Try.func16, Try.ntmps16
    go_wp2_with (go_at_call 20; go_loud ((with_reducible refine (HR.out _ HB0.out).mono ?_); rintro e w1 ⟨rfl, hb⟩; have HB := Lib.hid (HB0.out.trans (hb.mono HB0.out.size)); have hz1 := hb.size; have HB1 := Lib.hid hb; clear hb))
    rw [World.size_alloc, World.size_alloc, World.size_alloc] at hz1
    have HS0 : Hid (∀ F T, (F = (Value.func (.func 26) #[] #[.pointer (some ⟨w.heap.size, 0, none⟩), .pointer (some ⟨w.heap.size + 1, 0, none⟩), .pointer (some ⟨w.heap.size + 1 + 1, 0, none⟩)])) → StS w w1.heap.size id en (.slice a2 l.length c2) (w1.alloc (.cells #[F] T))) := by
      rintro F T rfl
      have hA : Below w1.heap.size w1 (w1.alloc (.cells #[Value.func (.func 26) #[] #[.pointer (some ⟨w.heap.size, 0, none⟩), .pointer (some ⟨w.heap.size + 1, 0, none⟩), .pointer (some ⟨w.heap.size + 1 + 1, 0, none⟩)]] T)) := (Below.refl _ _).alloc (Nat.le_refl _) _
      obtain ⟨d0, d1, d2⟩ := C0.out
      have e : ∀ g v, g < w.heap.size + 1 + 1 + 1 → (((w.alloc (.cells #[.int .i64 id] 3)).alloc (.cells #[.int .u64 (en : Nat)] 27)).alloc (.cells #[.slice a2 l.length c2] 28)).cell? ⟨g, 0, none⟩ = some v → (w1.alloc (.cells #[Value.func (.func 26) #[] #[.pointer (some ⟨w.heap.size, 0, none⟩), .pointer (some ⟨w.heap.size + 1, 0, none⟩), .pointer (some ⟨w.heap.size + 1 + 1, 0, none⟩)]] T)).cell? ⟨g, 0, none⟩ = some v := fun g v hg hv => by
        refine (hA.cell (by show g < _; omega)).trans ((HB1.out.cell ?_).trans hv)
        rw [World.size_alloc, World.size_alloc, World.size_alloc]
        exact hg
      exact ⟨HB.out.trans (hA.mono HB.out.size), e _ _ (by omega) d0, e _ _ (by omega) d1, e _ _ (by omega) d2, cell_new w1 _ _, by omega, by rw [World.size_alloc]; omega⟩
    go_wp2
    go_loopg [10, 20] ks.length (fun gg n i wx => ∃ k b : Nat, k + gg = ks.length ∧ n = .int .u64 b ∧ i = .int .i64 k ∧ Aside (StS w w1.heap.size id en (.slice a2 l.length c2) wx) ∧ Aside (stl f ks ks 0 = stl f ks (ks.drop k) b))
    case atStart => exact ⟨0, 0, by omega, rfl, rfl, HS0.out _ _ rfl, rfl⟩
    case round =>
      obtain ⟨k, b, hkg, rfl, rfl, HS, HA⟩ := hrel
      cases gk with
      | zero =>
        obtain rfl : k = ks.length := by omega
        have HE2 : Hid (r = b) := HE.out.trans (HA.out.trans (stl_end f ks ks b))
        clear hkg HA
        go_wp2
        go_ret
        exact ⟨by rw [HE2.out]; rfl, HS.out.be⟩
      | succ gg =>
        have hlt : k < ks.length := by omega
        have hlt2 : (k : Int) < (ks.length : Int) := by omega
        obtain ⟨bk, off, rfl, hA, hb, hcell⟩ := HC.out (by omega)
        have hx := (HS.out.be.cell (by exact hb)).trans (hcell k hlt)
        have HM := Lib.hid (stl_at f ks ks k hlt b)
        have tk : IntKind.i64.wrap ((k : Int) + 1) = (k : Int) + 1 := by rw [IntKind.wrap_i64]; omega
        have c9 := HS.out.c9
        have HK := Lib.hid (K1.out w1.heap.size ks[k] _ HS.out)
        clear hcell
        generalize ks[k] = x at *
        go_wp2_with fail
        refine HK.out.mono ?_
        rintro e w2 ⟨rfl, hb2⟩
        have HS2 := Lib.hid (HS.out.go hb2)
        have HS3 : Hid (∀ F T, StS w w1.heap.size id en (.slice a2 l.length c2) (w2.alloc (.cells #[F] T))) := fun F T => HS2.out.go ((Below.refl _ _).alloc (Nat.le_refl _) _)
        have HG3 : Hid (∀ F T, (w2.alloc (.cells #[F] T)).cell? ⟨w2.heap.size, 0, none⟩ = some F ∧ w2.heap.size < (w2.alloc (.cells #[F] T)).heap.size) := fun F T => ⟨cell_new w2 F T, by rw [World.size_alloc]; omega⟩
        clear hb2
        by_cases h1 : b < f x
        · have t1 : decide (b < f x) = true := by simpa using h1
          cases h2 : mostF (geF f (f x)) ks
          · have HN : Hid (stl f ks ks 0 = stl f ks (ks.drop (k + 1)) b) := HA.out.trans (HM.out.trans (by rw [stp_1 h1 h2]))
            have K4 : Hid (∀ F T, F = Value.int .u64 (f x : Nat) → Calls Try.prog 21 #[.slice (some ⟨bk, off, none⟩) ks.length c, .func (.func 28) #[] #[.pointer (some ⟨w1.heap.size, 0, none⟩), .pointer (some ⟨w2.heap.size, 0, none⟩)]] (w2.alloc (.cells #[F] T)) fun e z' => e = .returned (.bool false) ∧ StS w w1.heap.size id en (.slice a2 l.length c2) z') := by
              rintro F T rfl
              refine (K3.out w1.heap.size w2.heap.size (f x) _ (HS3.out _ T) (HG3.out _ T).1 (HG3.out (Value.int .u64 (f x : Nat)) T).2).mono ?_
              rintro e z' ⟨he, hb⟩
              rw [h2] at he
              exact ⟨he, (HS3.out _ T).go hb⟩
            clear h1 h2 HM HA K3 HS3 HG3
            go_wp2_with (go_at_call 21; go_loud ((with_reducible refine (K4.out _ _ rfl).mono ?_); rintro e w3 ⟨rfl, hS4⟩; have HS4 := Lib.hid hS4; clear hS4))
            go_wp2
            go_roundg gg
            case measure => omega
            case rel => exact ⟨k + 1, b, by omega, rfl, by simp, HS4.out, HN.out⟩
          · have HN : Hid (stl f ks ks 0 = stl f ks (ks.drop (k + 1)) (f x)) := HA.out.trans (HM.out.trans (by rw [stp_2 h1 h2]))
            have K4 : Hid (∀ F T, F = Value.int .u64 (f x : Nat) → Calls Try.prog 21 #[.slice (some ⟨bk, off, none⟩) ks.length c, .func (.func 28) #[] #[.pointer (some ⟨w1.heap.size, 0, none⟩), .pointer (some ⟨w2.heap.size, 0, none⟩)]] (w2.alloc (.cells #[F] T)) fun e z' => e = .returned (.bool true) ∧ StS w w1.heap.size id en (.slice a2 l.length c2) z' ∧ z'.cell? ⟨w2.heap.size, 0, none⟩ = some F) := by
              rintro F T rfl
              refine (K3.out w1.heap.size w2.heap.size (f x) _ (HS3.out _ T) (HG3.out _ T).1 (HG3.out (Value.int .u64 (f x : Nat)) T).2).mono ?_
              rintro e z' ⟨he, hb⟩
              rw [h2] at he
              exact ⟨he, (HS3.out _ T).go hb, (hb.cell (by exact (HG3.out (Value.int .u64 (f x : Nat)) T).2)).trans (HG3.out _ T).1⟩
            clear h1 h2 HM HA K3 HS3 HG3
            go_wp2_with (go_at_call 21; go_loud ((with_reducible refine (K4.out _ _ rfl).mono ?_); rintro e w3 ⟨rfl, hS4, hg4⟩; have HS4 := Lib.hid hS4; clear hS4))
            go_wp2
            go_roundg gg
            case measure => omega
            case rel => exact ⟨k + 1, f x, by omega, rfl, by simp, HS4.out, HN.out⟩
        · have t1 : decide (b < f x) = false := by simpa using h1
          have HN : Hid (stl f ks ks 0 = stl f ks (ks.drop (k + 1)) b) := HA.out.trans (HM.out.trans (by rw [stp_0 h1]))
          have HS5 := Lib.hid (HS3.out (.int .u64 (f x : Nat)) 27)
          clear h1 HM HA K3 HS3 HG3
          go_wp2
          go_roundg gg
          case measure => omega
          case rel => exact ⟨k + 1, b, by omega, rfl, by simp, HS5.out, HN.out⟩
set_option maxHeartbeats 2000000 in
theorem the_next (v u : Value) (nw th : List Int) (w : World) {A A2 : Nat} (h : IntsR w A w.heap.size v nw) (hu : IntsR w A2 w.heap.size u th) :
    Calls Try.prog 14 #[v, u] w fun e w' => e = .returned (.int .i64 (nextE nw th : Nat)) ∧ Below w.heap.size w w' := by
  have HR := Lib.hid (the_right v nw w h)
  have HR2 : Hid (∀ z, Below w.heap.size w z → Calls Try.prog 20 #[u] z fun e z' => e = .returned (.bool (rmB th)) ∧ Below w.heap.size w z') := fun z hz => (the_right u th z (hu.on hz)).mono fun e z' he => ⟨he.1, hz.trans (he.2.mono hz.size)⟩
  have HM : Hid (∀ z, Below w.heap.size w z → Calls Try.prog 25 #[v, .func (.func 31) #[] #[.pointer (some ⟨z.heap.size, 0, none⟩)]] (z.alloc (.cells #[u] 22)) fun e w' => e = .returned (.int .i64 (cnt (hasI th) nw : Nat)) ∧ Below w.heap.size w w') := by
    intro z hz
    have hz2 : Below z.heap.size z (z.alloc (.cells #[u] 22)) := (Below.refl _ _).alloc (Nat.le_refl _) _
    refine (the_count1 31 (Go.Proofs.enters_of Try.func31 (by kernel_rfl) rfl) (.pointer (some ⟨z.heap.size, 0, none⟩)) (hasI th) v nw _ ((h.on hz).on hz2) (fun m y hy => ?_)).mono (fun e w' he => ⟨he.1, (hz.trans (hz2.mono hz.size)).trans (he.2.mono (by have := hz.size; have := hz2.size; omega))⟩)
    refine amongst_is u th m z.heap.size y (((hu.on hz).on hz2).on hy) ?_
    rw [hy.cell (by show z.heap.size < (z.alloc _).heap.size; rw [World.size_alloc]; exact Nat.lt_succ_self _)]
    exact cell_new z _ _
  have HQ : Hid (nextE nw th = if rmB nw = true then (if rmB th = true then (if (nw.length : Int) - cnt (hasI th) nw + th.length - cnt (hasI th) nw = 1 then 0 else 1) else 4) else 4) := rfl
  obtain ⟨a, c, rfl, hl, -, -⟩ := h
  obtain ⟨a2, c2, rfl, hl2, -, -⟩ := hu
  have HA := Lib.hid (fun z => the_amongst a2 th.length c2 z)
  have hcl := cnt_le (hasI th) nw
  generalize nextE nw th = q at *
  generalize cnt (hasI th) nw = s at *
  cases hr : rmB nw
  · rw [hr] at HR HQ
    have HE : Hid (q = 4) := HQ.out
    clear hr HQ HM HR2
    go_enter Try.func14, Try.ntmps14
    go_wp2_with (go_at_call 20; go_loud ((with_reducible refine HR.out.mono ?_); rintro e w1 ⟨rfl, hb⟩; have HB := Lib.hid hb; clear hb))
    go_wp2
    go_ret
    exact ⟨by rw [HE.out]; rfl, HB.out⟩
  · rw [hr] at HR HQ
    cases hr2 : rmB th
    · rw [hr2] at HR2 HQ
      have HE : Hid (q = 4) := HQ.out
      clear hr hr2 HQ HM
      go_enter Try.func14, Try.ntmps14
      go_wp2_with (go_at_call 20; go_loud ((with_reducible refine HR.out.mono ?_); rintro e w1 ⟨rfl, hb⟩; have HB := Lib.hid hb; clear hb))
      go_wp2_with (go_at_call 20; go_loud ((with_reducible refine (HR2.out _ HB.out).mono ?_); rintro e w2 ⟨rfl, hb⟩; have HB2 := Lib.hid hb; clear hb))
      go_wp2
      go_ret
      exact ⟨by rw [HE.out]; rfl, HB2.out⟩
    · rw [hr2] at HR2 HQ
      clear hr hr2
      by_cases h1 : (nw.length : Int) - s + th.length - s = 1
      · have HE : Hid (q = 0) := HQ.out.trans (by rw [if_pos rfl, if_pos rfl, if_pos h1])
        clear HQ
        go_enter Try.func14, Try.ntmps14
        go_wp2_with (go_at_call 20; go_loud ((with_reducible refine HR.out.mono ?_); rintro e w1 ⟨rfl, hb⟩; have HB := Lib.hid hb; clear hb))
        go_wp2_with (go_at_call 20; go_loud ((with_reducible refine (HR2.out _ HB.out).mono ?_); rintro e w2 ⟨rfl, hb⟩; have HB2 := Lib.hid hb; clear hb))
        go_wp2_with (go_at_call 22; go_loud ((with_reducible refine (HA.out _).mono ?_); rintro e w3 ⟨rfl, rfl⟩; have HM2 := Lib.hid (HM.out _ HB2.out)))
        go_wp2_with (go_at_call 25; go_loud ((with_reducible refine HM2.out.mono ?_); rintro e w4 ⟨rfl, hb⟩; have HB4 := Lib.hid hb; clear hb))
        go_wp2
        go_ret
        exact ⟨by rw [HE.out]; rfl, HB4.out⟩
      · have HE : Hid (q = 1) := HQ.out.trans (by rw [if_pos rfl, if_pos rfl, if_neg h1])
        have h1' : ((nw.length : Int) - s + th.length - s == 1) = false := by simpa using h1
        clear HQ
        go_enter Try.func14, Try.ntmps14
        go_wp2_with (go_at_call 20; go_loud ((with_reducible refine HR.out.mono ?_); rintro e w1 ⟨rfl, hb⟩; have HB := Lib.hid hb; clear hb))
        go_wp2_with (go_at_call 20; go_loud ((with_reducible refine (HR2.out _ HB.out).mono ?_); rintro e w2 ⟨rfl, hb⟩; have HB2 := Lib.hid hb; clear hb))
        go_wp2_with (go_at_call 22; go_loud ((with_reducible refine (HA.out _).mono ?_); rintro e w3 ⟨rfl, rfl⟩; have HM2 := Lib.hid (HM.out _ HB2.out)))
        go_wp2_with (go_at_call 25; go_loud ((with_reducible refine HM2.out.mono ?_); rintro e w4 ⟨rfl, hb⟩; have HB4 := Lib.hid hb; clear hb))
        go_wp2
        go_ret
        exact ⟨by rw [HE.out]; rfl, HB4.out⟩
end Qu
end Go.Proofs.Ytndihliagcgdeaa
