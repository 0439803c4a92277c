/-
  WHAT A MAJORITY HAS: quorum.Most, matchOf, Settled, Next.
-/
import Derived.Test.YtndihliagcgdeaaQuInt
import Derived.Shelf.Abstract
import Derived.Laws.EntriesVeiled
namespace Go.Proofs.Ytndihliagcgdeaa
open Go.RowKit Go.Lib
namespace Qu
open Lo
set_option linter.unusedVariables false
/-- v is a slice of the peers l, in memory below block B. -/
def PeR (w : World) (A B : Nat) (v : Value) (l : List Pe) : Prop :=
  ∃ a c, v = .slice a l.length c ∧ l.length ≤ 8796093022208 ∧ (∀ p ∈ l, (-9223372036854775808 ≤ p.id ∧ p.id ≤ 9223372036854775807) ∧ Lt64 p.nx ∧ Lt64 p.ma) ∧
    (0 < l.length → ∃ b off, a = some ⟨b, off, none⟩ ∧ A ≤ b ∧ b < B ∧ ∀ i (h : i < l.length), w.cell? ⟨b, off + i * 3, none⟩ = some (.int .i64 l[i].id) ∧ w.cell? ⟨b, off + i * 3 + 1, none⟩ = some (.int .u64 (l[i].nx : Nat)) ∧ w.cell? ⟨b, off + i * 3 + 2, none⟩ = some (.int .u64 (l[i].ma : Nat)))
theorem PeR.keep {w w' : World} {A B : Nat} {v : Value} {l : List Pe} (h : PeR w A B v l) (hb : Below B w w') : PeR w' A B v l := by
  obtain ⟨a, c, rfl, h1, h2, h3⟩ := h
  refine ⟨a, c, rfl, h1, h2, fun hp => ?_⟩
  obtain ⟨b, off, rfl, hA, hlt, hc⟩ := h3 hp
  refine ⟨b, off, rfl, hA, hlt, fun i hi => ?_⟩
  obtain ⟨c0, c1, c2⟩ := hc i hi
  exact ⟨(hb.cell (by exact hlt)).trans c0, (hb.cell (by exact hlt)).trans c1, (hb.cell (by exact hlt)).trans c2⟩
theorem PeR.more {w : World} {A A' B B' : Nat} {v : Value} {l : List Pe} (h : PeR w A B v l) (hb : B ≤ B') (hA : A' ≤ A) : PeR w A' B' v l := by
  obtain ⟨a, c, rfl, h1, h2, h3⟩ := h
  refine ⟨a, c, rfl, h1, h2, fun hp => ?_⟩
  obtain ⟨b, off, rfl, hA, hlt, hc⟩ := h3 hp
  exact ⟨b, off, rfl, by omega, by omega, hc⟩
theorem PeR.on {w w' : World} {A : Nat} {v : Value} {l : List Pe} (h : PeR w A w.heap.size v l) (hb : Below w.heap.size w w') : PeR w' A w'.heap.size v l := (h.keep hb).more hb.size (Nat.le_refl _)
theorem PeR.slice {w : World} {A B : Nat} {v : Value} {l : List Pe} (h : PeR w A B v l) : ∃ a c, v = .slice a l.length c := by
  obtain ⟨a, c, rfl, -⟩ := h; exact ⟨a, c, rfl⟩
theorem cell_new (w : World) (v : Value) (T : TypeId) : (w.alloc (.cells #[v] T)).cell? ⟨w.heap.size, 0, none⟩ = some v := by
  rw [cell_of_row _ _ 0 _ _ (0, 0) (heap_alloc_new w _)]
  rfl
theorem cell_old {w : World} {b o : Nat} {v : Value} (ob : Obj) (h : w.cell? ⟨b, o, none⟩ = some v) : (w.alloc ob).cell? ⟨b, o, none⟩ = some v := by
  rw [World.cell?_alloc_lt _ _ _ (World.block_lt_of_cell? w _ h)]
  exact h
set_option maxHeartbeats 1000000 in
theorem the_majority (v u : Value) (ks so : List Int) (w : World) {A A2 : Nat} (h : IntsR w A w.heap.size v ks) (hu : IntsR w A2 w.heap.size u so) :
    Calls Try.prog 12 #[v, u] w fun e w' => e = .returned (.bool (mostB ks so)) ∧ Below w.heap.size w w' := by
  have HR := Lib.hid (the_right v ks w h)
  have HM : Hid (∀ z, Below w.heap.size w z → Calls Try.prog 21 #[v, .func (.func 31) #[] #[.pointer (some ⟨z.heap.size, 0, none⟩)]] (z.alloc (.cells #[u] 22)) fun e w' => e = .returned (.bool (mostF (hasI so) ks)) ∧ Below w.heap.size w w') := by
    intro z hz
    have hz2 : Below z.heap.size z (z.alloc (.cells #[u] 22)) := (Below.refl _ _).alloc (Nat.le_refl _) _
    refine (the_most1 31 (Go.Proofs.enters_of Try.func31 (by kernel_rfl) rfl) (.pointer (some ⟨z.heap.size, 0, none⟩)) (hasI so) v ks _ ((h.on hz).on hz2) (fun m y hy => ?_)).mono (fun e w' he => ⟨he.1, (hz.trans (hz2.mono hz.size)).trans (he.2.mono (by have := hz.size; have := hz2.size; omega))⟩)
    refine amongst_is u so m z.heap.size y (((hu.on hz).on hz2).on hy) ?_
    rw [hy.cell (by show z.heap.size < (z.alloc _).heap.size; rw [World.size_alloc]; exact Nat.lt_succ_self _)]
    rw [cell_of_row _ _ 0 _ _ (0, 0) (heap_alloc_new z _)]
    rfl
  obtain ⟨a, c, rfl⟩ := h.slice
  obtain ⟨a2, c2, rfl⟩ := hu.slice
  have HA := Lib.hid (fun z => the_amongst a2 so.length c2 z)
  have HQ : Hid (mostB ks so = (rmB ks && mostF (hasI so) ks)) := rfl
  clear h hu
  generalize mostB ks so = q at *
  generalize mostF (hasI so) ks = r at *
  cases hr : rmB ks
  · rw [hr] at HR HQ
    have HE : Hid (q = false) := HQ.out
    clear hr HQ HM
    go_enter Try.func12, Try.ntmps12
    go_wp2_with (go_at_call 20; go_loud ((with_reducible refine HR.out.mono ?_); rintro e w1 ⟨rfl, hb⟩; have HB := Lib.hid hb; clear hb))
    go_wp2
    go_ret
    exact ⟨by rw [HE.out]; rfl, HB.out⟩
  · rw [hr] at HR HQ
    have HE : Hid (q = r) := HQ.out
    clear hr HQ
    go_enter Try.func12, Try.ntmps12
    go_wp2_with (go_at_call 20; go_loud ((with_reducible refine HR.out.mono ?_); rintro e w1 ⟨rfl, hb⟩; have HB := Lib.hid hb; clear hb))
    go_wp2_with (go_at_call 22; go_loud ((with_reducible refine (HA.out _).mono ?_); rintro e w2 ⟨rfl, rfl⟩; have HM2 := Lib.hid (HM.out _ HB.out)))
    go_wp2_with (go_at_call 21; go_loud ((with_reducible refine HM2.out.mono ?_); rintro e w2 ⟨rfl, hb⟩; have HB2 := Lib.hid hb; clear hb))
    go_wp2
    go_ret
    exact ⟨by rw [HE.out]; rfl, HB2.out⟩
set_option maxHeartbeats 2000000 in
theorem match_of (v : Value) (l : List Pe) (m : Int) (w : World) {A : Nat} (h : PeR w A w.heap.size v l) :
    Calls Try.prog 27 #[v, .int .i64 m] w fun e w' => e = .returned (.int .u64 (mat l m : Nat)) ∧ Below w.heap.size w w' := by
  obtain ⟨a, c, rfl, hl, hr, hc⟩ := h
  have HC := Lib.hid hc
  clear hc hr
  obtain ⟨r, hr⟩ : ∃ r, r = mat l m := ⟨_, rfl⟩
  rw [← hr]
  have HR := Lib.hid hr
  clear hr
  go_enter Try.func27, Try.ntmps27
  go_wp2
  go_step3
  go_wp2
  go_step3
  go_wp2
  go_loopg [5, 10] l.length (fun gg n i wx => ∃ k : Nat, k + gg = l.length ∧ n = .int .u64 0 ∧ i = .int .i64 k ∧ Aside (Below w.heap.size w wx) ∧ Aside (mat l m = mat (l.drop k) m))
  case atStart => exact ⟨0, by omega, rfl, rfl, Below.refl _ _, rfl⟩
  case round =>
    obtain ⟨k, hkg, rfl, rfl, HB, HA⟩ := hrel
    cases gk with
    | zero =>
      obtain rfl : k = l.length := by omega
      have HE : Hid (r = 0) := HR.out.trans (HA.out.trans (mat_end l m))
      clear hkg HA
      go_wp2
      rw [Exit.noGoto_ret]
      go_ret
      exact ⟨by rw [HE.out]; rfl, HB.out⟩
    | succ gg =>
      have hlt : k < l.length := by omega
      have hlt2 : (k : Int) < (l.length : Int) := by omega
      obtain ⟨b, off, rfl, hA, hb, hcell⟩ := HC.out (by omega)
      obtain ⟨x0, x1, x2⟩ := hcell k hlt
      have y0 := (HB.out.cell (p := ⟨b, off + k * 3, none⟩) (by exact hb)).trans x0
      have y1 := (HB.out.cell (p := ⟨b, off + k * 3 + 1, none⟩) (by exact hb)).trans x1
      have y2 := (HB.out.cell (p := ⟨b, off + k * 3 + 2, none⟩) (by exact hb)).trans x2
      have HM := Lib.hid (mat_at l k hlt m)
      have tk : IntKind.i64.wrap ((k : Int) + 1) = (k : Int) + 1 := by rw [IntKind.wrap_i64]; omega
      clear hcell x0 x1 x2
      generalize l[k] = x at *
      rcases x with ⟨xi, xn, xm⟩
      have HB2 := Lib.hid (HB.out.alloc HB.out.size (.cells #[.int .i64 xi, .int .u64 (xn : Nat), .int .u64 (xm : Nat)] 34))
      simp only at y0 y1 y2 HM
      by_cases h1 : xi = m
      · subst h1
        have HE : Hid (r = xm) := HR.out.trans (HA.out.trans (HM.out.trans (if_pos rfl)))
        go_wp2
        go_ret
        exact ⟨by rw [HE.out]; rfl, HB2.out⟩
      · have h1' : (xi == m) = false := by simpa using h1
        have HE : Hid (mat l m = mat (l.drop (k + 1)) m) := HA.out.trans (HM.out.trans (if_neg h1))
        go_wp2
        go_roundg gg
        case measure => omega
        case rel => exact ⟨k + 1, by omega, rfl, by simp, HB2.out, HE.out⟩
set_option maxHeartbeats 1000000 in
theorem settled_1 (g0 g1 g2 : Nat) (u : Value) (id : Int) (en : Nat) (l : List Pe) (m : Int) (w : World) {A : Nat} (hu : PeR w A w.heap.size u l) (c0 : w.cell? ⟨g0, 0, none⟩ = some (.int .i64 id)) (c1 : w.cell? ⟨g1, 0, none⟩ = some (.int .u64 (en : Nat))) (c2 : w.cell? ⟨g2, 0, none⟩ = some u) :
    Calls Try.prog 26 #[.int .i64 m, .pointer (some ⟨g0, 0, none⟩), .pointer (some ⟨g1, 0, none⟩), .pointer (some ⟨g2, 0, none⟩)] w fun e w' => e = .returned (.int .u64 (upt id en l m : Nat)) ∧ Below w.heap.size w w' := by
  have HM := Lib.hid (match_of u l m w hu)
  obtain ⟨a, c, rfl⟩ := hu.slice
  clear hu
  have HU : Hid (upt id en l m = if m = id then en else mat l m) := rfl
  generalize upt id en l m = r at *
  generalize mat l m = q at *
  by_cases h : m = id
  · subst h
    have HE : Hid (r = en) := HU.out.trans (if_pos rfl)
    go_enter Try.func26, Try.ntmps26
    go_wp2
    go_ret
    exact ⟨by rw [HE.out]; rfl, Below.refl _ _⟩
  · have h' : (m == id) = false := by simpa using h
    have HE : Hid (r = q) := HU.out.trans (if_neg h)
    go_enter Try.func26, Try.ntmps26
    go_wp2_with (go_at_call 27; go_loud ((with_reducible refine HM.out.mono ?_); rintro e w1 ⟨rfl, hb⟩; have HB := Lib.hid hb; clear hb))
    go_wp2
    go_ret
    exact ⟨by rw [HE.out]; rfl, HB.out⟩
/-- What stays while Settled runs: its boxes. -/
structure StS (w : World) (g9 : Nat) (id : Int) (en : Nat) (u : Value) (z : World) : Prop where
  be : Below w.heap.size w z
  c0 : z.cell? ⟨w.heap.size, 0, none⟩ = some (.int .i64 id)
  c1 : z.cell? ⟨w.heap.size + 1, 0, none⟩ = some (.int .u64 (en : Nat))
  c2 : z.cell? ⟨w.heap.size + 1 + 1, 0, none⟩ = some u
  c9 : z.cell? ⟨g9, 0, none⟩ = some (.func (.func 26) #[] #[.pointer (some ⟨w.heap.size, 0, none⟩), .pointer (some ⟨w.heap.size + 1, 0, none⟩), .pointer (some ⟨w.heap.size + 1 + 1, 0, none⟩)])
  lo : w.heap.size + 3 ≤ g9
  lt : g9 < z.heap.size
theorem StS.go {w : World} {g9 : Nat} {id : Int} {en : Nat} {u : Value} {z z' : World} (h : StS w g9 id en u z) (hb : Below z.heap.size z z') : StS w g9 id en u z' := by
  have h1 := h.lo
  have h2 := h.lt
  exact ⟨h.be.trans (hb.mono h.be.size), (hb.cell (by show w.heap.size < _; omega)).trans h.c0, (hb.cell (by show w.heap.size + 1 < _; omega)).trans h.c1, (hb.cell (by show w.heap.size + 1 + 1 < _; omega)).trans h.c2, (hb.cell (by show g9 < _; omega)).trans h.c9, h1, Nat.lt_of_lt_of_le h2 hb.size⟩
set_option maxHeartbeats 2000000 in
set_option maxRecDepth 100000 in
theorem settled_2 (w : World) (g9 g : Nat) (id : Int) (en n : Nat) (u : Value) (l : List Pe) (m : Int) (z : World) {A : Nat} (hu : PeR w A w.heap.size u l) (hs : StS w g9 id en u z) (hg : z.cell? ⟨g, 0, none⟩ = some (.int .u64 (n : Nat))) (hgl : g < z.heap.size) :
    Calls Try.prog 28 #[.int .i64 m, .pointer (some ⟨g9, 0, none⟩), .pointer (some ⟨g, 0, none⟩)] z fun e z' => e = .returned (.bool (geF (upt id en l) n m)) ∧ Below z.heap.size z z' := by
  have hE : ∀ args w, (callFunc 26 args).run Try.prog w = .ok (.enter 26 args) w := Go.Proofs.enters_of Try.func26 (by kernel_rfl) rfl
  have K1 : Hid (∀ y, (y.cell? ⟨g9, 0, none⟩ = some (.func (.func 26) #[] #[.pointer (some ⟨w.heap.size, 0, none⟩), .pointer (some ⟨w.heap.size + 1, 0, none⟩), .pointer (some ⟨w.heap.size + 1 + 1, 0, none⟩)]) ∧ y.cell? ⟨g, 0, none⟩ = some (.int .u64 (n : Nat)) ∧ Hid (Below z.heap.size z y)) →
      Calls Try.prog 26 #[.int .i64 m, .pointer (some ⟨w.heap.size, 0, none⟩), .pointer (some ⟨w.heap.size + 1, 0, none⟩), .pointer (some ⟨w.heap.size + 1 + 1, 0, none⟩)] y fun e y' => e = .returned (.int .u64 (upt id en l m : Nat)) ∧ (y'.cell? ⟨g9, 0, none⟩ = some (.func (.func 26) #[] #[.pointer (some ⟨w.heap.size, 0, none⟩), .pointer (some ⟨w.heap.size + 1, 0, none⟩), .pointer (some ⟨w.heap.size + 1 + 1, 0, none⟩)]) ∧ y'.cell? ⟨g, 0, none⟩ = some (.int .u64 (n : Nat)) ∧ Hid (Below z.heap.size z y'))) := by
    rintro y ⟨-, -, hb⟩
    have hy := hs.go hb.out
    refine (settled_1 _ _ _ u id en l m y ((hu.on hy.be)) hy.c0 hy.c1 hy.c2).mono ?_
    rintro e y' ⟨he, hb2⟩
    have hb3 := hb.out.trans (hb2.mono hb.out.size)
    exact ⟨he, (hs.go hb3).c9, (hb3.cell (by exact hgl)).trans hg, hb3⟩
  have KD : Hid (z.drew.cell? ⟨g9, 0, none⟩ = some (.func (.func 26) #[] #[.pointer (some ⟨w.heap.size, 0, none⟩), .pointer (some ⟨w.heap.size + 1, 0, none⟩), .pointer (some ⟨w.heap.size + 1 + 1, 0, none⟩)]) ∧ z.drew.cell? ⟨g, 0, none⟩ = some (.int .u64 (n : Nat)) ∧ Hid (Below z.heap.size z z.drew)) :=
    ⟨hs.c9, hg, (Below.refl _ _).drew⟩
  have HG : Hid (geF (upt id en l) n m = decide (n ≤ upt id en l m)) := rfl
  generalize geF (upt id en l) n m = r at *
  generalize upt id en l m = q at *
  clear hs hg hu
  go_enter Try.func28, Try.ntmps28
  go_wp2
  go_region_held3 (fun y => y.cell? ⟨g9, 0, none⟩ = some (.func (.func 26) #[] #[.pointer (some ⟨w.heap.size, 0, none⟩), .pointer (some ⟨w.heap.size + 1, 0, none⟩), .pointer (some ⟨w.heap.size + 1 + 1, 0, none⟩)]) ∧ y.cell? ⟨g, 0, none⟩ = some (.int .u64 (n : Nat)) ∧ Hid (Below z.heap.size z y)) (first | assumption | exact KD.out)
    (((with_reducible refine (K1.out _ ?_).mono ?_); assumption; rintro e w7 ⟨rfl, hS⟩))
  all_goals
    go_wp2
    go_ret
    exact ⟨by rw [HG.out]; rfl, hS.2.2.out⟩
end Qu
end Go.Proofs.Ytndihliagcgdeaa
