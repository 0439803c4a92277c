/-
  THE DOCUMENT's ANSWERS for majorities: gafferref15.Has, match, Most, Next, Settled.
-/
import Derived.Test.YtndihliagcgdeaaQuNx
import Derived.Test.YtndihliagcgdeaaLogRf1
import Derived.Test.YtndihliagcgdeaaLogOwn
import Derived.Laws.OwnMore
import Derived.Deep.OwnRows
namespace Go.Proofs.Ytndihliagcgdeaa
open Go.RowKit Go.Lib
namespace Qu
open Lo
set_option linter.unusedVariables false
set_option maxHeartbeats 1000000 in
theorem ref_has (v : Value) (ks : List Int) (n : Int) (w : World) {A : Nat} (h : IntsR w A w.heap.size v ks) :
    Calls Try.prog 23 #[v, .int .i64 n] w fun e w' => e = .returned (.bool (hasI ks n)) ∧ Below w.heap.size w w' := by
  obtain ⟨a, c, rfl, hl, hr, hc⟩ := h
  have HC := Lib.hid hc
  clear hc hr
  obtain ⟨r, hr⟩ : ∃ r, r = hasI ks n := ⟨_, rfl⟩
  rw [← hr]
  have HR := Lib.hid hr
  clear hr
  go_enter Try.func23, Try.ntmps23
  go_wp2
  go_loopg [9] ks.length (fun gg i wx => ∃ k : Nat, k + gg = ks.length ∧ i = .int .i64 k ∧ wx = w ∧ Aside (hasI ks n = hasI (ks.drop k) n))
  case atStart => exact ⟨0, by omega, rfl, rfl, rfl⟩
  case round =>
    obtain ⟨k, hkg, rfl, rfl, HA⟩ := hrel
    cases gk with
    | zero =>
      obtain rfl : k = ks.length := by omega
      have HE : Hid (r = false) := by show _ = _; rw [HR.out, HA.out, hasI_end]
      clear hkg HA
      go_wp2
      go_ret
      exact ⟨by rw [HE.out]; rfl, Below.refl _ _⟩
    | succ gg =>
      have hlt : k < ks.length := by omega
      have hlt2 : (k : Int) < (ks.length : Int) := by omega
      obtain ⟨b, off, rfl, hA, hb, hcell⟩ := HC.out (by omega)
      have hx := hcell k hlt
      have HM := Lib.hid (hasI_at ks k hlt n)
      clear hcell
      generalize hq : ks[k] = x at *
      clear hq
      by_cases h1 : x = n
      · subst h1
        have HE : Hid (r = true) := by show _ = _; rw [HR.out, HA.out, HM.out]; simp
        go_wp2
        go_ret
        exact ⟨by rw [HE.out]; rfl, Below.refl _ _⟩
      · have h1' : (x == n) = false := by simpa using h1
        have HE : Hid (hasI ks n = hasI (ks.drop (k + 1)) n) := by show _ = _; rw [HA.out, HM.out, h1']; rfl
        have tk : IntKind.i64.wrap ((k : Int) + 1) = (k : Int) + 1 := by rw [IntKind.wrap_i64]; omega
        go_wp2
        go_roundg gg
        case measure => omega
        case rel => exact ⟨k + 1, by omega, by simp, rfl, HE.out⟩
set_option maxHeartbeats 1000000 in
theorem law_has (v : Value) (ks : List Int) (n : Int) (w : World) {A : Nat} (h : IntsR w A w.heap.size v ks) :
    Calls Try.prog 19 #[v, .int .i64 n] w fun e w' => e = .returned (.bool (hasI ks n)) ∧ Below w.heap.size w w' := by
  obtain ⟨a, c, rfl, hl, hr, hc⟩ := h
  have HC := Lib.hid hc
  clear hc hr
  obtain ⟨r, hr⟩ : ∃ r, r = hasI ks n := ⟨_, rfl⟩
  rw [← hr]
  have HR := Lib.hid hr
  clear hr
  go_enter Try.func19, Try.ntmps19
  go_wp2
  go_loopg [9] ks.length (fun gg i wx => ∃ k : Nat, k + gg = ks.length ∧ i = .int .i64 k ∧ wx = w ∧ Aside (hasI ks n = hasI (ks.drop k) n))
  case atStart => exact ⟨0, by omega, rfl, rfl, rfl⟩
  case round =>
    obtain ⟨k, hkg, rfl, rfl, HA⟩ := hrel
    cases gk with
    | zero =>
      obtain rfl : k = ks.length := by omega
      have HE : Hid (r = false) := by show _ = _; rw [HR.out, HA.out, hasI_end]
      clear hkg HA
      go_wp2
      go_ret
      exact ⟨by rw [HE.out]; rfl, Below.refl _ _⟩
    | succ gg =>
      have hlt : k < ks.length := by omega
      have hlt2 : (k : Int) < (ks.length : Int) := by omega
      obtain ⟨b, off, rfl, hA, hb, hcell⟩ := HC.out (by omega)
      have hx := hcell k hlt
      have HM := Lib.hid (hasI_at ks k hlt n)
      clear hcell
      generalize hq : ks[k] = x at *
      clear hq
      by_cases h1 : x = n
      · subst h1
        have HE : Hid (r = true) := by show _ = _; rw [HR.out, HA.out, HM.out]; simp
        go_wp2
        go_ret
        exact ⟨by rw [HE.out]; rfl, Below.refl _ _⟩
      · have h1' : (x == n) = false := by simpa using h1
        have HE : Hid (hasI ks n = hasI (ks.drop (k + 1)) n) := by show _ = _; rw [HA.out, HM.out, h1']; rfl
        have tk : IntKind.i64.wrap ((k : Int) + 1) = (k : Int) + 1 := by rw [IntKind.wrap_i64]; omega
        go_wp2
        go_roundg gg
        case measure => omega
        case rel => exact ⟨k + 1, by omega, by simp, rfl, HE.out⟩
set_option maxHeartbeats 2000000 in
theorem ref_match (v : Value) (l : List Pe) (m id : Int) (en : Nat) (w : World) {A : Nat} (h : PeR w A w.heap.size v l) :
    Calls Try.prog 29 #[.int .i64 m, .int .i64 id, .int .u64 (en : Nat), v] w fun e w' => e = .returned (.int .u64 (upt id en l m : Nat)) ∧ Below w.heap.size w w' := by
  obtain ⟨a, c, rfl, hl, hr, hc⟩ := h
  have HC := Lib.hid hc
  clear hc hr
  obtain ⟨r, hr⟩ : ∃ r, r = upt id en l m := ⟨_, rfl⟩
  rw [← hr]
  unfold upt at hr
  by_cases h0 : m = id
  · subst h0
    have HE : Hid (r = en) := hr.trans (if_pos rfl)
    clear hr
    go_enter Try.func29, Try.ntmps29
    go_wp2
    go_ret
    exact ⟨by rw [HE.out]; rfl, Below.refl _ _⟩
  · have HR : Hid (r = mat l m) := hr.trans (if_neg h0)
    have h0' : (m == id) = false := by simpa using h0
    clear hr
    go_enter Try.func29, Try.ntmps29
    go_wp2
    go_loopg [17] l.length (fun gg i wx => ∃ k : Nat, k + gg = l.length ∧ i = .int .i64 k ∧ Aside (Below w.heap.size w wx) ∧ Aside (mat l m = mat (l.drop k) m))
    case atStart => exact ⟨0, by omega, rfl, Below.refl _ _, rfl⟩
    case round =>
      obtain ⟨k, hkg, rfl, HB, HA⟩ := hrel
      cases gk with
      | zero =>
        obtain rfl : k = l.length := by omega
        have HE : Hid (r = 0) := HR.out.trans (HA.out.trans (mat_end l m))
        clear hkg HA
        go_wp2
        go_ret
        exact ⟨by rw [HE.out]; rfl, HB.out⟩
      | succ gg =>
        have hlt : k < l.length := by omega
        have hlt2 : (k : Int) < (l.length : Int) := by omega
        obtain ⟨b, off, rfl, hA, hb, hcell⟩ := HC.out (by omega)
        obtain ⟨x0, x1, x2⟩ := hcell k hlt
        have y0 := (HB.out.cell (p := ⟨b, off + k * 3, none⟩) (by exact hb)).trans x0
        have y1 := (HB.out.cell (p := ⟨b, off + k * 3 + 1, none⟩) (by exact hb)).trans x1
        have y2 := (HB.out.cell (p := ⟨b, off + k * 3 + 2, none⟩) (by exact hb)).trans x2
        have HM := Lib.hid (mat_at l k hlt m)
        have tk : IntKind.i64.wrap ((k : Int) + 1) = (k : Int) + 1 := by rw [IntKind.wrap_i64]; omega
        clear hcell x0 x1 x2
        generalize l[k] = x at *
        rcases x with ⟨xi, xn, xm⟩
        have HB2 := Lib.hid (HB.out.alloc HB.out.size (.cells #[.int .i64 xi, .int .u64 (xn : Nat), .int .u64 (xm : Nat)] 34))
        simp only at y0 y1 y2 HM
        by_cases h1 : xi = m
        · subst h1
          have HE : Hid (r = xm) := HR.out.trans (HA.out.trans (HM.out.trans (if_pos rfl)))
          go_wp2
          go_ret
          exact ⟨by rw [HE.out]; rfl, HB2.out⟩
        · have h1' : (xi == m) = false := by simpa using h1
          have HE : Hid (mat l m = mat (l.drop (k + 1)) m) := HA.out.trans (HM.out.trans (if_neg h1))
          go_wp2
          go_roundg gg
          case measure => omega
          case rel => exact ⟨k + 1, by omega, by simp, HB2.out, HE.out⟩
theorem most_two (f : Int → Bool) (ks : List Int) : decide ((ks.length : Int) < 2 * (cnt f ks : Nat)) = mostF f ks := by
  unfold mostF
  rw [decide_eq_decide]
  omega
set_option maxHeartbeats 2000000 in
theorem ref_most (v u : Value) (ks so : List Int) (w : World) {A A2 : Nat} (h : IntsR w A w.heap.size v ks) (hu : IntsR w A2 w.heap.size u so) :
    Calls Try.prog 13 #[v, u] w fun e w' => e = .returned (.bool (mostB ks so)) ∧ Below w.heap.size w w' := by
  have HH : Hid (∀ z n, Below w.heap.size w z → Calls Try.prog 23 #[u, .int .i64 n] z fun e z' => e = .returned (.bool (hasI so n)) ∧ Below z.heap.size z z') := fun z n hz => ref_has u so n z (hu.on hz)
  have HR : Hid (∀ z, Below w.heap.size w z → Calls Try.prog 24 #[v] z fun e z' => e = .returned (.bool (rmB ks)) ∧ Below z.heap.size z z') := fun z hz => members_ref v ks z (h.on hz)
  obtain ⟨a, c, rfl, hl, -, hc⟩ := h
  obtain ⟨a2, c2, rfl⟩ := hu.slice
  have HC := Lib.hid hc
  clear hc hu
  have HQ : Hid (mostB ks so = (rmB ks && mostF (hasI so) ks)) := rfl
  have t2 := most_two (hasI so) ks
  have hcl := cnt_le (hasI so) ks
  have HT2 := Lib.hid t2
  clear t2
  generalize mostB ks so = q at *
  go_enter Try.func13, Try.ntmps13
  go_wp2
  go_loopg [5, 10] ks.length (fun gg n i wx => ∃ k : Nat, k + gg = ks.length ∧ n = .int .i64 (cnt (hasI so) (ks.take k) : Nat) ∧ i = .int .i64 k ∧ Aside (Below w.heap.size w wx))
  case atStart => exact ⟨0, by omega, rfl, rfl, Below.refl _ _⟩
  case round =>
    obtain ⟨k, hkg, rfl, rfl, HB⟩ := hrel
    cases gk with
    | zero =>
      obtain rfl : k = ks.length := by omega
      have e : ks.take ks.length = ks := List.take_length
      rw [e]
      clear hkg e
      have HR2 := Lib.hid (HR.out _ HB.out)
      cases hr : rmB ks
      · have HE : Hid (q = false) := HQ.out.trans (by rw [hr]; rfl)
        rw [hr] at HR2
        clear hr HQ HT2
        generalize cnt (hasI so) ks = cn at *
        go_wp2_with (go_at_call 24; go_loud ((with_reducible refine HR2.out.mono ?_); rintro e w2 ⟨rfl, hb2⟩; have HB2 := Lib.hid (HB.out.trans (hb2.mono HB.out.size)); clear hb2))
        go_wp2
        go_ret
        exact ⟨by rw [HE.out]; rfl, HB2.out⟩
      · have HE : Hid (q = mostF (hasI so) ks) := HQ.out.trans (by rw [hr]; rfl)
        rw [hr] at HR2
        clear hr HQ
        generalize mostF (hasI so) ks = mo at *
        generalize cnt (hasI so) ks = cn at *
        have t2 := HT2.out
        cases mo
        all_goals
          clear HT2
          go_wp2_with (go_at_call 24; go_loud ((with_reducible refine HR2.out.mono ?_); rintro e w2 ⟨rfl, hb2⟩; have HB2 := Lib.hid (HB.out.trans (hb2.mono HB.out.size)); clear hb2))
          go_wp2
          go_ret
          exact ⟨by rw [HE.out]; rfl, HB2.out⟩
    | succ gg =>
      have hlt : k < ks.length := by omega
      have hlt2 : (k : Int) < (ks.length : Int) := by omega
      obtain ⟨b, off, rfl, hA, hb, hcell⟩ := HC.out (by omega)
      have hx := (HB.out.cell (by exact hb)).trans (hcell k hlt)
      have HM := Lib.hid (cnt_at (hasI so) ks k hlt)
      have hcb := cnt_take (hasI so) ks k
      have HK := Lib.hid (HH.out _ ks[k] HB.out)
      have tk : IntKind.i64.wrap ((k : Int) + 1) = (k : Int) + 1 := by rw [IntKind.wrap_i64]; omega
      clear hcell HT2 HQ hcl
      generalize ks[k] = x at *
      generalize cnt (hasI so) (ks.take k) = cn at *
      have tc : IntKind.i64.wrap ((cn : Int) + 1) = (cn : Int) + 1 := by rw [IntKind.wrap_i64]; omega
      cases hfx : hasI so x
      all_goals
        rw [hfx] at HK HM
        clear hfx
        go_wp2_with (go_at_call 23; go_loud ((with_reducible refine HK.out.mono ?_); rintro e w2 ⟨rfl, hb2⟩; have HB2 := Lib.hid (HB.out.trans (hb2.mono HB.out.size)); clear hb2))
        go_wp2
        go_roundg gg
        case measure => omega
        case rel => exact ⟨k + 1, by omega, by rw [HM.out]; simp, by simp, HB2.out⟩
/-- What gafferref15.Next comes to: counted both ways. -/
theorem next_ref {nw th : List Int} (h1 : rmB nw = true) (h2 : rmB th = true) {n : Nat} (hn : n = cnt (fun m => !hasI th m) nw + cnt (fun m => !hasI nw m) th) : nextE nw th = if n = 1 then 0 else 1 := by
  unfold nextE
  rw [if_pos h1, if_pos h2]
  by_cases h : n = 1
  · rw [if_pos h, if_pos ((next_is nw th h1 h2).2 (by omega))]
  · rw [if_neg h, if_neg (fun e => h (by have := (next_is nw th h1 h2).1 e; omega))]
set_option maxHeartbeats 4000000 in
theorem ref_next (v u : Value) (nw th : List Int) (w : World) {A A2 : Nat} (h : IntsR w A w.heap.size v nw) (hu : IntsR w A2 w.heap.size u th) :
    Calls Try.prog 15 #[v, u] w fun e w' => e = .returned (.int .i64 (nextE nw th : Nat)) ∧ Below w.heap.size w w' := by
  have HH : Hid (∀ z n, Below w.heap.size w z → Calls Try.prog 23 #[u, .int .i64 n] z fun e z' => e = .returned (.bool (hasI th n)) ∧ Below z.heap.size z z') := fun z n hz => ref_has u th n z (hu.on hz)
  have HH2 : Hid (∀ z n, Below w.heap.size w z → Calls Try.prog 23 #[v, .int .i64 n] z fun e z' => e = .returned (.bool (hasI nw n)) ∧ Below z.heap.size z z') := fun z n hz => ref_has v nw n z (h.on hz)
  have HR := Lib.hid (members_ref v nw w h)
  have HR2 : Hid (∀ z, Below w.heap.size w z → Calls Try.prog 24 #[u] z fun e z' => e = .returned (.bool (rmB th)) ∧ Below z.heap.size z z') := fun z hz => members_ref u th z (hu.on hz)
  obtain ⟨a, c, rfl, hl, -, hc⟩ := h
  obtain ⟨a2, c2, rfl, hl2, -, hc2⟩ := hu
  have HC := Lib.hid hc
  have HC2 := Lib.hid hc2
  clear hc hc2
  obtain ⟨q, hq⟩ : ∃ q, q = nextE nw th := ⟨_, rfl⟩
  rw [← hq]
  have HQ := Lib.hid hq
  clear hq
  cases hr : rmB nw
  · have HE : Hid (q = 4) := HQ.out.trans (by unfold nextE; rw [hr]; rfl)
    rw [hr] at HR
    clear hr HQ
    go_enter Try.func15, Try.ntmps15
    go_wp2_with (go_at_call 24; (with_reducible refine HR.out.mono ?_); rintro e w1 ⟨rfl, hb⟩; have HB := Lib.hid hb; clear hb)
    go_wp2
    go_ret
    exact ⟨by rw [HE.out]; rfl, HB.out⟩
  · rw [hr] at HR
    cases hr2 : rmB th
    · have HE : Hid (q = 4) := HQ.out.trans (by unfold nextE; rw [hr, hr2]; rfl)
      rw [hr2] at HR2
      clear hr hr2 HQ
      go_enter Try.func15, Try.ntmps15
      go_wp2_with (go_at_call 24; (with_reducible refine HR.out.mono ?_); rintro e w1 ⟨rfl, hb⟩; have HB := Lib.hid hb; clear hb)
      go_wp2_with (go_at_call 24; (with_reducible refine (HR2.out _ HB.out).mono ?_); rintro e w2 ⟨rfl, hb2⟩; have HB2 := Lib.hid (HB.out.trans (hb2.mono HB.out.size)); clear hb2)
      go_wp2
      go_ret
      exact ⟨by rw [HE.out]; rfl, HB2.out⟩
    · rw [hr2] at HR2
      have HE : Hid (∀ n, n = cnt (fun m => !hasI th m) nw + cnt (fun m => !hasI nw m) th → q = if n = 1 then 0 else 1) := fun n hn => HQ.out.trans (next_ref hr hr2 hn)
      clear hr hr2 HQ
      go_enter Try.func15, Try.ntmps15
      go_wp2_with (go_at_call 24; (with_reducible refine HR.out.mono ?_); rintro e w1 ⟨rfl, hb⟩; have HB := Lib.hid hb; clear hb)
      go_wp2_with (go_at_call 24; (with_reducible refine (HR2.out _ HB.out).mono ?_); rintro e w2 ⟨rfl, hb2⟩; have HB2 := Lib.hid (HB.out.trans (hb2.mono HB.out.size)); clear hb2)
      go_wp2
      go_loopg [5, 20] nw.length (fun gg n i wx => ∃ k : Nat, k + gg = nw.length ∧ n = .int .i64 (cnt (fun m => !hasI th m) (nw.take k) : Nat) ∧ i = .int .i64 k ∧ Aside (Below w.heap.size w wx))
      case atStart => exact ⟨0, by omega, rfl, rfl, HB2.out⟩
      case round =>
        obtain ⟨k, hkg, rfl, rfl, HB3⟩ := hrel
        cases gk with
        | zero =>
          obtain rfl : k = nw.length := by omega
          have e : nw.take nw.length = nw := List.take_length
          rw [e]
          have hcn := cnt_le (fun m => !hasI th m) nw
          have HE2 : Hid (∀ n, n = cnt (fun m => !hasI nw m) th → q = if cnt (fun m => !hasI th m) nw + n = 1 then 0 else 1) := fun n hn => HE.out _ (by rw [hn])
          clear hkg e HE
          generalize cnt (fun m => !hasI th m) nw = c1 at *
          go_wp2
          go_loopg [5, 33] th.length (fun gg n i wx => ∃ k : Nat, k + gg = th.length ∧ n = .int .i64 ((c1 + cnt (fun m => !hasI nw m) (th.take k) : Nat)) ∧ i = .int .i64 k ∧ Aside (Below w.heap.size w wx))
          case atStart => exact ⟨0, by omega, by simp [cnt], rfl, HB3.out⟩
          case round =>
            obtain ⟨k, hkg, rfl, rfl, HB4⟩ := hrel
            cases gk with
            | zero =>
              obtain rfl : k = th.length := by omega
              have e : th.take th.length = th := List.take_length
              rw [e]
              have HE3 := Lib.hid (HE2.out _ rfl)
              have hcn2 := cnt_le (fun m => !hasI nw m) th
              clear hkg e HE2
              generalize hs : c1 + cnt (fun m => !hasI nw m) th = s at *
              by_cases h1 : s = 1
              · subst h1
                have HE4 : Hid (q = 0) := HE3.out
                clear HE3
                go_wp2
                go_ret
                exact ⟨by rw [HE4.out]; rfl, HB4.out⟩
              · have HE4 : Hid (q = 1) := HE3.out.trans (if_neg h1)
                have h1a : ((s : Int) == 1) = false := by simp; omega
                have h1b : ¬ (s : Int) = 1 := by omega
                clear HE3 hs
                go_wp2
                go_ret
                exact ⟨by rw [HE4.out]; rfl, HB4.out⟩
            | succ gg =>
              have hlt : k < th.length := by omega
              have hlt2 : (k : Int) < (th.length : Int) := by omega
              obtain ⟨b, off, rfl, hA, hb, hcell⟩ := HC2.out (by omega)
              have hx := (HB4.out.cell (by exact hb)).trans (hcell k hlt)
              have HM := Lib.hid (cnt_at (fun m => !hasI nw m) th k hlt)
              have hcb := cnt_take (fun m => !hasI nw m) th k
              have HK := Lib.hid (HH2.out _ th[k] HB4.out)
              have tk : IntKind.i64.wrap ((k : Int) + 1) = (k : Int) + 1 := by rw [IntKind.wrap_i64]; omega
              clear hcell HE2
              generalize th[k] = x at *
              generalize cnt (fun m => !hasI nw m) (th.take k) = cn at *
              have HMM : Hid (∀ z, z = cn + (if (!hasI nw x) = true then 1 else 0) → c1 + cnt (fun m => !hasI nw m) (th.take (k + 1)) = c1 + z) := fun z hz => by rw [HM.out, hz]
              generalize hs : c1 + cn = s at *
              have tc : IntKind.i64.wrap ((s : Int) + 1) = (s : Int) + 1 := by rw [IntKind.wrap_i64]; omega
              cases hfx : hasI nw x
              · rw [hfx] at HK HMM
                have HS : Hid (c1 + cnt (fun m => !hasI nw m) (th.take (k + 1)) = s + 1) := by show _ = _; rw [HMM.out _ rfl, ← hs]; rfl
                clear hfx HMM HM hs
                go_wp2_with (go_at_call 23; go_loud ((with_reducible refine HK.out.mono ?_); rintro e w5 ⟨rfl, hb5⟩; have HB5 := Lib.hid (HB4.out.trans (hb5.mono HB4.out.size)); clear hb5))
                go_wp2
                go_roundg gg
                case measure => omega
                case rel => exact ⟨k + 1, by omega, by rw [HS.out]; simp, by simp, HB5.out⟩
              · rw [hfx] at HK HMM
                have HS : Hid (c1 + cnt (fun m => !hasI nw m) (th.take (k + 1)) = s) := by show _ = _; rw [HMM.out _ rfl, ← hs]; rfl
                clear hfx HMM HM hs
                go_wp2_with (go_at_call 23; go_loud ((with_reducible refine HK.out.mono ?_); rintro e w5 ⟨rfl, hb5⟩; have HB5 := Lib.hid (HB4.out.trans (hb5.mono HB4.out.size)); clear hb5))
                go_wp2
                go_roundg gg
                case measure => omega
                case rel => exact ⟨k + 1, by omega, by rw [HS.out], by simp, HB5.out⟩
        | succ gg =>
          have hlt : k < nw.length := by omega
          have hlt2 : (k : Int) < (nw.length : Int) := by omega
          obtain ⟨b, off, rfl, hA, hb, hcell⟩ := HC.out (by omega)
          have hx := (HB3.out.cell (by exact hb)).trans (hcell k hlt)
          have HM := Lib.hid (cnt_at (fun m => !hasI th m) nw k hlt)
          have hcb := cnt_take (fun m => !hasI th m) nw k
          have HK := Lib.hid (HH.out _ nw[k] HB3.out)
          have tk : IntKind.i64.wrap ((k : Int) + 1) = (k : Int) + 1 := by rw [IntKind.wrap_i64]; omega
          clear hcell HE
          generalize nw[k] = x at *
          generalize cnt (fun m => !hasI th m) (nw.take k) = cn at *
          have tc : IntKind.i64.wrap ((cn : Int) + 1) = (cn : Int) + 1 := by rw [IntKind.wrap_i64]; omega
          cases hfx : hasI th x
          all_goals
            simp only [hfx] at HM
            rw [hfx] at HK
            clear hfx
            go_wp2_with (go_at_call 23; go_loud ((with_reducible refine HK.out.mono ?_); rintro e w5 ⟨rfl, hb5⟩; have HB5 := Lib.hid (HB3.out.trans (hb5.mono HB3.out.size)); clear hb5))
            go_wp2
            go_roundg gg
            case measure => omega
            case rel => exact ⟨k + 1, by omega, by rw [HM.out]; simp, by simp, HB5.out⟩
end Qu
end Go.Proofs.Ytndihliagcgdeaa
