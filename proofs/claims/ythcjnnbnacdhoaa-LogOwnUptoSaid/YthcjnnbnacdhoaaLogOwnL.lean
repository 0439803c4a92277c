/-
  LogOwn: what is joined, and told, is its asker's own.
-/
import Derived.Test.YthcjnnbnacdhoaaLogLive
import Derived.Test.YthcjnnbnacdhoaaLogSame
import Derived.Test.YthcjnnbnacdhoaaLogArg
import Derived.Test.YthcjnnbnacdhoaaLogCopy
namespace Go.Proofs.Ythcjnnbnacdhoaa
open Go.RowKit Go.Lib
namespace Lo
set_option linter.unusedVariables false
/-- A slice of ints that may be written. -/
def IntsX (w : World) (lo N : Nat) (u : Value) (n : Nat) : Prop :=
  ∃ a c, u = .slice a n c ∧ n ≤ 17592186044416 ∧ (0 < n → ∃ b off, a = some ⟨b, off, none⟩ ∧ lo ≤ b ∧ b < N ∧ ∀ j, j < n → (∃ z, w.cell? ⟨b, off + j, none⟩ = some (.int .i64 z)) ∧ w.frozen? ⟨b, off + j, none⟩ = false)
theorem cell_set {w : World} {p a : Addr} {v u : Value} (h : w.cell? a = some u) : (w.setCell p v).cell? a = some v ∨ (w.setCell p v).cell? a = some u := by
  by_cases hb : p = a
  · subst hb
    exact .inl (World.cell?_setCell_same _ _ _ h)
  · exact .inr ((World.cell?_setCell_other _ _ _ _ (by first | exact hb | exact fun e => hb e.symm)).trans h)
theorem IntsX.set {w : World} {lo N : Nat} {u : Value} {n : Nat} (h : IntsX w lo N u n) (p q : Nat) (z : Int) : IntsX (w.setCell ⟨p, q, none⟩ (.int .i64 z)) lo N u n := by
  obtain ⟨a, c, rfl, hl, h1⟩ := h
  refine ⟨a, c, rfl, hl, fun hp => ?_⟩
  obtain ⟨b, off, rfl, h2, h3, h4⟩ := h1 hp
  refine ⟨b, off, rfl, h2, h3, fun j hj => ⟨?_, (World.frozen?_setCell _ _ _ _).trans (h4 j hj).2⟩⟩
  obtain ⟨⟨z0, hz⟩, -⟩ := h4 j hj
  rcases cell_set (p := ⟨p, q, none⟩) (v := .int .i64 z) hz with h | h
  · exact ⟨_, h⟩
  · exact ⟨_, h⟩
theorem IntsX.far {w : World} {lo N : Nat} {u : Value} {n : Nat} (h : IntsX w lo N u n) {p : Nat} (hp : p < lo) (q : Nat) (v : Value) : IntsX (w.setCell ⟨p, q, none⟩ v) lo N u n := by
  obtain ⟨a, c, rfl, hl, h1⟩ := h
  refine ⟨a, c, rfl, hl, fun hn => ?_⟩
  obtain ⟨b, off, rfl, h2, h3, h4⟩ := h1 hn
  refine ⟨b, off, rfl, h2, h3, fun j hj => ⟨?_, (World.frozen?_setCell _ _ _ _).trans (h4 j hj).2⟩⟩
  obtain ⟨⟨z0, hz⟩, -⟩ := h4 j hj
  exact ⟨z0, (World.cell?_setCell_far _ _ _ _ (by show p ≠ b; omega)).trans hz⟩
theorem IntsX.below {w w' : World} {lo N : Nat} {u : Value} {n : Nat} (h : IntsX w lo N u n) (hb : Below N w w') : IntsX w' lo N u n := by
  obtain ⟨a, c, rfl, hl, h1⟩ := h
  refine ⟨a, c, rfl, hl, fun hn => ?_⟩
  obtain ⟨b, off, rfl, h2, h3, h4⟩ := h1 hn
  refine ⟨b, off, rfl, h2, h3, fun j hj => ⟨?_, (hb.frozen (by exact h3)).trans (h4 j hj).2⟩⟩
  obtain ⟨⟨z0, hz⟩, -⟩ := h4 j hj
  exact ⟨z0, (hb.cell (by exact h3)).trans hz⟩
/-- How many members an entry has. -/
def ln (L : List En) (i : Nat) : Nat := match L[i]? with | some e => e.ks.length | none => 0
theorem ln_at {L : List En} {i : Nat} (h : i < L.length) : ln L i = L[i].ks.length := by unfold ln; rw [List.getElem?_eq_getElem h]
/-- A row of entries that may be spoilt. -/
def RowX (w : World) (Z N : Nat) (a : Option Addr) (L : List En) : Prop :=
  0 < L.length → ∃ g, a = some ⟨g, 0, none⟩ ∧ Z ≤ g ∧ g < N ∧ (∀ j, w.frozen? ⟨g, j, none⟩ = false) ∧ ∀ i (h : i < L.length), ∃ u, w.cell? ⟨g, i * 5 + 4, none⟩ = some u ∧ (∃ t, w.cell? ⟨g, i * 5 + 1, none⟩ = some (.int .u64 t)) ∧ IntsX w (g + 1) N u (ln L i)
theorem RowX.of {w : World} {A : Nat} {a : Option Addr} {c : Nat} {L : List En} (h : OwnS w A a c L) : RowX w A w.heap.size a L := fun hp => by
  obtain ⟨g, rfl, h1, h2, h3, h4⟩ := h.row hp
  refine ⟨g, rfl, h1, h2, h3, fun i hi => ?_⟩
  obtain ⟨u, hu, ht⟩ := h4 i hi
  refine ⟨u, hu.c4, ⟨_, hu.c1⟩, ?_⟩
  rw [ln_at hi]
  obtain ⟨a, c, e, hl, -, hc⟩ := hu.iv
  refine ⟨a, c, e, hl, fun hn => ?_⟩
  obtain ⟨b, off, rfl, k1, k2, k3⟩ := hc hn
  exact ⟨b, off, rfl, k1, k2, fun j hj => ⟨⟨_, k3 j hj⟩, ht b off _ c e hn (off + j)⟩⟩
theorem RowX.below {w w' : World} {Z N : Nat} {a : Option Addr} {L : List En} (h : RowX w Z N a L) (hb : Below N w w') : RowX w' Z N a L := fun hp => by
  obtain ⟨g, rfl, h1, h2, h3, h4⟩ := h hp
  refine ⟨g, rfl, h1, h2, fun j => (hb.frozen (by exact h2)).trans (h3 j), fun i hi => ?_⟩
  obtain ⟨u, k1, ⟨t, k2⟩, k3⟩ := h4 i hi
  exact ⟨u, (hb.cell (by exact h2)).trans k1, ⟨t, (hb.cell (by exact h2)).trans k2⟩, k3.below hb⟩
theorem RowX.term {w : World} {Z N g : Nat} {L : List En} (h : RowX w Z N (some ⟨g, 0, none⟩) L) (i : Nat) (t : Int) : RowX (w.setCell ⟨g, i * 5 + 1, none⟩ (.int .u64 t)) Z N (some ⟨g, 0, none⟩) L := fun hp => by
  obtain ⟨g', e, h1, h2, h3, h4⟩ := h hp
  cases e
  refine ⟨g, rfl, h1, h2, fun j => (World.frozen?_setCell _ _ _ _).trans (h3 j), fun k hk => ?_⟩
  obtain ⟨u, k1, ⟨t1, k2⟩, k3⟩ := h4 k hk
  refine ⟨u, ?_, ?_, k3.far (Nat.lt_succ_self _) _ _⟩
  · refine (World.cell?_setCell_other _ _ _ _ ?_).trans k1
    simp only [ne_eq, Addr.mk.injEq, not_and]
    intro _ e
    omega
  · rcases cell_set (p := ⟨g, i * 5 + 1, none⟩) (v := .int .u64 t) k2 with h | h
    · exact ⟨_, h⟩
    · exact ⟨_, h⟩
theorem RowX.memb {w : World} {Z N g : Nat} {L : List En} (h : RowX w Z N (some ⟨g, 0, none⟩) L) {b : Nat} (hb : g + 1 ≤ b) (q : Nat) (z : Int) : RowX (w.setCell ⟨b, q, none⟩ (.int .i64 z)) Z N (some ⟨g, 0, none⟩) L := fun hp => by
  obtain ⟨g', e, h1, h2, h3, h4⟩ := h hp
  cases e
  refine ⟨g, rfl, h1, h2, fun j => (World.frozen?_setCell _ _ _ _).trans (h3 j), fun k hk => ?_⟩
  obtain ⟨u, k1, ⟨t1, k2⟩, k3⟩ := h4 k hk
  exact ⟨u, (World.cell?_setCell_far _ _ _ _ (by show b ≠ g; omega)).trans k1, ⟨t1, (World.cell?_setCell_far _ _ _ _ (by show b ≠ g; omega)).trans k2⟩, k3.set _ _ _⟩
/-- What stays while the joined log is spoilt. -/
structure Sx (W w : World) (N : Nat) (B T : Int) (a : Option Addr) (c : Nat) (L : List En) : Prop where
  be : Below W.heap.size W w
  bx : Bx3 w N (.int .u64 B) (.int .u64 T) (.slice a L.length c)
  row : RowX w W.heap.size N a L
  le : W.heap.size ≤ N
theorem Sx.term {W w : World} {N g : Nat} {B T : Int} {c : Nat} {L : List En} (h : Sx W w N B T (some ⟨g, 0, none⟩) c L) (hp : 0 < L.length) (i : Nat) (t : Int) : Sx W (w.setCell ⟨g, i * 5 + 1, none⟩ (.int .u64 t)) N B T (some ⟨g, 0, none⟩) c L := by
  obtain ⟨g', e, h1, h2, -⟩ := h.row hp
  cases e
  exact ⟨h.be.setCell (by exact h1) _, h.bx.far (by omega) _ _, h.row.term i t, h.le⟩
theorem Sx.memb {W w : World} {N g : Nat} {B T : Int} {c : Nat} {L : List En} (h : Sx W w N B T (some ⟨g, 0, none⟩) c L) (hp : 0 < L.length) {b : Nat} (hb : g + 1 ≤ b) (hN : b < N) (q : Nat) (z : Int) : Sx W (w.setCell ⟨b, q, none⟩ (.int .i64 z)) N B T (some ⟨g, 0, none⟩) c L := by
  obtain ⟨g', e, h1, h2, -⟩ := h.row hp
  cases e
  exact ⟨h.be.setCell (by show _ ≤ b; omega) _, h.bx.far (by omega) _ _, h.row.memb hb q z, h.le⟩
structure Sf (W w : World) (N : Nat) (a : Option Addr) (L : List En) : Prop where
  be : Below W.heap.size W w
  row : RowX w W.heap.size N a L
theorem Sf.memb {W w : World} {N g : Nat} {L : List En} (h : Sf W w N (some ⟨g, 0, none⟩) L) (hp : 0 < L.length) {b : Nat} (hb : g + 1 ≤ b) (q : Nat) (z : Int) : Sf W (w.setCell ⟨b, q, none⟩ (.int .i64 z)) N (some ⟨g, 0, none⟩) L := by
  obtain ⟨g', e, h1, h2, -⟩ := h.row hp
  cases e
  exact ⟨h.be.setCell (by show _ ≤ b; omega) _, h.row.memb hb q z⟩
theorem same_two (b t : Nat) (a : Option Addr) (c : Nat) (l : List En) (a2 : Option Addr) (c2 : Nat) (w : World) {A A2 : Nat} (h : Sl w A w.heap.size a c l) (h2 : Sl w A2 w.heap.size a2 c2 l) :
    Calls Try.prog 30 #[.agg #[.int .u64 (b : Nat), .int .u64 (t : Nat), .slice a l.length c], .agg #[.int .u64 (b : Nat), .int .u64 (t : Nat), .slice a2 l.length c2]] w fun e w' => e = .returned (.bool true) ∧ Below w.heap.size w w' := by
  have := same_log b t a c l b t a2 c2 l w h h2
  rw [sameG_self] at this
  exact this
theorem same_two2 (a : Option Addr) (c : Nat) (l : List En) (a2 : Option Addr) (c2 : Nat) (w : World) {A A2 : Nat} (h : Sl w A w.heap.size a c l) (h2 : Sl w A2 w.heap.size a2 c2 l) :
    Calls Try.prog 16 #[.slice a l.length c, .slice a2 l.length c2] w fun e w' => e = .returned (.bool true) ∧ Below w.heap.size w w' := by
  have := same_ents a c l a2 c2 l w h h2
  rw [sameL_self] at this
  exact this
set_option maxHeartbeats 16000000 in
set_option maxRecDepth 100000 in
theorem logOwn (v : Value) (x : Lg) (ix te : Int) (u : Value) (y : Option Addr × Nat × List En) (w : World) (hx : LogA w v x) (hi : (Lit.int .u64 ix).wf = true) (ht : (Lit.int .u64 te).wf = true)
    (hy : u = .slice y.1 y.2.2.length y.2.1 ∧ Sl w 0 w.heap.size y.1 y.2.1 y.2.2) (hsum : x.l.length + y.2.2.length ≤ 1048576) :
    Calls Try.prog 7 #[v, .int .u64 ix, .int .u64 te, u] w fun e w' => e = .returned (.bool true) ∧ Below w.heap.size w w' := by
  obtain ⟨ix, rfl, hix⟩ := u64_of hi
  obtain ⟨te, rfl, hte⟩ := u64_of ht
  obtain ⟨b, t, a, c, l⟩ := x
  obtain ⟨rfl, hs, hb, htt⟩ := hx
  obtain ⟨ya, yc, s⟩ := y
  obtain ⟨rfl, hy⟩ := hy
  simp only at hs hb htt hy hsum ⊢
  have hB : Below w.heap.size w (w.alloc (.cells #[.int .u64 (b : Nat), .int .u64 (t : Nat), .slice a l.length c] 25)) := (Below.refl _ _).alloc (Nat.le_refl _) _
  have HB0 := Lib.hid hB
  have C0 := Lib.hid (Bx3.made w (.int .u64 (b : Nat)) (.int .u64 (t : Nat)) (.slice a l.length c) 25)
  have HS0 := Lib.hid (hs.on hB)
  have HY0 := Lib.hid (hy.on hB)
  have KL := Lib.hid lives_true
  have HJN := Lib.hid (fun z h h2 => the_join b t ix te a c l ya yc s z (A := 0) (A2 := 0) h h2 hb hix (by omega))
  have HCP := Lib.hid (fun z h => copy_log b t a c l z (A := 0) h)
  have HCS := Lib.hid (fun z h => copy_ents ya yc s z (A := 0) h)
  have HFR := Lib.hid (fun z h => the_from b t ix 8 a c l z (A := 0) h hb hix)
  have HSG := Lib.hid (fun a2 c2 z h h2 => same_two b t a c l a2 c2 z (A := 0) (A2 := 0) h h2)
  have HSE := Lib.hid (fun a2 c2 z h h2 => same_two2 ya yc s a2 c2 z (A := 0) (A2 := 0) h h2)
  have HLS := Lib.hid hs.len
  have HLY := Lib.hid hy.len
  clear hB hs hy
  unfold JV JIs at HJN
  unfold FromIs at HFR
  obtain ⟨⟨B, U, L, F, R⟩, hq⟩ : ∃ q, jv b t l ix te s = q := ⟨_, rfl⟩
  rw [hq] at HJN
  simp only at HJN
  generalize frL b t l ix 8 = f at *
  generalize frE b t l ix = fe at *
  clear hq hix hte hb htt hsum
  go_enter Try.func7, Try.ntmps7
  go_upto_region 1 with fail
  generalize (w.alloc (.cells #[.int .u64 (b : Nat), .int .u64 (t : Nat), .slice a l.length c] 25)) = W0 at *
  obtain ⟨d00, d01, d02⟩ := C0.out.cells
  go_upto_region 4 with (first
    | (go_at_call 15; go_loud ((with_reducible refine (KL.out _).mono ?_); rintro e w1 ⟨rfl, hb⟩; have HB1 := Lib.hid (HB0.out.trans (hb.mono HB0.out.size)); have HS1 := Lib.hid (HS0.out.on hb); have HY1 := Lib.hid (HY0.out.on hb); have C1 := Lib.hid (C0.out.below hb); obtain ⟨d10, d11, d12⟩ := C1.out.cells; clear hb))
    | (go_at_call 24; go_loud ((with_reducible refine (HCP.out _ HS1.out).mono ?_); rintro e w2 ⟨⟨a2, c2, rfl, ho⟩, hb⟩; have HB2 := Lib.hid (HB1.out.trans (hb.mono HB1.out.size)); have HS2 := Lib.hid (HS1.out.on hb); have HY2 := Lib.hid (HY1.out.on hb); have C2 := Lib.hid (C1.out.below hb); obtain ⟨d20, d21, d22⟩ := C2.out.cells; have HK2 := Lib.hid (ho.more (Nat.le_refl _) (Nat.zero_le _)); clear hb ho))
    | (go_at_call 25; go_loud ((with_reducible refine (HCS.out _ HY2.out).mono ?_); rintro e w3 ⟨⟨a3, c3, rfl, ho⟩, hb⟩; have HB3 := Lib.hid (HB2.out.trans (hb.mono HB2.out.size)); have HS3 := Lib.hid (HS2.out.on hb); have HY3 := Lib.hid (HY2.out.on hb); have C3 := Lib.hid (C2.out.below hb); obtain ⟨d30, d31, d32⟩ := C3.out.cells; have HK3 := Lib.hid (HK2.out.on hb); have HA3 := Lib.hid (ho.sl HLY.out); clear hb ho)))
  have hb : Below w3.heap.size w3 (w3.alloc (.cells #[.int .u64 (b : Nat), .int .u64 (t : Nat), .slice a2 l.length c2] 25)) := ((Below.refl _ _).alloc (Nat.le_refl _) _)
  have KB4 := Lib.hid (Bx3.made w3 (.int .u64 (b : Nat)) (.int .u64 (t : Nat)) (.slice a2 l.length c2) 25)
  have HB4 := Lib.hid (HB3.out.trans (hb.mono HB3.out.size))
  have HS4 := Lib.hid (HS3.out.on hb)
  have HY4 := Lib.hid (HY3.out.on hb)
  have C4 := Lib.hid (C3.out.below hb)
  have HK4 := Lib.hid (HK3.out.on hb)
  have HA4 := Lib.hid (HA3.out.on hb)
  clear hb
  generalize w3.alloc (.cells #[.int .u64 (b : Nat), .int .u64 (t : Nat), .slice a2 l.length c2] 25) = w4 at *
  generalize w3.heap.size = N9 at *
  obtain ⟨d40, d41, d42⟩ := C4.out.cells
  go_upto_region 5 with (go_at_call 26; go_loud ((with_reducible refine (HJN.out _ HS4.out HY4.out).mono ?_); rintro e w5 ⟨⟨a5, c5, rfl, ho⟩, hb⟩; have HO5 := Lib.hid ho; have HV5 := Lib.hid hb; clear hb ho))
  have hb : Below w5.heap.size w5 (w5.alloc (.cells #[.int .u64 (B : Nat), .int .u64 (U : Nat), .slice a5 L.length c5] 25)) := ((Below.refl _ _).alloc (Nat.le_refl _) _)
  have HX : Hid (Sx w4 (w5.alloc (.cells #[.int .u64 (B : Nat), .int .u64 (U : Nat), .slice a5 L.length c5] 25)) w5.heap.size B U a5 c5 L) := ⟨HV5.out.trans (hb.mono HV5.out.size), Bx3.made w5 (.int .u64 (B : Nat)) (.int .u64 (U : Nat)) (.slice a5 L.length c5) 25, (RowX.of HO5.out).below hb, HV5.out.size⟩
  have HLL := Lib.hid HO5.out.len
  clear hb HO5 HV5
  generalize w5.alloc (.cells #[.int .u64 (B : Nat), .int .u64 (U : Nat), .slice a5 L.length c5] 25) = w6 at *
  generalize w5.heap.size = N at *
  obtain ⟨x60, x61, x62⟩ := HX.out.bx.cells
  clear KL HJN HCP HCS
  clear d00 d01 d02 HB0 HS0 HY0 C0 HB1 HS1 HY1 C1 d10 d11 d12 HB2 HS2 HY2 C2 d20 d21 d22 HK2 HB3 HS3 HY3 C3 d30 d31 d32 HK3 HA3 d40 d41 d42
  go_wp2
  go_loopg [38] L.length (fun gg i wx => ∃ k : Nat, k + gg = L.length ∧ i = .int .i64 k ∧ Aside (Sx w4 wx N B U a5 c5 L))
  case atStart => exact ⟨0, by omega, rfl, HX.out⟩
  case round =>
    obtain ⟨k, hkg, rfl, HXW⟩ := hrel
    obtain ⟨x0, x1, x2⟩ := HXW.out.bx.cells
    cases gk with
    | zero =>
      obtain rfl : k = L.length := by omega
      clear hkg
      obtain ⟨w10, rfl⟩ : ∃ z, z = wr := ⟨_, rfl⟩
      have hb := HXW.out.be
      have HB10 := Lib.hid (HB4.out.trans (hb.mono HB4.out.size))
      have HS10 := Lib.hid (HS4.out.on hb)
      have HY10 := Lib.hid (HY4.out.on hb)
      have C10 := Lib.hid (C4.out.below hb)
      obtain ⟨d100, d101, d102⟩ := C10.out.cells
      have HK10 := Lib.hid (HK4.out.on hb)
      have HA10 := Lib.hid (HA4.out.on hb)
      have KB10 := Lib.hid (KB4.out.below hb)
      obtain ⟨k100, k101, k102⟩ := KB10.out.cells
      clear hb
      go_upto_region 16 with (go_at_call 13; go_loud ((with_reducible refine (HFR.out _ HS10.out).mono ?_); rintro e w11 ⟨⟨a11, c11, rfl, ho⟩, hb⟩; have HF11 : Hid (Sf w10 w11 w11.heap.size a11 f) := ⟨hb, RowX.of ho⟩; have HLF := Lib.hid ho.len; clear hb ho))
      go_wp2
      go_loopg [78] f.length (fun gg i wx => ∃ k : Nat, k + gg = f.length ∧ i = .int .i64 k ∧ Aside (Sf w10 wx w11.heap.size a11 f))
      case atStart => exact ⟨0, by omega, rfl, HF11.out⟩
      case round =>
        obtain ⟨k, hkg, rfl, HFW⟩ := hrel
        cases gk with
        | zero =>
          obtain rfl : k = f.length := by omega
          clear hkg
          have hb := HFW.out.be
          have HB12 := Lib.hid (HB10.out.trans (hb.mono HB10.out.size))
          have HS12 := Lib.hid (HS10.out.on hb)
          have HY12 := Lib.hid (HY10.out.on hb)
          have C12 := Lib.hid (C10.out.below hb)
          obtain ⟨d120, d121, d122⟩ := C12.out.cells
          have HK12 := Lib.hid (HK10.out.on hb)
          have HA12 := Lib.hid (HA10.out.on hb)
          have KB12 := Lib.hid (KB10.out.below hb)
          obtain ⟨k120, k121, k122⟩ := KB12.out.cells
          clear hb
          go_wp2_with (first
            | (go_at_call 30; go_loud ((with_reducible refine (HSG.out _ _ _ HS12.out HK12.out).mono ?_); rintro e w13 ⟨rfl, hb⟩; have HB13 := Lib.hid (HB12.out.trans (hb.mono HB12.out.size)); have HS13 := Lib.hid (HS12.out.on hb); have HY13 := Lib.hid (HY12.out.on hb); have C13 := Lib.hid (C12.out.below hb); obtain ⟨d130, d131, d132⟩ := C13.out.cells; have HK13 := Lib.hid (HK12.out.on hb); have HA13 := Lib.hid (HA12.out.on hb); have KB13 := Lib.hid (KB12.out.below hb); obtain ⟨k130, k131, k132⟩ := KB13.out.cells; clear hb))
            | (go_at_call 16; go_loud ((with_reducible refine (HSE.out _ _ _ HY13.out HA13.out).mono ?_); rintro e w14 ⟨rfl, hb⟩; have HB14 := Lib.hid (HB13.out.trans (hb.mono HB13.out.size)); clear hb)))
          go_wp2
          go_ret
          exact ⟨rfl, HB14.out⟩
        | succ gg =>
          have hlt : k < f.length := by omega
          have hlt2 : (k : Int) < (f.length : Int) := by omega
          have hp := Lib.hid (show 0 < f.length by omega)
          have tk : IntKind.i64.wrap ((k : Int) + 1) = (k : Int) + 1 := by have := HLF.out; rw [IntKind.wrap_i64]; omega
          obtain ⟨g, rfl, hg1, hg2, hg3, hg4⟩ := HFW.out.row hp.out
          obtain ⟨u, c4', -, iu⟩ := hg4 k hlt
          obtain ⟨ua, uc, rfl, ul, -⟩ := iu
          have HK := Lib.hid hkg
          have HL := Lib.hid hlt
          clear hkg hg4 hg3
          obtain ⟨n, hn⟩ : ∃ n, ln f k = n := ⟨_, rfl⟩
          rw [hn] at c4' ul
          have HN := Lib.hid hn
          have UL := Lib.hid ul
          go_wp2
          clear hn ul
          go_loopg [87] n (fun gg i wx => ∃ j : Nat, j + gg = n ∧ i = .int .i64 j ∧ Aside (Sf w10 wx w11.heap.size (some ⟨g, 0, none⟩) f))
          case atStart => exact ⟨0, by omega, rfl, HFW.out⟩
          case round =>
            clear c4' HFW
            obtain ⟨j, hjg, rfl, HFW⟩ := hrel
            cases gk with
            | zero =>
              obtain rfl : j = n := by omega
              clear hjg
              go_wp2
              go_roundg gg
              case measure => omega
              case rel => exact ⟨k + 1, by have := HK.out; omega, by simp, HFW.out⟩
            | succ gh =>
              have hjn : j < n := by omega
              have hjn2 : (j : Int) < (n : Int) := by omega
              have tj : IntKind.i64.wrap ((j : Int) + 1) = (j : Int) + 1 := by have := UL.out; rw [IntKind.wrap_i64]; omega
              obtain ⟨g', eg, -, -, -, hg4⟩ := HFW.out.row hp.out
              cases eg
              obtain ⟨u, c4', -, iu⟩ := hg4 k HL.out
              obtain ⟨va, vc, rfl, -, hv⟩ := iu
              rw [HN.out] at c4' hv
              obtain ⟨bb, off, rfl, v1, v2, v3⟩ := hv (by omega)
              obtain ⟨⟨z0, cz⟩, fz⟩ := v3 j hjn
              have HX3 := Lib.hid (HFW.out.memb hp.out v1 (off + j) 0)
              have HJ := Lib.hid hjg
              clear hg4 hv v3 hjg
              go_wp2
              go_roundg gh
              case measure => omega
              case rel => exact ⟨j + 1, by have := HJ.out; omega, by simp, HX3.out⟩
    | succ gg =>
      have hlt : k < L.length := by omega
      have hlt2 : (k : Int) < (L.length : Int) := by omega
      have hp := Lib.hid (show 0 < L.length by omega)
      have tk : IntKind.i64.wrap ((k : Int) + 1) = (k : Int) + 1 := by have := HLL.out; rw [IntKind.wrap_i64]; omega
      obtain ⟨g, rfl, hg1, hg2, hg3, hg4⟩ := HXW.out.row hp.out
      obtain ⟨u, c4', ⟨t1, c1'⟩, iu⟩ := hg4 k hlt
      obtain ⟨ua, uc, rfl, ul, -⟩ := iu
      have f1 := hg3 (k * 5 + 1)
      have HK := Lib.hid hkg
      have HL := Lib.hid hlt
      have HG2 := Lib.hid hg2
      have gn : ¬ N = g := by omega
      have gn2 : ¬ g = N := by omega
      clear hkg hg4 hg3
      obtain ⟨n, hn⟩ : ∃ n, ln L k = n := ⟨_, rfl⟩
      rw [hn] at c4' ul
      have HN := Lib.hid hn
      have UL := Lib.hid ul
      have HX2 := Lib.hid (HXW.out.term hp.out k (IntKind.u64.wrap (t1 + 5)))
      go_wp2
      clear hn ul
      go_loopg [57] n (fun gg i wx => ∃ j : Nat, j + gg = n ∧ i = .int .i64 j ∧ Aside (Sx w4 wx N B U (some ⟨g, 0, none⟩) c5 L))
      case atStart => exact ⟨0, by omega, rfl, HX2.out⟩
      case round =>
        clear x0 x1 x2 c4' c1' f1 HXW HX2
        obtain ⟨j, hjg, rfl, HXW⟩ := hrel
        obtain ⟨x0, x1, x2⟩ := HXW.out.bx.cells
        cases gk with
        | zero =>
          obtain rfl : j = n := by omega
          clear hjg
          go_wp2
          go_roundg gg
          case measure => omega
          case rel => exact ⟨k + 1, by have := HK.out; omega, by simp, HXW.out⟩
        | succ gh =>
          have hjn : j < n := by omega
          have hjn2 : (j : Int) < (n : Int) := by omega
          have tj : IntKind.i64.wrap ((j : Int) + 1) = (j : Int) + 1 := by have := UL.out; rw [IntKind.wrap_i64]; omega
          obtain ⟨g', eg, -, -, -, hg4⟩ := HXW.out.row hp.out
          cases eg
          obtain ⟨u, c4', -, iu⟩ := hg4 k HL.out
          obtain ⟨va, vc, rfl, -, hv⟩ := iu
          rw [HN.out] at c4' hv
          obtain ⟨bb, off, rfl, v1, v2, v3⟩ := hv (by omega)
          obtain ⟨⟨z0, cz⟩, fz⟩ := v3 j hjn
          have HX3 := Lib.hid (HXW.out.memb hp.out v1 v2 (off + j) 0)
          have HJ := Lib.hid hjg
          clear hg4 hv v3 hjg
          go_wp2
          go_roundg gh
          case measure => omega
          case rel => exact ⟨j + 1, by have := HJ.out; omega, by simp, HX3.out⟩
end Lo
end Go.Proofs.Ythcjnnbnacdhoaa
