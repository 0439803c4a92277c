/-
  log.clone, own: a log's entries in memory of their own.
-/
import Derived.Test.YtjalmciaaenmjaaLogOwn
namespace Go.Proofs.Ytjalmciaaenmjaa
open Go.RowKit Go.Lib
namespace Lo
theorem IntsR.put {w : World} {A B : Nat} {v : Value} {ks : List Int} (h : IntsR w A B v ks) {g : Nat} (hg : g < A ∨ B ≤ g) (j : Nat) (u : Value) : IntsR (w.setCell ⟨g, j, none⟩ u) A B v ks := by
  obtain ⟨a, c, rfl, h1, h2, h3⟩ := h
  refine ⟨a, c, rfl, h1, h2, fun hp => ?_⟩
  obtain ⟨b, off, rfl, hA, hlt, hc⟩ := h3 hp
  refine ⟨b, off, rfl, hA, hlt, fun i hi => (World.cell?_setCell_other _ _ _ _ ?_).trans (hc i hi)⟩
  simp only [ne_eq, Addr.mk.injEq, not_and]
  intro e
  omega
theorem EntC.put {w : World} {A B b o : Nat} {e : En} {u : Value} (h : EntC w A B b o e u) {g : Nat} (hg : g < A ∨ B ≤ g) (p : Nat) (hp : g = b → (p < o ∨ o + 5 ≤ p)) (v : Value) : EntC (w.setCell ⟨g, p, none⟩ v) A B b o e u := by
  have key : ∀ j, j < 5 → (w.setCell ⟨g, p, none⟩ v).cell? ⟨b, o + j, none⟩ = w.cell? ⟨b, o + j, none⟩ := by
    intro j hj
    refine World.cell?_setCell_other _ _ _ _ ?_
    simp only [ne_eq, Addr.mk.injEq, not_and]
    intro e1 e2
    have := hp (by omega)
    omega
  exact ⟨(key 0 (by omega)).trans h.c0, (key 1 (by omega)).trans h.c1, (key 2 (by omega)).trans h.c2, (key 3 (by omega)).trans h.c3, (key 4 (by omega)).trans h.c4, h.iv.put hg p v, h.i64, h.t64⟩
theorem EntC.over {w w' : World} {A B b o C : Nat} {e : En} {u : Value} (h : EntC w A B b o e u) (hb : Below C w w') (h1 : b < C) (h2 : B ≤ C) : EntC w' A B b o e u :=
  ⟨(hb.cell (by exact h1)).trans h.c0, (hb.cell (by exact h1)).trans h.c1, (hb.cell (by exact h1)).trans h.c2, (hb.cell (by exact h1)).trans h.c3, (hb.cell (by exact h1)).trans h.c4, h.iv.keep (hb.mono h2), h.i64, h.t64⟩
theorem EntC.set4 {w : World} {A B A' B' b o : Nat} {e : En} {u v : Value} (h : EntC w A B b o e u) (hv : IntsR (w.setCell ⟨b, o + 4, none⟩ v) A' B' v e.ks) : EntC (w.setCell ⟨b, o + 4, none⟩ v) A' B' b o e v := by
  have key : ∀ j, j < 4 → (w.setCell ⟨b, o + 4, none⟩ v).cell? ⟨b, o + j, none⟩ = w.cell? ⟨b, o + j, none⟩ := by
    intro j hj
    refine World.cell?_setCell_other _ _ _ _ ?_
    simp only [ne_eq, Addr.mk.injEq, not_and]
    intro e1 e2
    omega
  exact ⟨(key 0 (by omega)).trans h.c0, (key 1 (by omega)).trans h.c1, (key 2 (by omega)).trans h.c2, (key 3 (by omega)).trans h.c3, World.cell?_setCell_same _ _ _ h.c4, hv, h.i64, h.t64⟩
theorem Thaw.keep {w w' : World} {A B : Nat} {u : Value} {ks : List Int} (h : Thaw w u) (hI : IntsR w A B u ks) (hb : Below B w w') : Thaw w' u := by
  intro b off n c e hn j
  obtain ⟨a, c', rfl, -, -, hc⟩ := hI
  simp only [Value.slice.injEq] at e
  obtain ⟨rfl, rfl, rfl⟩ := e
  obtain ⟨b', off', e, -, hlt, -⟩ := hc hn
  simp only [Option.some.injEq, Addr.mk.injEq] at e
  obtain ⟨rfl, rfl, -⟩ := e
  exact (hb.frozen (by exact hlt)).trans (h _ _ _ _ rfl hn j)
theorem Thaw.put {w : World} {u : Value} (h : Thaw w u) (p : Addr) (v : Value) : Thaw (w.setCell p v) u := fun b off n c e hn j => (World.frozen?_setCell _ _ _ _).trans (h b off n c e hn j)
/-- Where clone's loop stands: the row g, the first k entries' members copied. -/
structure CL (w0 wx : World) (g k : Nat) (l : List En) : Prop where
  bel : Below w0.heap.size w0 wx
  lo : w0.heap.size ≤ g
  hi : g < wx.heap.size
  fz : ∀ j, wx.frozen? ⟨g, j, none⟩ = false
  new : ∀ i (h : i < l.length), i < k → ∃ u, EntC wx (g + 1) wx.heap.size g (i * 5) l[i] u ∧ Thaw wx u
  old : ∀ i (h : i < l.length), k ≤ i → ∃ u, EntC wx 0 g g (i * 5) l[i] u
theorem CL.step {w0 wr w2 : World} {g k : Nat} {l : List En} (h : CL w0 wr g k l) (hk : k < l.length) (hb : Below wr.heap.size wr w2) {v : Value} (hI : IntsR w2 wr.heap.size w2.heap.size v l[k].ks) (hT : Thaw w2 v) : CL w0 (w2.setCell ⟨g, k * 5 + 4, none⟩ v) g (k + 1) l := by
  have hsz := hb.size
  have hhi := h.hi
  refine ⟨(h.bel.trans (hb.mono h.bel.size)).setCell h.lo _, h.lo, by simp; omega, fun j => (World.frozen?_setCell _ _ _ _).trans ((hb.frozen (by exact hhi)).trans (h.fz j)), fun i hi hik => ?_, fun i hi hik => ?_⟩
  · by_cases e : i = k
    · subst e
      obtain ⟨u, hu⟩ := h.old i hi (Nat.le_refl _)
      refine ⟨v, ?_, hT.put _ _⟩
      have hu2 := hu.over hb hhi (by omega)
      have := hu2.set4 (A' := g + 1) (B' := w2.heap.size) ((hI.more (Nat.le_refl _) (by omega)).put (.inl (by omega)) _ _)
      simpa using this
    · obtain ⟨u, hu, ht⟩ := h.new i hi (by omega)
      refine ⟨u, ?_, (ht.keep hu.iv hb).put _ _⟩
      have := ((hu.over hb hhi (Nat.le_refl _)).more hsz (Nat.le_refl _)).put (g := g) (.inl (by omega)) (k * 5 + 4) (fun _ => .inr (by omega)) v
      simpa using this
  · obtain ⟨u, hu⟩ := h.old i hi (by omega)
    exact ⟨u, (hu.over hb hhi (by omega)).put (.inr (Nat.le_refl _)) (k * 5 + 4) (fun _ => .inl (by omega)) v⟩
/-- Entries of the call's own. -/
structure OwnS (w : World) (A : Nat) (a : Option Addr) (c : Nat) (l : List En) : Prop where
  row : 0 < l.length → ∃ g, a = some ⟨g, 0, none⟩ ∧ A ≤ g ∧ g < w.heap.size ∧ (∀ j, w.frozen? ⟨g, j, none⟩ = false) ∧ ∀ i (h : i < l.length), ∃ u, EntC w (g + 1) w.heap.size g (i * 5) l[i] u ∧ Thaw w u
  cap : l.length ≤ c
  nil : a = none → c = 0
  len : l.length ≤ 2199023255551
theorem OwnS.sl {w : World} {A : Nat} {a : Option Addr} {c : Nat} {l : List En} (h : OwnS w A a c l) : Sl w A w.heap.size a c l := by
  refine ⟨fun hp => ?_, h.cap, h.nil, h.len⟩
  obtain ⟨g, rfl, hA, hlt, -, hc⟩ := h.row hp
  refine ⟨g, 0, rfl, hA, hlt, fun i hi => ?_⟩
  obtain ⟨u, hu, -⟩ := hc i hi
  rw [Nat.zero_add]
  exact ⟨u, hu.more (Nat.le_refl _) (by omega)⟩
theorem OwnS.less {w : World} {A A' : Nat} {a : Option Addr} {c : Nat} {l : List En} (h : OwnS w A a c l) (hA : A' ≤ A) : OwnS w A' a c l :=
  ⟨fun hp => by obtain ⟨g, r, h1, h2⟩ := h.row hp; exact ⟨g, r, Nat.le_trans hA h1, h2⟩, h.cap, h.nil, h.len⟩
theorem OwnS.on {w w' : World} {A : Nat} {a : Option Addr} {c : Nat} {l : List En} (h : OwnS w A a c l) (hb : Below w.heap.size w w') : OwnS w' A a c l := by
  refine ⟨fun hp => ?_, h.cap, h.nil, h.len⟩
  obtain ⟨g, rfl, hA, hlt, hf, hc⟩ := h.row hp
  refine ⟨g, rfl, hA, Nat.lt_of_lt_of_le hlt hb.size, fun j => (hb.frozen (by exact hlt)).trans (hf j), fun i hi => ?_⟩
  obtain ⟨u, hu, ht⟩ := hc i hi
  exact ⟨u, (hu.over hb hlt (Nat.le_refl _)).more hb.size (Nat.le_refl _), ht.keep hu.iv hb⟩
theorem OwnS.put {w : World} {A : Nat} {a : Option Addr} {c : Nat} {l : List En} (h : OwnS w A a c l) {p : Nat} (hp : p < A) (j : Nat) (v : Value) : OwnS (w.setCell ⟨p, j, none⟩ v) A a c l := by
  refine ⟨fun hl => ?_, h.cap, h.nil, h.len⟩
  obtain ⟨g, rfl, hA, hlt, hf, hc⟩ := h.row hl
  refine ⟨g, rfl, hA, by simpa using hlt, fun j' => (World.frozen?_setCell _ _ _ _).trans (hf j'), fun i hi => ?_⟩
  obtain ⟨u, hu, ht⟩ := hc i hi
  refine ⟨u, ?_, ht.put _ _⟩
  have := hu.put (g := p) (.inl (by omega)) j (fun e => by omega) v
  simpa using this
set_option maxHeartbeats 4000000 in
theorem clone_of (a : Option Addr) (c : Nat) (l : List En) (w : World) {A : Nat} (h : Sl w A w.heap.size a c l) :
    Calls Try.prog 36 #[.slice a l.length c] w fun e w' => (∃ a' c', e = .returned (.slice a' l.length c') ∧ OwnS w' w.heap.size a' c' l) ∧ Below w.heap.size w w' := by
  have HC := Lib.hid (clone_ents a c l w h)
  have HLN := Lib.hid h.len
  clear h
  go_enter Try.func36, Try.ntmps36
  go_wp2_with (go_at_call 48; go_loud ((with_reducible refine HC.out.mono ?_); rintro e w1 ⟨⟨a1, c1, rfl, r1, r2, r3⟩, hb1⟩; have HR1 := Lib.hid r1; have HR2 := Lib.hid r2; have HR3 := Lib.hid r3; have HB1 := Lib.hid hb1; clear r1 r2 r3 hb1 HC))
  go_wp2
  go_loopg [8] l.length (fun gg i wx => ∃ k : Nat, k + gg = l.length ∧ i = .int .i64 k ∧ Aside (Below w.heap.size w wx) ∧ Aside (0 < l.length → ∃ g, a1 = some ⟨g, 0, none⟩ ∧ CL w wx g k l))
  case atStart =>
    refine ⟨0, by omega, rfl, HB1.out, fun hp => ?_⟩
    obtain ⟨g, rfl, hg1, hg2, hf, hc⟩ := HR3.out hp
    exact ⟨g, rfl, HB1.out, hg1, hg2, hf, fun i _ h0 => absurd h0 (by omega), fun i hi _ => (hc i hi).imp fun u hu => hu.more hg1 (Nat.zero_le _)⟩
  case round =>
    obtain ⟨k, hkg, rfl, HB, HCL⟩ := hrel
    cases gk with
    | zero =>
      obtain rfl : k = l.length := by omega
      clear hkg
      go_wp2
      go_ret
      refine ⟨⟨a1, c1, rfl, fun hp => ?_, HR1.out, HR2.out, HLN.out⟩, HB.out⟩
      obtain ⟨g, rfl, hcl⟩ := HCL.out hp
      exact ⟨g, rfl, hcl.lo, hcl.hi, hcl.fz, fun i hi => hcl.new i hi hi⟩
    | succ gg =>
      have hlt : k < l.length := by omega
      have hlt2 : (k : Int) < (l.length : Int) := by omega
      have hk0 : (0 : Int) ≤ (k : Int) := by omega
      obtain ⟨g, rfl, hcl⟩ := HCL.out (by omega)
      obtain ⟨u, hu⟩ := hcl.old k hlt (Nat.le_refl _)
      have c4 := hu.c4
      have f4 := hcl.fz (k * 5 + 4)
      have hgi := hcl.hi
      have HCI := Lib.hid (clone_ints u l[k].ks wr (hu.iv.more (Nat.le_of_lt hgi) (Nat.le_refl _)))
      have HK := Lib.hid hkg
      have HL := Lib.hid hlt
      obtain ⟨ua, uc, rfl⟩ := hu.iv.slice
      have tk : IntKind.i64.wrap ((k : Int) + 1) = (k : Int) + 1 := by have := HLN.out; rw [IntKind.wrap_i64]; omega
      have HCC := Lib.hid hcl
      clear hkg hu hcl HR3
      go_wp2_with (go_at_call 40; go_loud ((with_reducible refine HCI.out.mono ?_); rintro e w2 ⟨⟨a2, c2, rfl, hI, hT⟩, hb2⟩; have d4 := (hb2.cell (p := ⟨g, k * 5 + 4, none⟩) (by exact hgi)).trans c4; have g4 := (hb2.frozen (p := ⟨g, k * 5 + 4, none⟩) (by exact hgi)).trans f4; have HST := Lib.hid (HCC.out.step HL.out hb2 hI hT); have HB2 := Lib.hid (HB.out.trans (hb2.mono HB.out.size)); clear hI hT hb2))
      go_wp2
      go_roundg gg
      case measure => omega
      case rel => exact ⟨k + 1, by have := HK.out; omega, by simp, HST.out.bel, fun _ => ⟨g, rfl, HST.out⟩⟩
/-- Block B has these three cells. -/
def Bx3 (w : World) (B : Nat) (a b c : Value) : Prop := ∃ T, w.heap[B]? = some (.cells #[a, b, c] T (0, 0))
theorem Bx3.made (w : World) (a b c : Value) (T : TypeId) : Bx3 (w.alloc (.cells #[a, b, c] T)) w.heap.size a b c := ⟨T, heap_alloc_new w _⟩
theorem Bx3.lt {w : World} {B : Nat} {a b c : Value} (h : Bx3 w B a b c) : B < w.heap.size := by
  obtain ⟨T, h⟩ := h
  exact (Array.getElem?_eq_some_iff.1 h).1
theorem Bx3.cells {w : World} {B : Nat} {a b c : Value} (h : Bx3 w B a b c) : w.cell? ⟨B, 0, none⟩ = some a ∧ w.cell? ⟨B, 1, none⟩ = some b ∧ w.cell? ⟨B, 2, none⟩ = some c := by
  obtain ⟨T, h⟩ := h
  refine ⟨?_, ?_, ?_⟩ <;> simp [World.cell?, h]
theorem Bx3.fz {w : World} {B : Nat} {a b c : Value} (h : Bx3 w B a b c) : w.frozen? ⟨B, 0, none⟩ = false ∧ w.frozen? ⟨B, 1, none⟩ = false ∧ w.frozen? ⟨B, 2, none⟩ = false := by
  obtain ⟨T, h⟩ := h
  refine ⟨?_, ?_, ?_⟩ <;> simp [World.frozen?, h]
theorem Bx3.set0 {w : World} {B : Nat} {a b c : Value} (h : Bx3 w B a b c) (u : Value) : Bx3 (w.setCell ⟨B, 0, none⟩ u) B u b c := by obtain ⟨T, h⟩ := h; exact ⟨T, by simp [World.setCell, Array.getElem?_modify, h]⟩
theorem Bx3.set1 {w : World} {B : Nat} {a b c : Value} (h : Bx3 w B a b c) (u : Value) : Bx3 (w.setCell ⟨B, 1, none⟩ u) B a u c := by obtain ⟨T, h⟩ := h; exact ⟨T, by simp [World.setCell, Array.getElem?_modify, h]⟩
theorem Bx3.set2 {w : World} {B : Nat} {a b c : Value} (h : Bx3 w B a b c) (u : Value) : Bx3 (w.setCell ⟨B, 2, none⟩ u) B a b u := by obtain ⟨T, h⟩ := h; exact ⟨T, by simp [World.setCell, Array.getElem?_modify, h]⟩
theorem Bx3.far {w : World} {B p : Nat} {a b c : Value} (h : Bx3 w B a b c) (hp : p ≠ B) (o : Nat) (u : Value) : Bx3 (w.setCell ⟨p, o, none⟩ u) B a b c :=
  h.imp fun _ h => (Below.heap_setCell w ⟨p, o, none⟩ u B (by rintro rfl; exact hp rfl)).trans h
theorem Bx3.below {w w' : World} {B : Nat} {a b c : Value} (h : Bx3 w B a b c) (hb : Below w.heap.size w w') : Bx3 w' B a b c := by
  have hlt := h.lt
  exact h.imp fun _ h => (hb.block B hlt).trans h
theorem Bx3.al {w : World} {B : Nat} {a b c : Value} (h : Bx3 w B a b c) (o : Obj) : Bx3 (w.alloc o) B a b c := h.below ((Below.refl _ _).alloc (Nat.le_refl _) _)
theorem load_log (w : World) (B : Nat) (i t : Int) (v : Value) (h : Bx3 w B (.int .u64 i) (.int .u64 t) v) :
    (loadVar 25 ⟨B, 0, none⟩).run Try.prog w = .ok (.agg #[.int .u64 i, .int .u64 t, v]) w := by
  obtain ⟨c0, c1, c2⟩ := h.cells
  have a := Try.isAgg25 w
  have c := Try.sizeOf25 w
  go_simp
theorem results_cell1 {fn : Func} {p : Tmp} {ty : TypeId} (h : fn.results = #[.cell p ty]) (tmps : Array Value) (P : Program) (w : World) :
    (results fn tmps).run P w = ((asAddr (tmps.getD p undef)).run P w).andThen fun a w₁ => (loadVar ty a).run P w₁ := by
  simp only [results, h]
  simp [Sem.run_bind, Result.andThen]
theorem results_cell3 {fn : Func} {p u v : Tmp} {ty : TypeId} (h : fn.results = #[.cell p ty, .tmp u, .tmp v]) (tmps : Array Value) (P : Program) (w : World) :
    (results fn tmps).run P w =
      ((asAddr (tmps.getD p undef)).run P w).andThen fun a w₁ => ((loadVar ty a).run P w₁).andThen fun x w₂ => .ok (.tuple #[x, tmps.getD u undef, tmps.getD v undef]) w₂ := by
  simp only [results, h]
  simp [Sem.run_bind, Result.andThen]
theorem bodyPost_log1 {fn : Func} {p : Tmp} (h : fn.results = #[.cell p 25]) {R : Ending → World → Prop} {a : Act} {w : World} (B : Nat) (i t : Int) (v : Value) (hd : a.defers = [])
    (hp : a.tmps.getD p undef = .pointer (some ⟨B, 0, none⟩)) (hx : Bx3 w B (.int .u64 i) (.int .u64 t) v)
    (hR : R (.returned (.agg #[.int .u64 i, .int .u64 t, v])) w) : bodyPost Try.prog fn R .ret a w := by
  refine bodyPost_ret ?_ hd hR
  rw [results_cell1 h, hp]
  have := load_log w B i t v hx
  simp [asAddr, this, Result.andThen]
theorem bodyPost_log2 {fn : Func} {p u : Tmp} (h : fn.results = #[.cell p 25, .tmp u]) {R : Ending → World → Prop} {a : Act} {w : World} (B : Nat) (i t : Int) (v : Value) (hd : a.defers = [])
    (hp : a.tmps.getD p undef = .pointer (some ⟨B, 0, none⟩)) (hx : Bx3 w B (.int .u64 i) (.int .u64 t) v)
    (hR : R (.returned (.tuple #[.agg #[.int .u64 i, .int .u64 t, v], a.tmps.getD u undef])) w) : bodyPost Try.prog fn R .ret a w := by
  refine bodyPost_ret ?_ hd hR
  rw [results_cell_tmp h, hp]
  have := load_log w B i t v hx
  simp [asAddr, this, Result.andThen]
theorem bodyPost_log3 {fn : Func} {p u z : Tmp} (h : fn.results = #[.cell p 25, .tmp u, .tmp z]) {R : Ending → World → Prop} {a : Act} {w : World} (B : Nat) (i t : Int) (v : Value) (hd : a.defers = [])
    (hp : a.tmps.getD p undef = .pointer (some ⟨B, 0, none⟩)) (hx : Bx3 w B (.int .u64 i) (.int .u64 t) v)
    (hR : R (.returned (.tuple #[.agg #[.int .u64 i, .int .u64 t, v], a.tmps.getD u undef, a.tmps.getD z undef])) w) : bodyPost Try.prog fn R .ret a w := by
  refine bodyPost_ret ?_ hd hR
  rw [results_cell3 h, hp]
  have := load_log w B i t v hx
  simp [asAddr, this, Result.andThen]
set_option maxHeartbeats 2000000 in
theorem own_of (b t : Nat) (a : Option Addr) (c : Nat) (l : List En) (w : World) {A : Nat} (h : Sl w A w.heap.size a c l) :
    Calls Try.prog 46 #[.agg #[.int .u64 (b : Nat), .int .u64 (t : Nat), .slice a l.length c]] w fun e w' => (∃ a' c', e = .returned (.agg #[.int .u64 (b : Nat), .int .u64 (t : Nat), .slice a' l.length c']) ∧ OwnS w' w.heap.size a' c' l) ∧ Below w.heap.size w w' := by
  have hB : Below w.heap.size w ((w.alloc (.cells #[.int .u64 (b : Nat), .int .u64 (t : Nat), .slice a l.length c] 25)).alloc (.cells #[.int .u64 0, .int .u64 0, .slice none 0 0] 25)) := ((Below.refl _ _).alloc (Nat.le_refl _) _).alloc (by simp) _
  have HC := Lib.hid (clone_of a c l _ (h.on hB))
  have HB := Lib.hid hB
  have B1 := Lib.hid ((Bx3.made w (.int .u64 (b : Nat)) (.int .u64 (t : Nat)) (.slice a l.length c) 25).al (.cells #[.int .u64 0, .int .u64 0, .slice none 0 0] 25))
  have B2 := Lib.hid (Bx3.made (w.alloc (.cells #[.int .u64 (b : Nat), .int .u64 (t : Nat), .slice a l.length c] 25)) (.int .u64 0) (.int .u64 0) (.slice none 0 0) 25)
  clear hB h
  go_enter Try.func46, Try.ntmps46
  go_wp2_with (go_at_call 36; go_loud ((with_reducible refine HC.out.mono ?_); rintro e w1 ⟨⟨a1, c1, rfl, hO⟩, hb1⟩; have HO := Lib.hid hO; have HB1 := Lib.hid (HB.out.trans (hb1.mono HB.out.size)); have C1 := Lib.hid (B1.out.below hb1); have C2 := Lib.hid (B2.out.below hb1); obtain ⟨d0, d1, d2⟩ := C1.out.cells; obtain ⟨f0, f1, f2⟩ := C1.out.fz; obtain ⟨e0, e1, e2⟩ := C2.out.cells; obtain ⟨g0, g1, g2⟩ := C2.out.fz; simp only [World.size_alloc] at e0 e1 e2 g0 g1 g2; clear hb1 hO HC))
  go_wp2
  refine bodyPost_log1 rfl (w.heap.size + 1) b t (.slice a1 l.length c1) rfl rfl ?_ ?_
  case refine_1 =>
    have h2 := C2.out
    rw [World.size_alloc] at h2
    exact (((h2.far (by omega) 2 _).set0 _).set1 _).set2 _
  case refine_2 =>
    have h1 := HO.out
    simp only [World.size_alloc] at h1
    exact ⟨⟨a1, c1, rfl, ((((h1.put (p := w.heap.size) (by omega) 2 _).put (p := w.heap.size + 1) (by omega) 0 _).put (p := w.heap.size + 1) (by omega) 1 _).put (p := w.heap.size + 1) (by omega) 2 _).less (by omega)⟩, (((HB1.out.setCell (by exact Nat.le_refl _) _).setCell (by exact Nat.le_succ _) _).setCell (by exact Nat.le_succ _) _).setCell (by exact Nat.le_succ _) _⟩
end Lo
end Go.Proofs.Ytjalmciaaenmjaa
