/-
  NUMBERS OF REPLICAS as parts: parts.Members, (*parts.Taker).Members; Times of a taker.
-/
import Derived.Test.YtlkdjnnlbccjdaaHardPart
import Derived.Test.YtlkdjnnlbccjdaaPartsMk
import Derived.Test.YtlkdjnnlbccjdaaMsgInt
import Derived.Deep.RegionLaw
import Derived.Deep.LoopGhost
import Derived.Laws.OwnMore
import Derived.Deep.OwnRows
import Derived.Shelf.Abstract
namespace Go.Proofs.Ytlkdjnnlbccjdaa
open Go.RowKit
namespace Hd
open PM
def encI (ks : List Nat) : List Value := ks.map fun n => .int .i64 (n : Nat)
theorem encI_len (ks : List Nat) : (encI ks).length = ks.length := by simp [encI]
/-- A row of ints of one's own, from block base on. -/
def OwnI (w : World) (base : Nat) (v : Value) (ks : List Nat) : Prop := w.ownsRow base 3 1 v ks.length (encI ks)
theorem info_int : (Try.prog.info? 3).map (fun i => (i.zero, i.size, i.bytes)) = some (some (.int .i64 0), 1, 8) := by kernel_rfl
theorem OwnI.slice {w : World} {base : Nat} {v : Value} {ks : List Nat} (h : OwnI w base v ks) : ∃ a c, v = .slice a ks.length c := by
  rcases h.2 with ⟨rfl, h0⟩ | ⟨g, cap, cur, rfl, _⟩
  · exact ⟨none, 0, by rw [h0]⟩
  · exact ⟨_, _, rfl⟩
theorem OwnI.nil (w : World) (base : Nat) : OwnI w base (.slice none 0 0) [] := ⟨rfl, .inl ⟨rfl, rfl⟩⟩
theorem OwnI.less {w : World} {base b2 : Nat} {v : Value} {ks : List Nat} (h : OwnI w base v ks) (hb : b2 ≤ base) : OwnI w b2 v ks := by
  refine ⟨h.1, ?_⟩
  rcases h.2 with h2 | ⟨g, cap, cur, h3, h4, h5⟩
  · exact .inl h2
  · exact .inr ⟨g, cap, cur, h3, Nat.le_trans hb h4, h5⟩
theorem OwnI.below {w w' : World} {base : Nat} {v : Value} {ks : List Nat} (h : OwnI w base v ks) (hb : Below w.heap.size w w') : OwnI w' base v ks := own_keep h hb
theorem OwnI.al {w : World} {base : Nat} {v : Value} {ks : List Nat} (h : OwnI w base v ks) (o : Obj) : OwnI (w.alloc o) base v ks := h.below ((Below.refl _ _).alloc (Nat.le_refl _) _)
theorem OwnI.far {w : World} {base : Nat} {v : Value} {ks : List Nat} (h : OwnI w base v ks) {g : Nat} (hg : g < base) : v.ownBlock ≠ some g := fun e => by
  have := (World.ownsRow.lt h g e).1
  omega
theorem OwnI.only {w w' : World} {base : Nat} {v : Value} {ks : List Nat} (h : OwnI w base v ks) {g : Nat} (ho : Only g w w') (hg : g < base) : OwnI w' base v ks :=
  World.ownsRow.kept (row := some g) h ho (Or.inr (h.far hg))
theorem OwnI.put {w : World} {base : Nat} {v : Value} {ks : List Nat} (h : OwnI w base v ks) {p : Nat} (hp : p < base) (i : Nat) (u : Value) : OwnI (w.setCell ⟨p, i, none⟩ u) base v ks :=
  h.only ((Only.refl p w).set i u) hp
theorem OwnI.ints {w : World} {base : Nat} {v : Value} {ks : List Nat} (h : OwnI w base v ks) (hl : ks.length ≤ 4611686018427387904) (hk : ∀ k ∈ ks, k ≤ 9223372036854775807) : Dk.Ints w w.heap.size v (ks.map fun (k : Nat) => (k : Int)) := by
  obtain ⟨a, c, hv⟩ := h.slice
  refine ⟨a, c, by rw [List.length_map]; exact hv, by rw [List.length_map]; exact hl, ?_, ?_⟩
  · intro x hx
    obtain ⟨k, hm, rfl⟩ := List.mem_map.1 hx
    have := hk k hm
    omega
  · intro hp
    rw [List.length_map] at hp
    rcases h.2 with ⟨_, h0⟩ | ⟨g, cap, cur, h3, h4, h5, h6⟩
    · omega
    · rw [hv] at h3
      injection h3 with h3a h3b h3c
      refine ⟨g, 0, h3a, (Array.getElem?_eq_some_iff.1 h5).1, fun i hi => ?_⟩
      rw [List.length_map] at hi
      have := World.ownsRow.cells (g := g) h (by rw [hv, h3a]; rfl) i (.int .i64 (ks[i] : Nat)) (by simp [encI, List.getElem?_eq_getElem hi])
      rw [List.getElem_map]
      have e : (⟨g, 0, none⟩ : Addr).add i = ⟨g, 0 + i, none⟩ := Addr.add_lit ..
      rw [e] at this
      exact this
/-- An append of one int onto a row of one's own, within a region. -/
theorem step_int {ops : Array Oper} {o : Oper} {a : Act} {w : World} {K : Act → World → Prop} {Q : Exit → Act → World → Prop} {E : Prop} (hgd : o.guard = none) (s x : Operand)
    (ho : o.op = .call { callee := .builtin .append, args := #[s, x], argTypes := #[25, 25] })
    (base : Nat) (hbase : base ≤ w.heap.size) (ks : List Nat) (k : Nat) (v : Value) (hs : a.eval s = v) (hown : OwnI w base v ks) (ad : Addr) (c : Nat) (hx : a.eval x = .slice (some ad) 1 c)
    (hc : w.cell? (ad.add 0) = some (.int .i64 (k : Nat))) (hl : ks.length ≤ 1000)
    (h : ∀ v' w', OwnI w' base v' (ks ++ [k]) → w.grownBy w' v.ownBlock → K (a.put o.dst v') w') :
    if Region.wanted o (yielded ops a.tmps) = true then Oper.wp Try.prog o a w K Q else E := by
  have hw : Region.wanted o (yielded ops a.tmps) = true := by simp [Region.wanted, hgd]
  rw [if_pos hw]
  obtain ⟨i0, hi, hq0, hq1, hq2⟩ := info_parts info_int
  refine wp_append_own w s x _ ho base 3 i0 _ 1 8 Try.underlying25 hi hq0 hq1 hq2 rfl (by omega) v ks.length (encI ks) hs hown ad 1 c [.int .i64 (k : Nat)] hx rfl ?_ ?_ (by simp only [maxLen]; omega) (by omega) hbase ?_
  · intro j u hj
    match j, hj with
    | 0, hj => simp at hj; subst hj; exact hc
  · intro u hu; simp at hu; subst hu; rfl
  · intro v' w' hown' hg _
    refine h v' w' ?_ hg
    unfold OwnI
    rw [List.length_append]
    simpa [encI] using hown'
/-- Below block B nothing has turned but blocks g and p. -/
def Two (B g p : Nat) (w w' : World) : Prop := w'.os = w.os ∧ w'.tape = w.tape ∧ w'.output = w.output ∧ w.heap.size ≤ w'.heap.size ∧ ∀ i, i < B → i ≠ g → i ≠ p → w'.heap[i]? = w.heap[i]?
theorem Two.refl (B g p : Nat) (w : World) : Two B g p w w := ⟨rfl, rfl, rfl, Nat.le_refl _, fun _ _ _ _ => rfl⟩
theorem Two.trans {B g p : Nat} {a b c : World} (h : Two B g p a b) (k : Two B g p b c) : Two B g p a c :=
  ⟨k.1.trans h.1, k.2.1.trans h.2.1, k.2.2.1.trans h.2.2.1, Nat.le_trans h.2.2.2.1 k.2.2.2.1, fun i h1 h2 h3 => (k.2.2.2.2 i h1 h2 h3).trans (h.2.2.2.2 i h1 h2 h3)⟩
theorem Two.of_only {B g p : Nat} {w w' : World} (h : Only g w w') (hB : B ≤ w.heap.size) : Two B g p w w' := ⟨h.os, h.tape, h.output, h.size, fun i h1 h2 _ => h.block i (by omega) (by intro e; injection e with e; omega)⟩
theorem Two.of_below {B g p : Nat} {w w' : World} (h : Below w.heap.size w w') (hB : B ≤ w.heap.size) : Two B g p w w' := ⟨h.os, h.tape, h.output, h.size, fun i h1 _ _ => h.block i (by omega)⟩
theorem Two.of_grown {B g p : Nat} {w w' : World} {row : Option Nat} (h : w.grownBy w' row) (hB : B ≤ w.heap.size) (hr : ∀ k, row = some k → B ≤ k) : Two B g p w w' :=
  ⟨h.os, h.tape, h.output, h.size, fun i h1 _ _ => h.block i (by omega) (by intro e; have := hr i e.symm; omega)⟩
theorem Two.put (B g p : Nat) (w : World) (i : Nat) (u : Value) : Two B g p w (w.setCell ⟨p, i, none⟩ u) :=
  ⟨rfl, rfl, rfl, by simp [World.setCell], fun k _ _ h3 => Below.heap_setCell w ⟨p, i, none⟩ u k (by rintro rfl; exact h3 rfl)⟩
theorem Two.cell {B g p b i : Nat} {w w' : World} (h : Two B g p w w') (h1 : b < B) (h2 : b ≠ g) (h3 : b ≠ p) : w'.cell? ⟨b, i, none⟩ = w.cell? ⟨b, i, none⟩ := by
  simp only [World.cell?, h.2.2.2.2 b h1 h2 h3]
theorem Two.frozen {B g p b i : Nat} {w w' : World} (h : Two B g p w w') (h1 : b < B) (h2 : b ≠ g) (h3 : b ≠ p) : w'.frozen? ⟨b, i, none⟩ = w.frozen? ⟨b, i, none⟩ := by
  simp only [World.frozen?, h.2.2.2.2 b h1 h2 h3]
theorem only_cell {g b i : Nat} {w w' : World} (h : Only g w w') (h1 : b < w.heap.size) (h2 : b ≠ g) : w'.cell? ⟨b, i, none⟩ = w.cell? ⟨b, i, none⟩ := by
  have := h.block b h1 (by intro e; injection e with e; omega)
  simp only [World.cell?, this]
theorem only_frozen {g b i : Nat} {w w' : World} (h : Only g w w') (h1 : b < w.heap.size) (h2 : b ≠ g) : w'.frozen? ⟨b, i, none⟩ = w.frozen? ⟨b, i, none⟩ := by
  have := h.block b h1 (by intro e; injection e with e; omega)
  simp only [World.frozen?, this]
theorem grown_cell {row : Option Nat} {b i : Nat} {w w' : World} (h : w.grownBy w' row) (h1 : b < w.heap.size) (h2 : row ≠ some b) : w'.cell? ⟨b, i, none⟩ = w.cell? ⟨b, i, none⟩ := by
  have := h.block b h1 (fun e => h2 e.symm)
  simp only [World.cell?, this]
theorem grown_frozen {row : Option Nat} {b i : Nat} {w w' : World} (h : w.grownBy w' row) (h1 : b < w.heap.size) (h2 : row ≠ some b) : w'.frozen? ⟨b, i, none⟩ = w.frozen? ⟨b, i, none⟩ := by
  have := h.block b h1 (fun e => h2 e.symm)
  simp only [World.frozen?, this]
/-- Where Members of a taker stands: the row in the box p, the taker's address in the box q. -/
structure Tb (w0 : World) (p q g base : Nat) (l : List UInt8) (b : Bool) (ks : List Nat) (v : Value) (x : World) : Prop where
  tk : Tk x g l b
  own : OwnI x base v ks
  cp : x.cell? ⟨p, 0, none⟩ = some v
  fp : x.frozen? ⟨p, 0, none⟩ = false
  cq : x.cell? ⟨q, 0, none⟩ = some (.pointer (some ⟨g, 0, none⟩))
  sz : base ≤ x.heap.size
  fr : Two base g p w0 x
theorem Tk.blk {w w' : World} {g : Nat} {l : List UInt8} {b : Bool} (h : Tk w g l b) (e : w'.heap[g]? = w.heap[g]?) : Tk w' g l b := h.imp fun _ h => e.trans h
theorem tb_end {w0 x w7 w8 : World} {p q g base : Nat} {l l2 : List UInt8} {b b2 : Bool} {ks : List Nat} {av : Option Addr} {cv k : Nat} {a8 : Option Addr} {c8 : Nat} {o : Obj} (h : Tb w0 p q g base l b ks (.slice av ks.length cv) x)
    (hpb : p < base) (hqb : q < base) (hgb : g < base) (hpg : p ≠ g) (hqg : q ≠ g) (hqp : q ≠ p) (hT7 : Tk w7 g l2 b2) (hO7 : Only g x.drew w7) (hown8 : OwnI w8 base (.slice a8 (ks ++ [k]).length c8) (ks ++ [k]))
    (hg8 : (w7.alloc o).grownBy w8 (Value.slice av ks.length cv).ownBlock) :
    Tb w0 p q g base l2 b2 (ks ++ [k]) (.slice a8 (ks.length + 1) c8) (w8.setCell ⟨p, 0, none⟩ (.slice a8 (ks.length + 1) c8)) := by
  have hsz := h.sz
  have s7 : x.heap.size ≤ w7.heap.size := hO7.size
  have s8 : w7.heap.size + 1 ≤ w8.heap.size := by have := hg8.size; simpa using this
  have hX : OwnI x base (.slice av ks.length cv) ks := h.own
  have hrow : ∀ i, i < base → (Value.slice av ks.length cv).ownBlock ≠ some i := fun i hi => hX.far hi
  have hlen : (ks ++ [k]).length = ks.length + 1 := by simp
  rw [hlen] at hown8
  have b7 : ∀ i, i < w7.heap.size → (w7.alloc o).heap[i]? = w7.heap[i]? := fun i hi => Lib.alloc_old w7 o i hi
  have b8 : ∀ i, i < base → w8.heap[i]? = w7.heap[i]? := fun i hi => (hg8.block i (by simp; omega) (fun e => hrow i hi e.symm)).trans (b7 i (by omega))
  have t78 : Two base g p w7 w8 := ⟨hg8.os, hg8.tape, hg8.output, by omega, fun i hi _ _ => b8 i hi⟩
  have t07 : Two base g p x w7 := Two.of_only (w := x) ⟨hO7.os, hO7.tape, hO7.output, hO7.size, hO7.block⟩ hsz
  have tall := (h.fr.trans t07).trans (t78.trans (Two.put base g p w8 0 (.slice a8 (ks.length + 1) c8)))
  have cqq : w8.cell? ⟨q, 0, none⟩ = x.cell? ⟨q, 0, none⟩ := ((t07.trans t78).cell hqb hqg hqp)
  have cpp : w8.cell? ⟨p, 0, none⟩ = x.cell? ⟨p, 0, none⟩ := by
    have e1 := b8 p hpb
    have e2 := hO7.block p (by show p < x.heap.size; omega) (by intro e; injection e with e; exact hpg e)
    have e3 : w8.heap[p]? = x.heap[p]? := e1.trans e2
    simp only [World.cell?, e3]
  have fpp : w8.frozen? ⟨p, 0, none⟩ = x.frozen? ⟨p, 0, none⟩ := by
    have e1 := b8 p hpb
    have e2 := hO7.block p (by show p < x.heap.size; omega) (by intro e; injection e with e; exact hpg e)
    have e3 : w8.heap[p]? = x.heap[p]? := e1.trans e2
    simp only [World.frozen?, e3]
  refine ⟨?_, ?_, ?_, ?_, ?_, ?_, tall⟩
  · exact (hT7.blk (b8 g hgb)).blk (Below.heap_setCell w8 ⟨p, 0, none⟩ _ g (by rintro rfl; exact hpg rfl))
  · exact hown8.put hpb 0 _
  · exact World.cell?_setCell_same _ _ _ (cpp.trans h.cp)
  · simpa using fpp.trans h.fp
  · rw [World.cell?_setCell_other _ _ _ _ (by intro e; injection e with e; exact hqp e.symm)]
    exact cqq.trans h.cq
  · simp [World.setCell]; omega
set_option maxRecDepth 100000 in
set_option maxHeartbeats 2000000 in
theorem tclo (w0 : World) (p q g base : Nat) (l : List UInt8) (b : Bool) (ks : List Nat) (v : Value) (x : World) (h : Tb w0 p q g base l b ks v x) (hl : l.length ≤ maxLen) (h3 : ks.length ≤ 1000)
    (hpb : p < base) (hqb : q < base) (hgb : g < base) (hpg : p ≠ g) (hqg : q ≠ g) (hqp : q ≠ p) :
    Calls Try.prog 104 #[.pointer (some ⟨p, 0, none⟩), .pointer (some ⟨q, 0, none⟩)] x fun e x' => e = .returned (.tuple #[]) ∧ ∃ v', Tb w0 p q g base (upR 7 l) (upB 7 l) (ks ++ [upV 7 l]) v' x' := by
  obtain ⟨av, cv, rfl⟩ := h.own.slice
  have H := Lib.hid h
  have c0 : x.drew.cell? ⟨p, 0, none⟩ = some (.slice av ks.length cv) := h.cp
  have c1 : x.drew.cell? ⟨q, 0, none⟩ = some (.pointer (some ⟨g, 0, none⟩)) := h.cq
  have hu := upto_part g l b 7 x.drew h.tk hl
  rw [show ((7 : Nat) : Int) = 7 from rfl] at hu
  have HU := Lib.hid hu
  have hf0 : x.drew.frozen? ⟨p, 0, none⟩ = false := h.fp
  clear hu
  have tv : IntKind.i64.wrap ((upV 7 l : Nat) : Int) = ((upV 7 l : Nat) : Int) := by have := upV_le 7 l; rw [IntKind.wrap_i64]; omega
  have hsz := h.sz
  have HXD : Hid (OwnI x.drew base (.slice av ks.length cv) ks) := h.own
  clear h
  generalize hk : upV 7 l = k at *
  clear hk
  go_enter Try.func104, Try.ntmps104
  go_wp2
  go_region_law
    (first
    | (go_simp; go_at_call 53; go_loud ((with_reducible refine HU.out.mono ?_); rintro e w7 ⟨rfl, hT7, hO7⟩; have HT7 := Lib.hid hT7; have HO7 := Lib.hid hO7; have hs7 := hO7.size; have d0 := (only_cell hO7 (b := p) (i := 0) (by show p < x.heap.size; omega) hpg).trans c0; have d1 := (only_cell hO7 (b := q) (i := 0) (by show q < x.heap.size; omega) hqg).trans c1; have HX7 := Lib.hid (HXD.out.only hO7 hgb); have m7 : ∀ o, (w7.alloc o).cell? ⟨p, 0, none⟩ = some (.slice av ks.length cv) := (fun o => (World.cell?_alloc_lt w7 o ⟨p, 0, none⟩ (by show p < _; have h9 : x.heap.size ≤ w7.heap.size := hs7; omega)).trans d0); have n7 : ∀ o, (w7.alloc o).cell? ⟨q, 0, none⟩ = some (.pointer (some ⟨g, 0, none⟩)) := (fun o => (World.cell?_alloc_lt w7 o ⟨q, 0, none⟩ (by show q < _; have h9 : x.heap.size ≤ w7.heap.size := hs7; omega)).trans d1); clear hT7 hO7))
    | (go_loud (refine step_int rfl (.tmp 2) (.tmp 6) rfl base (by have h9 : x.heap.size ≤ w7.heap.size := hs7; simp; omega) ks k _ rfl (HX7.out.al _) ⟨w7.heap.size, 0, none⟩ 1 rfl (by simp [go_sem, Addr.add]) h3 ?_; intro v8 w8 hown8 hg8; obtain ⟨a8, c8, rfl⟩ := hown8.slice; have f8 := (grown_frozen hg8 (b := p) (i := 0) (by have h9 : x.heap.size ≤ w7.heap.size := hs7; simp; omega) (HX7.out.far hpb)).trans ((World.frozen?_alloc_past (w := w7) (.cells #[.int .i64 (k : Nat)] 3) p 0 (by have h9 : x.heap.size ≤ w7.heap.size := hs7; omega)).trans ((only_frozen HO7.out (b := p) (i := 0) (by show p < x.heap.size; omega) hpg).trans hf0)); have hp8 : (w7.alloc (.cells #[.int .i64 (k : Nat)] 3)).cell? ⟨p, 0, none⟩ = some (.slice av ks.length cv) := m7 _; have hq8 := n7 (.cells #[.int .i64 (k : Nat)] 3); have hs8 := hg8.size; have r8 := fun j hj => HX7.out.far (g := j) hj; have d8 := (grown_cell hg8 (b := p) (i := 0) (by have h9 : x.heap.size ≤ w7.heap.size := hs7; simp; omega) (r8 p hpb)).trans hp8; have d9 := (grown_cell hg8 (b := q) (i := 0) (by have h9 : x.heap.size ≤ w7.heap.size := hs7; simp; omega) (r8 q hqb)).trans hq8)))
  all_goals
    go_wp2
    go_end0
    exact ⟨rfl, _, tb_end H.out hpb hqb hgb hpg hqg hqp HT7.out HO7.out hown8 hg8⟩
/-- Times of a taker: how many there are, and as often what stands behind. -/
theorem ttimes (fn : FuncId) (hE : ∀ args w, (callFunc fn args).run Try.prog w = .ok (.enter fn args) w) (c0 c1 : Value) (g m : Nat) (l : List UInt8) (b : Bool) (J : Nat → World → Prop) (w : World) (h : Tk w g l b) (hl : l.length ≤ maxLen)
    (hJ0 : ∀ w1, Only g w w1 → Tk w1 g (upR m l) (upB m l) → J 0 w1)
    (hstep : ∀ i, i < upV m l → ∀ x, J i x → Calls Try.prog fn #[c0, c1] x fun e x' => e = .returned (.tuple #[]) ∧ J (i + 1) x') :
    Calls Try.prog 56 #[.pointer (some ⟨g, 0, none⟩), .int .u64 (m : Nat), .func (.func fn) #[] #[c0, c1]] w fun e w' => e = .returned (.tuple #[]) ∧ J (upV m l) w' := by
  have HU := Lib.hid (upto_part g l b m w h hl)
  have HS := Lib.hid hstep
  have HJ0 := Lib.hid hJ0
  have hn : upV m l < 2 ^ 64 := by
    unfold upV
    split
    · omega
    · exact tnN_lt l
  clear h hstep hJ0
  generalize upV m l = n at *
  go_enter Try.func56, Try.ntmps56
  go_wp2_with (go_at_call 53; go_loud ((with_reducible refine HU.out.mono ?_); rintro e w1 ⟨rfl, h1, ho1⟩; have H1 := Lib.hid (HJ0.out _ ho1 h1); clear h1 ho1))
  go_wp2
  go_loopg [9] n (fun gg i wx => ∃ k : Nat, k + gg = n ∧ i = .int .u64 k ∧ Aside (J k wx))
  case atStart => exact ⟨0, by omega, rfl, H1.out⟩
  case round =>
    obtain ⟨k, hkg, rfl, HA⟩ := hrel
    cases gk with
    | zero =>
      obtain rfl : k = n := by omega
      clear hkg
      go_wp2
      go_end0
      exact ⟨rfl, HA.out⟩
    | succ gg =>
      have hlt : (k : Int) < (n : Int) := by omega
      have HK := Lib.hid (HS.out k (by omega) wr HA.out)
      have tk : IntKind.u64.wrap ((k : Int) + 1) = (k : Int) + 1 := by rw [IntKind.wrap_u64]; omega
      go_wp2_with fail
      refine HK.out.mono ?_
      rintro e w2 ⟨rfl, h2⟩
      have H2 := Lib.hid h2
      clear h2
      go_wp2
      go_roundg gg
      case measure => omega
      case rel => exact ⟨k + 1, by omega, by simp, H2.out⟩
/-- What is left, whether something is wrong, and what was taken, behind k numbers of replicas. -/
def mbR (l : List UInt8) : Nat → List UInt8
  | 0 => upR 7 l
  | k + 1 => upR 7 (mbR l k)
def mbB (l : List UInt8) : Nat → Bool
  | 0 => upB 7 l
  | k + 1 => upB 7 (mbR l k)
def mbL (l : List UInt8) : Nat → List Nat
  | 0 => []
  | k + 1 => mbL l k ++ [upV 7 (mbR l k)]
theorem mbR_length (l : List UInt8) : ∀ k, (mbR l k).length ≤ l.length
  | 0 => upR_length 7 l
  | k + 1 => Nat.le_trans (upR_length 7 _) (mbR_length l k)
theorem mbL_length (l : List UInt8) : ∀ k, (mbL l k).length = k
  | 0 => rfl
  | k + 1 => by rw [mbL, List.length_append, mbL_length l k]; rfl
theorem mbL_le (l : List UInt8) : ∀ k, ∀ x ∈ mbL l k, x ≤ 7
  | 0 => by intro x hx; simp [mbL] at hx
  | k + 1 => by
    intro x hx
    rw [mbL, List.mem_append] at hx
    rcases hx with hx | hx
    · exact mbL_le l k x hx
    · simp at hx; subst hx; exact upV_le 7 _
set_option maxHeartbeats 1000000 in
theorem members_take (g : Nat) (l : List UInt8) (b : Bool) (w : World) (h : Tk w g l b) (hl : l.length ≤ maxLen) :
    Calls Try.prog 97 #[.pointer (some ⟨g, 0, none⟩)] w fun e w' => ∃ v', e = .returned v' ∧ OwnI w' w.heap.size v' (mbL l (upV 7 l)) ∧ Tk w' g (mbR l (upV 7 l)) (mbB l (upV 7 l)) ∧ Only g w w' := by
  have hmf : ∀ (fn : Fn) (first cap : Array Value) (w : World), (Instr.makeFunc fn first cap).run Try.prog w = .ok (.func fn first cap) w := fun _ _ _ _ => rfl
  have hlt := h.lt
  have hv := upV_le 7 l
  generalize hW2 : (w.alloc (.cells #[.pointer (some ⟨g, 0, none⟩)] 96)).alloc (.cells #[.slice none 0 0] 25) = W2
  have z2 : W2.heap.size = w.heap.size + 2 := by rw [← hW2]; simp
  have cp2 : W2.cell? ⟨w.heap.size + 1, 0, none⟩ = some (.slice none 0 0) := by rw [← hW2]; simp [go_sem]
  have fp2 : W2.frozen? ⟨w.heap.size + 1, 0, none⟩ = false := by rw [← hW2]; simp [go_sem]
  have cq2 : W2.cell? ⟨w.heap.size, 0, none⟩ = some (.pointer (some ⟨g, 0, none⟩)) := by rw [← hW2]; simp [go_sem]
  have b2 : Below w.heap.size w W2 := by rw [← hW2]; exact ((Below.refl _ _).alloc (Nat.le_refl _) _).alloc (by simp) _
  have HT : Hid (Calls Try.prog 56 #[.pointer (some ⟨g, 0, none⟩), .int .u64 7, .func (.func 104) #[] #[.pointer (some ⟨w.heap.size + 1, 0, none⟩), .pointer (some ⟨w.heap.size, 0, none⟩)]]
      W2 fun e w' => e = .returned (.tuple #[]) ∧ ∃ v', Tb W2 (w.heap.size + 1) w.heap.size g (w.heap.size + 2) (mbR l (upV 7 l)) (mbB l (upV 7 l)) (mbL l (upV 7 l)) v' w') := by
    refine ttimes _ (Go.Proofs.enters_of Try.func104 (by kernel_rfl) rfl) _ _ g 7 l b (fun k x => ∃ v', Tb W2 (w.heap.size + 1) w.heap.size g (w.heap.size + 2) (mbR l k) (mbB l k) (mbL l k) v' x) _ ?_ hl ?_ ?_
    · exact h.below b2 hlt
    · intro w1 ho ht
      have hz := ho.size
      refine ⟨.slice none 0 0, ht, OwnI.nil _ _, ?_, ?_, ?_, by omega, Two.of_only ho (by omega)⟩
      · rw [only_cell ho (by omega) (by omega)]; exact cp2
      · rw [only_frozen ho (by omega) (by omega)]; exact fp2
      · rw [only_cell ho (by omega) (by omega)]; exact cq2
    · rintro i hi x ⟨v', hx⟩
      refine (tclo W2 (w.heap.size + 1) w.heap.size g (w.heap.size + 2) _ _ _ v' x hx (Nat.le_trans (mbR_length l i) hl) (by rw [mbL_length]; omega) (by omega) (by omega) (by omega) (by omega) (by omega) (by omega)).mono ?_
      rintro e x' ⟨he, v2, h2⟩
      exact ⟨he, v2, h2⟩
  have HB2 := Lib.hid b2
  subst hW2
  clear h b2
  generalize upV 7 l = n at *
  go_enter Try.func97, Try.ntmps97
  go_wp2_with (go_at_call 56; go_loud ((with_reducible refine HT.out.mono ?_); rintro e w1 ⟨rfl, v', hTb⟩; obtain ⟨a1, c1, rfl⟩ := hTb.own.slice; have d1 := hTb.cp; have HTb := Lib.hid hTb; clear hTb))
  go_wp2
  go_ret
  refine ⟨_, rfl, HTb.out.own.less (by omega), HTb.out.tk, ?_⟩
  have t := HTb.out.fr
  refine ⟨t.1.trans HB2.out.os, t.2.1.trans HB2.out.tape, t.2.2.1.trans HB2.out.output, Nat.le_trans HB2.out.size t.2.2.2.1, fun i h1 h2 => ?_⟩
  exact (t.2.2.2.2 i (by omega) (fun e => h2 (by rw [e])) (by omega)).trans (HB2.out.block i h1)
end Hd
end Go.Proofs.Ytlkdjnnlbccjdaa
