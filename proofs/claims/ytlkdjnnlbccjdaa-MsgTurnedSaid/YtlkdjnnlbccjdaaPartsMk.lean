/-
  A MAKER OF PARTS: parts.Maker's Number, Text, Bytes.
-/
import Derived.Test.YtlkdjnnlbccjdaaPackText
import Derived.Laws.Externs
import Derived.Lib.OthersKept
import Derived.Lib.Builder
import Derived.Lib.AppendStr
import Derived.Lib.UnsafeStr
import Derived.Deep.RegionWith
import Derived.Deep.LoopGhost
namespace Go.Proofs.Ytlkdjnnlbccjdaa
open Go.RowKit
namespace Hd
open PM
/-- A variable of type T lies as a builder does. -/
def Fits (T : TypeId) : Prop := liesAt Try.prog Try.prog.depth T (2 / Try.prog.cellsOf T) 0 44 1 = true ∧ T ≠ 5
theorem fits_maker : Fits 46 := ⟨by kernel_rfl, by decide⟩
/-- Block g is a maker: the bytes l were made; all that it has lies from B on. -/
def Mk (w : World) (B g : Nat) (l : List UInt8) : Prop := ∃ T, Fits T ∧ Lib.IsBuilder T 5 B g (Lib.byteCells l) w
/-- Nothing has turned but block g, and rows of bytes from B on. -/
def Fr (B g : Nat) (w w' : World) : Prop := Below B w w' ∧ Lib.OthersKept 5 (some g) w w'
theorem Fr.refl (B g : Nat) (w : World) : Fr B g w w := ⟨Below.refl B w, Lib.OthersKept.refl _ _ w⟩
theorem Fr.trans {B g : Nat} {a b c : World} (h : Fr B g a b) (k : Fr B g b c) : Fr B g a c := ⟨h.1.trans k.1, h.2.trans k.2⟩
theorem kept_of_below {e : TypeId} {b : Option Nat} {w w' : World} (h : Below w.heap.size w w') : Lib.OthersKept e b w w' := by
  intro k o hk _ _
  have hlt : k < w.heap.size := (Array.getElem?_eq_some_iff.1 hk).1
  exact (h.block k hlt).trans hk
theorem Fr.of_below {B g : Nat} {w w' : World} (h : Below w.heap.size w w') (hB : B ≤ w.heap.size) : Fr B g w w' := ⟨h.mono hB, kept_of_below h⟩
theorem Fr.keep {B g b : Nat} {w w' : World} {cs : Array Value} {T : TypeId} (h : Fr B g w w') (hk : w.heap[b]? = some (.cells cs T (0, 0))) (hb : b ≠ g) (hT : T ≠ 5) : w'.heap[b]? = some (.cells cs T (0, 0)) :=
  h.2 b _ hk (by intro e; exact hb (Option.some.inj e)) (by intro c fz e; injection e with e1 e2; exact hT e2)
theorem own_keep {w w' : World} {base : Nat} {e : TypeId} {size n : Nat} {v : Value} {xs : List Value} (h : w.ownsRow base e size v n xs) (hb : Below w.heap.size w w') : w'.ownsRow base e size v n xs := by
  refine ⟨h.1, ?_⟩
  rcases h.2 with h2 | ⟨g, cap, cur, h3, h4, h5, h6⟩
  · exact .inl h2
  · exact .inr ⟨g, cap, cur, h3, h4, (hb.block g ((Array.getElem?_eq_some_iff.1 h5).1)).trans h5, h6⟩
theorem bat_keep {T e : TypeId} {B b : Nat} {p : Value} {xs : List Value} {w w' : World} (h : Lib.BuilderAt T e B b p xs w) (hb : Below w.heap.size w w') : Lib.BuilderAt T e B b p xs w' := by
  have hlt := h.lt
  obtain ⟨hB, v, hv, ho, hn⟩ := h
  exact ⟨hB, v, (hb.block b hlt).trans hv, own_keep ho hb, hn⟩
theorem Mk.below {w w' : World} {B g : Nat} {l : List UInt8} (h : Mk w B g l) (hb : Below w.heap.size w w') : Mk w' B g l := by
  obtain ⟨T, hT, h1⟩ := h
  exact ⟨T, hT, h1.elim (fun x => .inl (bat_keep x hb)) (fun x => .inr (bat_keep x hb))⟩
theorem Mk.lt {w : World} {B g : Nat} {l : List UInt8} (h : Mk w B g l) : g < w.heap.size := by
  obtain ⟨T, hT, h1⟩ := h
  exact h1.elim (fun x => x.lt) (fun x => x.lt)
theorem Mk.le {w : World} {B g : Nat} {l : List UInt8} (h : Mk w B g l) : B ≤ g := by
  obtain ⟨T, hT, h1⟩ := h
  exact h1.elim (fun x => x.1) (fun x => x.1)
theorem Mk.made (T : TypeId) (hT : Fits T) (w : World) : Mk (w.alloc (.cells #[.pointer none, .slice none 0 0] T)) w.heap.size w.heap.size [] :=
  ⟨T, hT, .inl ⟨Nat.le_refl _, .slice none 0 0, heap_alloc_new w _, ⟨rfl, .inl ⟨rfl, rfl⟩⟩, by simp [Value.ownBlock]⟩⟩
theorem info_bld : (Try.prog.info? 44).map (·.size) = some 2 := by kernel_rfl
set_option maxHeartbeats 1000000 in
set_option maxRecDepth 100000 in
theorem cc_used (b : Nat) (w : World) (h0 : w.cell? ⟨b, 0, none⟩ = some (.pointer (some ⟨b, 0, none⟩))) :
    Calls Try.prog 91 #[.pointer (some ⟨b, 0, none⟩)] w fun e w' => e = .returned (.tuple #[]) ∧ w' = w := by
  obtain ⟨j, hj, -⟩ := Option.map_eq_some_iff.1 info_bld
  go_enter Try.func91, Try.ntmps91
  go_wp2
  rw [Lib.run_neq_ptr_same w _ Try.underlying42 hj]
  go_wp2
  go_end0
  exact ⟨rfl, rfl⟩
set_option maxHeartbeats 1000000 in
set_option maxRecDepth 100000 in
theorem cc_fresh (T : TypeId) (hT : Fits T) (b : Nat) (w : World) (h0 : w.cell? ⟨b, 0, none⟩ = some (.pointer none)) (hsh : w.shape? b = some (T, 2)) (hfz : w.frozen? ⟨b, 0, none⟩ = false) :
    Calls Try.prog 91 #[.pointer (some ⟨b, 0, none⟩)] w fun e w' => e = .returned (.tuple #[]) ∧ w' = w.setCell ⟨b, 0, none⟩ (.pointer (some ⟨b, 0, none⟩)) := by
  obtain ⟨j, hj, hjs⟩ := Option.map_eq_some_iff.1 info_bld
  have HL := Lib.hid hT.1
  clear hT
  go_enter Try.func91, Try.ntmps91
  go_wp2
  rw [Lib.run_to_unsafe w ⟨b, 0, none⟩ Try.underlying42 Try.underlying138 hj (by rw [hjs]; decide) hsh (Nat.zero_lt_succ 1)]
  simp only [Result.andThen]
  rw [Oper.upon_value]
  go_wp2
  rw [run_callFunc_extern Try.func102 (by kernel_rfl) (by kernel_rfl) (by kernel_rfl) (e := Extern.AbiNoEscape.same) (by kernel_rfl)]
  rw [Lib.run_noEscape]
  simp only [Result.andThen]
  rw [Oper.upon_value]
  go_wp2
  rw [Lib.run_from_unsafe w ⟨b, 0, none⟩ Try.underlying138 Try.underlying42 hj hsh HL.out]
  simp only [Result.andThen]
  rw [Oper.upon_value]
  go_wp2
  go_end0
  exact ⟨rfl, rfl⟩
theorem cc_any (T : TypeId) (hT : Fits T) (B b : Nat) (xs : List Value) (w : World) (h : Lib.IsBuilder T 5 B b xs w) :
    Calls Try.prog 91 #[.pointer (some ⟨b, 0, none⟩)] w fun e w' => e = .returned (.tuple #[]) ∧ Lib.BuilderAt T 5 B b (.pointer (some ⟨b, 0, none⟩)) xs w' ∧ Fr B b w w' := by
  rcases h with h | h
  · refine (cc_fresh T hT b w h.cell0 h.shape h.frozen0).mono ?_
    rintro e w' ⟨rfl, rfl⟩
    exact ⟨rfl, h.used _, (Below.refl B w).setCell (p := ⟨b, 0, none⟩) h.1 _, (Lib.OthersKept.refl _ _ w).setCell ⟨b, 0, none⟩ rfl _⟩
  · refine (cc_used b w h.cell0).mono ?_
    rintro e w' ⟨rfl, rfl⟩
    exact ⟨rfl, h, Fr.refl _ _ _⟩
set_option maxHeartbeats 2000000 in
set_option maxRecDepth 100000 in
theorem write_any (B g : Nat) (l m : List UInt8) (w : World) (h : Mk w B g l) (hlen : l.length + m.length ≤ 140737488355328) (hBw : B ≤ w.heap.size) :
    Calls Try.prog 73 #[.pointer (some ⟨g, 0, none⟩), .string (bs m)] w fun e w' => (∃ x, e = .returned (.tuple #[x, .nilIface])) ∧ Mk w' B g (l ++ m) ∧ Fr B g w w' := by
  obtain ⟨T, hT, hb⟩ := h
  obtain ⟨i0, hi, hrest⟩ := Option.map_eq_some_iff.1 PackBytes.info_u8
  injection hrest with hz0 hz1
  injection hz1 with hz1 hz2
  have HT := Lib.hid hT
  have HCC := Lib.hid (cc_any T hT B g _ w hb)
  have hsz : (bs m).size = m.length := bs_size m
  clear hT hb
  go_enter Try.func73, Try.ntmps73
  go_wp2_with (go_at_call 91; refine HCC.out.mono ?_)
  rintro e w1 ⟨rfl, ⟨hB, v, hbk, hown, hne⟩, hf1⟩
  have HF1 := Lib.hid hf1
  have hs1 := hf1.1.size
  have c0 : w1.cell? ⟨g, 0, none⟩ = some (.pointer (some ⟨g, 0, none⟩)) := by rw [Lib.cell_of_heap hbk]; rfl
  have c1 : w1.cell? ⟨g, 1, none⟩ = some v := by rw [Lib.cell_of_heap hbk]; rfl
  clear hf1
  rw [Lib.byteCells_length] at hown
  go_wp2_with (at_builtin; refine Lib.wpList_append_own_string _ rfl _ _ 39 9 rfl B 5 i0 Try.underlying39 Try.underlying9 hi hz0 hz1 hz2 _ _ _ rfl hown (bs m) rfl ?c3 ?c4 ?c5 ?_)
  case c3 => unfold maxLen; omega
  case c4 => omega
  case c5 => omega
  intro v' w2 hown' hgrow _
  have hlt : g < w1.heap.size := (Array.getElem?_eq_some_iff.1 hbk).1
  have hb2 : w2.heap[g]? = some (.cells #[.pointer (some ⟨g, 0, none⟩), v] T (0, 0)) := by
    rw [hgrow.block g hlt (fun e => hne e.symm)]
    exact hbk
  have d0 : w2.cell? ⟨g, 0, none⟩ = some (.pointer (some ⟨g, 0, none⟩)) := by rw [Lib.cell_of_heap hb2]; rfl
  have d1 : w2.cell? ⟨g, 1, none⟩ = some v := by rw [Lib.cell_of_heap hb2]; rfl
  have f1 : w2.frozen? ⟨g, 1, none⟩ = false := Lib.frozen_of_heap hb2 1
  have hrow : ∀ k, v.ownBlock = some k → B ≤ k := fun k hk => (hown.lt k hk).1
  have hkind : ∀ k, v.ownBlock = some k → ∃ c fz, w1.heap[k]? = some (.cells c 5 fz) := by
    intro k hk
    rcases hown.2 with ⟨rfl, _⟩ | ⟨g', cap, cur, rfl, _, hgg, _⟩
    · simp [Value.ownBlock] at hk
    · simp [Value.ownBlock] at hk
      subst hk
      exact ⟨cur, _, hgg⟩
  have HG := Lib.hid hgrow
  have HO := Lib.hid hown'
  obtain ⟨ao, n', cap, rfl⟩ : ∃ ao n' cap, v' = .slice ao n' cap := by
    rcases hown'.2 with ⟨hv, _⟩ | ⟨_, cap, cur, hv, _⟩
    · exact ⟨_, _, _, hv⟩
    · exact ⟨_, _, _, hv⟩
  have HK := Lib.hid (And.intro hrow hkind)
  have HB2 := Lib.hid hb2
  clear hgrow hown' hown hbk hne hrow hkind hb2 c0 c1 hi hz0 hz1 hz2
  go_wp2
  go_ret2
  refine ⟨⟨_, rfl⟩, ⟨T, HT.out, .inr ?_⟩, ?_, ?_⟩
  · refine Lib.BuilderAt.put (T := T) (e := 5) hB HB2.out (bs' := Lib.byteCells (l ++ m)) ?_ HT.out.2
    rw [Lib.byteCells_length, List.length_append, Lib.byteCells_append, ← hsz]
    exact HO.out
  · exact (HF1.out.1.grown HG.out (by omega) HK.out.1).setCell (p := ⟨g, 1, none⟩) hB _
  · exact (HF1.out.2.grown HG.out HK.out.2).setCell ⟨g, 1, none⟩ rfl _
set_option maxHeartbeats 1000000 in
theorem mk_number (B g : Nat) (l : List UInt8) (n : Nat) (w : World) (h : Mk w B g l) (hn : n < 2 ^ 64) (hlen : l.length ≤ 100000000000000) (hBw : B ≤ w.heap.size) :
    Calls Try.prog 35 #[.pointer (some ⟨g, 0, none⟩), .int .u64 (n : Nat)] w fun e w' => e = .returned (.tuple #[]) ∧ Mk w' B g (l ++ num n) ∧ Fr B g w w' := by
  have H := Lib.hid h
  have HN := Lib.hid (fun w => PackBytes.number_own n w hn)
  have hm : (num n).length ≤ 9 := by rw [num_length]; have := (nsz_spec n hn).1; omega
  have HW := Lib.hid (fun w1 (h1 : Mk w1 B g l) (hB : B ≤ w1.heap.size) => write_any B g l (num n) w1 h1 (by omega) hB)
  clear h hm hn hlen
  generalize hq : num n = q at *
  clear hq
  go_enter Try.func35, Try.ntmps35
  go_wp2
  go_region_with (first
    | (go_at_call 74; refine (HN.out _).mono ?_; rintro e w1 ⟨rfl, hb⟩; have hb2 := (((Below.refl w.heap.size w).drew).trans hb); have HF := Lib.hid (Fr.of_below (B := B) (g := g) hb2 hBw); have HM := Lib.hid (H.out.below hb2); have hB1 : B ≤ w1.heap.size := Nat.le_trans hBw hb2.size; clear hb hb2)
    | (go_at_call 73; refine (HW.out _ HM.out hB1).mono ?_; rintro e w2 ⟨⟨x, rfl⟩, h2, hf2⟩; have H2 := Lib.hid h2; have HF2 := Lib.hid (HF.out.trans hf2); clear h2 hf2))
  all_goals
    go_wp2
    go_end0
    exact ⟨rfl, H2.out, HF2.out⟩
set_option maxHeartbeats 1000000 in
theorem mk_text (B g : Nat) (l : List UInt8) (s : ByteArray) (w : World) (h : Mk w B g l) (hs : s.size ≤ 1000000) (hlen : l.length ≤ 100000000000000) (hBw : B ≤ w.heap.size) :
    Calls Try.prog 76 #[.pointer (some ⟨g, 0, none⟩), .string s] w fun e w' => e = .returned (.tuple #[]) ∧ Mk w' B g (l ++ txt s.data.toList) ∧ Fr B g w w' := by
  have H := Lib.hid h
  have HN := Lib.hid (fun w => PackText.text_own s w (by show s.size ≤ 140737488351232; omega))
  have hm : (txt s.data.toList).length ≤ 1000009 := by
    unfold txt
    rw [List.length_append, num_length]
    have := (nsz_spec s.data.toList.length (by show s.size < _; omega)).1
    show 1 + _ + s.size ≤ _
    omega
  have HW := Lib.hid (fun w1 (h1 : Mk w1 B g l) (hB : B ≤ w1.heap.size) => write_any B g l (txt s.data.toList) w1 h1 (by omega) hB)
  unfold PackText.txtB at HN
  clear h hm hlen
  generalize hq : txt s.data.toList = q at *
  clear hq
  go_enter Try.func76, Try.ntmps76
  go_wp2
  go_region_with (first
    | (go_at_call 94; refine (HN.out _).mono ?_; rintro e w1 ⟨rfl, hb⟩; have hb2 := (((Below.refl w.heap.size w).drew).trans hb); have HF := Lib.hid (Fr.of_below (B := B) (g := g) hb2 hBw); have HM := Lib.hid (H.out.below hb2); have hB1 : B ≤ w1.heap.size := Nat.le_trans hBw hb2.size; clear hb hb2)
    | (go_at_call 73; refine (HW.out _ HM.out hB1).mono ?_; rintro e w2 ⟨⟨x, rfl⟩, h2, hf2⟩; have H2 := Lib.hid h2; have HF2 := Lib.hid (HF.out.trans hf2); clear h2 hf2))
  all_goals
    go_wp2
    go_end0
    exact ⟨rfl, H2.out, HF2.out⟩
theorem cells_u8 : Try.prog.cellsOf 5 = 1 := by kernel_rfl
set_option maxHeartbeats 1000000 in
set_option maxRecDepth 100000 in
theorem string_any (B g : Nat) (l : List UInt8) (w : World) (h : Mk w B g l) (h0 : l ≠ []) :
    Calls Try.prog 43 #[.pointer (some ⟨g, 0, none⟩)] w fun e w' => e = .returned (.string (bs l)) ∧ Below B w w' := by
  obtain ⟨T, -, hb⟩ := h
  obtain ⟨p, -, v, hbk, hown, -⟩ : ∃ p, Lib.BuilderAt T 5 B g p (Lib.byteCells l) w := hb.elim (fun x => ⟨_, x⟩) (fun x => ⟨_, x⟩)
  have hl0 : l.length ≠ 0 := by simpa using h0
  rw [Lib.byteCells_length] at hown
  rcases hown.2 with ⟨_, hz⟩ | ⟨k, cap, cur, rfl, hBk, hk, hnc, hcm, hcs, htake⟩
  · exact absurd hz hl0
  have hk' : w.drew.heap[k]? = some (.cells cur 5 (0, 0)) := hk
  have c1 : w.drew.cell? ⟨g, 1, none⟩ = some (.slice (some ⟨k, 0, none⟩) l.length cap) := by
    have : w.drew.heap[g]? = some (.cells #[p, .slice (some ⟨k, 0, none⟩) l.length cap] T (0, 0)) := hbk
    rw [Lib.cell_of_heap this]; rfl
  have hSD : (Builtin.unsafeSliceData_ #[39] 117 #[.slice (some ⟨k, 0, none⟩) l.length cap]).run Try.prog w.drew = .ok (.pointer (some ⟨k, 0, none⟩)) w.drew :=
    Lib.run_unsafeSliceData_row _ _ _ _ _ _ (by omega)
  have hUS : (Builtin.unsafeString_ #[117, 3] 9 #[.pointer (some ⟨k, 0, none⟩), .int .i64 l.length]).run Try.prog w.drew = .ok (.string (bs l)) (w.drew.freeze ⟨k, 0, none⟩ l.length) := by
    refine Lib.run_unsafeString_row w.drew 117 3 9 5 Try.underlying117 cells_u8 k cur.size (by simp [World.shape?, hk']) l h0 (by omega) (by unfold maxLen at hcm; omega) ?_
    intro j x hx
    exact hown.cells (g := k) rfl j (.int .u8 x.toNat) (by simp [Lib.byteCells, hx])
  have HB : Hid (Below B w (w.drew.freeze ⟨k, 0, none⟩ l.length)) := Lib.below_freeze ((Below.refl B w).drew) (p := ⟨k, 0, none⟩) hBk _
  clear hown hbk hk hk' htake hb
  go_enter Try.func43, Try.ntmps43
  go_wp2
  go_region
  all_goals
    go_wp2
    go_ret
    exact ⟨rfl, HB.out⟩
set_option maxHeartbeats 1000000 in
theorem mk_bytes (B g : Nat) (l : List UInt8) (w : World) (h : Mk w B g l) (h0 : l ≠ []) :
    Calls Try.prog 19 #[.pointer (some ⟨g, 0, none⟩)] w fun e w' => e = .returned (.string (bs l)) ∧ Below B w w' := by
  have HS := Lib.hid (string_any B g l w h h0)
  clear h h0
  generalize bs l = q at *
  go_enter Try.func19, Try.ntmps19
  go_wp2_with (go_at_call 43; go_loud ((with_reducible refine HS.out.mono ?_); rintro e w1 ⟨rfl, hb⟩; have HB := Lib.hid hb; clear hb))
  go_wp2
  go_ret
  exact ⟨rfl, HB.out⟩
set_option maxRecDepth 100000 in
set_option maxHeartbeats 1000000 in
/-- Times of a maker: how many, and each. -/
theorem mtimes (fn : FuncId) (hE : ∀ args w, (callFunc fn args).run Try.prog w = .ok (.enter fn args) w) (c0 c1 : Value) (B g n : Nat) (l : List UInt8) (L : Nat → List UInt8) (J : World → Prop) (w : World)
    (h : Mk w B g l) (hn : n ≤ 1000000) (hlen : l.length ≤ 100000000000000) (hBw : B ≤ w.heap.size) (hL : L 0 = l ++ num n) (hJ : ∀ x x', J x → Fr B g x x' → J x') (hJ0 : J w)
    (hstep : ∀ i, i < n → ∀ x, Mk x B g (L i) → J x → B ≤ x.heap.size → Calls Try.prog fn #[.int .i64 (i : Nat), c0, c1] x fun e x' => e = .returned (.tuple #[]) ∧ Mk x' B g (L (i + 1)) ∧ Fr B g x x') :
    Calls Try.prog 37 #[.pointer (some ⟨g, 0, none⟩), .int .i64 (n : Nat), .func (.func fn) #[] #[c0, c1]] w fun e w' => e = .returned (.tuple #[]) ∧ Mk w' B g (L n) ∧ Fr B g w w' := by
  have tn : IntKind.u64.wrap (n : Int) = (n : Int) := by rw [IntKind.wrap_u64]; omega
  have HN := Lib.hid (mk_number B g l n w h (by omega) hlen hBw)
  have HS := Lib.hid hstep
  have HJ := Lib.hid hJ
  have HJ0 := Lib.hid hJ0
  rw [← hL] at HN
  clear h hstep hJ hJ0 hL hlen
  go_enter Try.func37, Try.ntmps37
  go_wp2_with (go_at_call 35; go_loud ((with_reducible refine HN.out.mono ?_); rintro e w1 ⟨rfl, h1, hf1⟩; have H1 := Lib.hid h1; have HF1 := Lib.hid hf1; clear h1 hf1))
  go_wp2
  go_loopg [12] n (fun gg i wx => ∃ k : Nat, k + gg = n ∧ i = .int .i64 k ∧ Aside (Mk wx B g (L k) ∧ J wx ∧ B ≤ wx.heap.size ∧ Fr B g w wx))
  case atStart => exact ⟨0, by omega, rfl, H1.out, HJ.out _ _ HJ0.out HF1.out, Nat.le_trans hBw HF1.out.1.size, HF1.out⟩
  case round =>
    obtain ⟨k, hkg, rfl, HA⟩ := hrel
    cases gk with
    | zero =>
      obtain rfl : k = n := by omega
      clear hkg
      go_wp2
      go_end0
      exact ⟨rfl, HA.out.1, HA.out.2.2.2⟩
    | succ gg =>
      have hlt : (k : Int) < (n : Int) := by omega
      have HK := Lib.hid (HS.out k (by omega) wr HA.out.1 HA.out.2.1 HA.out.2.2.1)
      have tk : IntKind.i64.wrap ((k : Int) + 1) = (k : Int) + 1 := by rw [IntKind.wrap_i64]; omega
      go_wp2_with fail
      refine HK.out.mono ?_
      rintro e w2 ⟨rfl, h2, hf2⟩
      have H2 := Lib.hid h2
      have HF2 := Lib.hid hf2
      clear h2 hf2
      go_wp2
      go_roundg gg
      case measure => omega
      case rel => exact ⟨k + 1, by omega, by simp, H2.out, HJ.out _ _ HA.out.2.1 HF2.out, Nat.le_trans HA.out.2.2.1 HF2.out.1.size, HA.out.2.2.2.trans HF2.out⟩
end Hd
end Go.Proofs.Ytlkdjnnlbccjdaa
