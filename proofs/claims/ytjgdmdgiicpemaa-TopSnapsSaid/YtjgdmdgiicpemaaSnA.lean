/-
  Merged: PartsMk, PartsMb, SnapChk, SnapEnc, SnapDec, SnapMath.
-/
import Derived.Test.YtjgdmdgiicpemaaPackText
import Derived.Laws.Externs
import Derived.Lib.OthersKept
import Derived.Lib.Builder
import Derived.Lib.AppendStr
import Derived.Lib.UnsafeStr
import Derived.Deep.RegionWith
import Derived.Deep.LoopGhost
import Derived.Test.YtjgdmdgiicpemaaHardPart
import Derived.Test.YtjgdmdgiicpemaaDkM
import Derived.Deep.RegionLaw
import Derived.Laws.OwnMore
import Derived.Deep.OwnRows
import Derived.Shelf.Abstract
import Derived.Deep.RegionHeld3
/- A MAKER OF PARTS: parts.Maker's Number, Text, Bytes. -/
namespace Go.Proofs.Ytjgdmdgiicpemaa
open Go.RowKit
namespace Hd
open PM
/-- A variable of type T lies as a builder does. -/
def Fits (T : TypeId) : Prop := liesAt Try.prog Try.prog.depth T (2 / Try.prog.cellsOf T) 0 95 1 = true ∧ T ≠ 5
theorem fits_maker : Fits 97 := ⟨by kernel_rfl, by decide⟩
/-- Block g is a maker: the bytes l were made; all that it has lies from B on. -/
def Mk (w : World) (B g : Nat) (l : List UInt8) : Prop := ∃ T, Fits T ∧ Lib.IsBuilder T 5 B g (Lib.byteCells l) w
/-- Nothing has turned but block g, and rows of bytes from B on. -/
def Fr (B g : Nat) (w w' : World) : Prop := Below B w w' ∧ Lib.OthersKept 5 (some g) w w'
theorem Fr.refl (B g : Nat) (w : World) : Fr B g w w := ⟨Below.refl B w, Lib.OthersKept.refl _ _ w⟩
theorem Fr.trans {B g : Nat} {a b c : World} (h : Fr B g a b) (k : Fr B g b c) : Fr B g a c := ⟨h.1.trans k.1, h.2.trans k.2⟩
theorem kept_of_below {e : TypeId} {b : Option Nat} {w w' : World} (h : Below w.heap.size w w') : Lib.OthersKept e b w w' := by
  intro k o hk _ _
  have hlt : k < w.heap.size := (Array.getElem?_eq_some_iff.1 hk).1
  exact (h.block k hlt).trans hk
theorem Fr.of_below {B g : Nat} {w w' : World} (h : Below w.heap.size w w') (hB : B ≤ w.heap.size) : Fr B g w w' := ⟨h.mono hB, kept_of_below h⟩
theorem Fr.keep {B g b : Nat} {w w' : World} {cs : Array Value} {T : TypeId} (h : Fr B g w w') (hk : w.heap[b]? = some (.cells cs T (0, 0))) (hb : b ≠ g) (hT : T ≠ 5) : w'.heap[b]? = some (.cells cs T (0, 0)) :=
  h.2 b _ hk (by intro e; exact hb (Option.some.inj e)) (by intro c fz e; injection e with e1 e2; exact hT e2)
theorem own_keep {w w' : World} {base : Nat} {e : TypeId} {size n : Nat} {v : Value} {xs : List Value} (h : w.ownsRow base e size v n xs) (hb : Below w.heap.size w w') : w'.ownsRow base e size v n xs := by
  refine ⟨h.1, ?_⟩
  rcases h.2 with h2 | ⟨g, cap, cur, h3, h4, h5, h6⟩
  · exact .inl h2
  · exact .inr ⟨g, cap, cur, h3, h4, (hb.block g ((Array.getElem?_eq_some_iff.1 h5).1)).trans h5, h6⟩
theorem bat_keep {T e : TypeId} {B b : Nat} {p : Value} {xs : List Value} {w w' : World} (h : Lib.BuilderAt T e B b p xs w) (hb : Below w.heap.size w w') : Lib.BuilderAt T e B b p xs w' := by
  have hlt := h.lt
  obtain ⟨hB, v, hv, ho, hn⟩ := h
  exact ⟨hB, v, (hb.block b hlt).trans hv, own_keep ho hb, hn⟩
theorem Mk.below {w w' : World} {B g : Nat} {l : List UInt8} (h : Mk w B g l) (hb : Below w.heap.size w w') : Mk w' B g l := by
  obtain ⟨T, hT, h1⟩ := h
  exact ⟨T, hT, h1.elim (fun x => .inl (bat_keep x hb)) (fun x => .inr (bat_keep x hb))⟩
theorem Mk.lt {w : World} {B g : Nat} {l : List UInt8} (h : Mk w B g l) : g < w.heap.size := by
  obtain ⟨T, hT, h1⟩ := h
  exact h1.elim (fun x => x.lt) (fun x => x.lt)
theorem Mk.le {w : World} {B g : Nat} {l : List UInt8} (h : Mk w B g l) : B ≤ g := by
  obtain ⟨T, hT, h1⟩ := h
  exact h1.elim (fun x => x.1) (fun x => x.1)
theorem Mk.made (T : TypeId) (hT : Fits T) (w : World) : Mk (w.alloc (.cells #[.pointer none, .slice none 0 0] T)) w.heap.size w.heap.size [] :=
  ⟨T, hT, .inl ⟨Nat.le_refl _, .slice none 0 0, heap_alloc_new w _, ⟨rfl, .inl ⟨rfl, rfl⟩⟩, by simp [Value.ownBlock]⟩⟩
theorem info_bld : (Try.prog.info? 95).map (·.size) = some 2 := by kernel_rfl
set_option maxHeartbeats 1000000 in
set_option maxRecDepth 100000 in
theorem cc_used (b : Nat) (w : World) (h0 : w.cell? ⟨b, 0, none⟩ = some (.pointer (some ⟨b, 0, none⟩))) :
    Calls Try.prog 74 #[.pointer (some ⟨b, 0, none⟩)] w fun e w' => e = .returned (.tuple #[]) ∧ w' = w := by
  obtain ⟨j, hj, -⟩ := Option.map_eq_some_iff.1 info_bld
  go_enter Try.func74, Try.ntmps74
  go_wp2
  rw [Lib.run_neq_ptr_same w _ Try.underlying93 hj]
  go_wp2
  go_end0
  exact ⟨rfl, rfl⟩
set_option maxHeartbeats 1000000 in
set_option maxRecDepth 100000 in
theorem cc_fresh (T : TypeId) (hT : Fits T) (b : Nat) (w : World) (h0 : w.cell? ⟨b, 0, none⟩ = some (.pointer none)) (hsh : w.shape? b = some (T, 2)) (hfz : w.frozen? ⟨b, 0, none⟩ = false) :
    Calls Try.prog 74 #[.pointer (some ⟨b, 0, none⟩)] w fun e w' => e = .returned (.tuple #[]) ∧ w' = w.setCell ⟨b, 0, none⟩ (.pointer (some ⟨b, 0, none⟩)) := by
  obtain ⟨j, hj, hjs⟩ := Option.map_eq_some_iff.1 info_bld
  have HL := Lib.hid hT.1
  clear hT
  go_enter Try.func74, Try.ntmps74
  go_wp2
  rw [Lib.run_to_unsafe w ⟨b, 0, none⟩ Try.underlying93 Try.underlying125 hj (by rw [hjs]; decide) hsh (Nat.zero_lt_succ 1)]
  simp only [Result.andThen]
  rw [Oper.upon_value]
  go_wp2
  rw [run_callFunc_extern Try.func77 (by kernel_rfl) (by kernel_rfl) (by kernel_rfl) (e := Extern.AbiNoEscape.same) (by kernel_rfl)]
  rw [Lib.run_noEscape]
  simp only [Result.andThen]
  rw [Oper.upon_value]
  go_wp2
  rw [Lib.run_from_unsafe w ⟨b, 0, none⟩ Try.underlying125 Try.underlying93 hj hsh HL.out]
  simp only [Result.andThen]
  rw [Oper.upon_value]
  go_wp2
  go_end0
  exact ⟨rfl, rfl⟩
theorem cc_any (T : TypeId) (hT : Fits T) (B b : Nat) (xs : List Value) (w : World) (h : Lib.IsBuilder T 5 B b xs w) :
    Calls Try.prog 74 #[.pointer (some ⟨b, 0, none⟩)] w fun e w' => e = .returned (.tuple #[]) ∧ Lib.BuilderAt T 5 B b (.pointer (some ⟨b, 0, none⟩)) xs w' ∧ Fr B b w w' := by
  rcases h with h | h
  · refine (cc_fresh T hT b w h.cell0 h.shape h.frozen0).mono ?_
    rintro e w' ⟨rfl, rfl⟩
    exact ⟨rfl, h.used _, (Below.refl B w).setCell (p := ⟨b, 0, none⟩) h.1 _, (Lib.OthersKept.refl _ _ w).setCell ⟨b, 0, none⟩ rfl _⟩
  · refine (cc_used b w h.cell0).mono ?_
    rintro e w' ⟨rfl, rfl⟩
    exact ⟨rfl, h, Fr.refl _ _ _⟩
set_option maxHeartbeats 2000000 in
set_option maxRecDepth 100000 in
theorem write_any (B g : Nat) (l m : List UInt8) (w : World) (h : Mk w B g l) (hlen : l.length + m.length ≤ 140737488355328) (hBw : B ≤ w.heap.size) :
    Calls Try.prog 69 #[.pointer (some ⟨g, 0, none⟩), .string (bs m)] w fun e w' => (∃ x, e = .returned (.tuple #[x, .nilIface])) ∧ Mk w' B g (l ++ m) ∧ Fr B g w w' := by
  obtain ⟨T, hT, hb⟩ := h
  obtain ⟨i0, hi, hrest⟩ := Option.map_eq_some_iff.1 PackBytes.info_u8
  injection hrest with hz0 hz1
  injection hz1 with hz1 hz2
  have HT := Lib.hid hT
  have HCC := Lib.hid (cc_any T hT B g _ w hb)
  have hsz : (bs m).size = m.length := bs_size m
  clear hT hb
  go_enter Try.func69, Try.ntmps69
  go_wp2_with (go_at_call 74; refine HCC.out.mono ?_)
  rintro e w1 ⟨rfl, ⟨hB, v, hbk, hown, hne⟩, hf1⟩
  have HF1 := Lib.hid hf1
  have hs1 := hf1.1.size
  have c0 : w1.cell? ⟨g, 0, none⟩ = some (.pointer (some ⟨g, 0, none⟩)) := by rw [Lib.cell_of_heap hbk]; rfl
  have c1 : w1.cell? ⟨g, 1, none⟩ = some v := by rw [Lib.cell_of_heap hbk]; rfl
  clear hf1
  rw [Lib.byteCells_length] at hown
  go_wp2_with (at_builtin; refine Lib.wpList_append_own_string _ rfl _ _ 92 9 rfl B 5 i0 Try.underlying92 Try.underlying9 hi hz0 hz1 hz2 _ _ _ rfl hown (bs m) rfl ?c3 ?c4 ?c5 ?_)
  case c3 => unfold maxLen; omega
  case c4 => omega
  case c5 => omega
  intro v' w2 hown' hgrow _
  have hlt : g < w1.heap.size := (Array.getElem?_eq_some_iff.1 hbk).1
  have hb2 : w2.heap[g]? = some (.cells #[.pointer (some ⟨g, 0, none⟩), v] T (0, 0)) := by
    rw [hgrow.block g hlt (fun e => hne e.symm)]
    exact hbk
  have d0 : w2.cell? ⟨g, 0, none⟩ = some (.pointer (some ⟨g, 0, none⟩)) := by rw [Lib.cell_of_heap hb2]; rfl
  have d1 : w2.cell? ⟨g, 1, none⟩ = some v := by rw [Lib.cell_of_heap hb2]; rfl
  have f1 : w2.frozen? ⟨g, 1, none⟩ = false := Lib.frozen_of_heap hb2 1
  have hrow : ∀ k, v.ownBlock = some k → B ≤ k := fun k hk => (hown.lt k hk).1
  have hkind : ∀ k, v.ownBlock = some k → ∃ c fz, w1.heap[k]? = some (.cells c 5 fz) := by
    intro k hk
    rcases hown.2 with ⟨rfl, _⟩ | ⟨g', cap, cur, rfl, _, hgg, _⟩
    · simp [Value.ownBlock] at hk
    · simp [Value.ownBlock] at hk
      subst hk
      exact ⟨cur, _, hgg⟩
  have HG := Lib.hid hgrow
  have HO := Lib.hid hown'
  obtain ⟨ao, n', cap, rfl⟩ : ∃ ao n' cap, v' = .slice ao n' cap := by
    rcases hown'.2 with ⟨hv, _⟩ | ⟨_, cap, cur, hv, _⟩
    · exact ⟨_, _, _, hv⟩
    · exact ⟨_, _, _, hv⟩
  have HK := Lib.hid (And.intro hrow hkind)
  have HB2 := Lib.hid hb2
  clear hgrow hown' hown hbk hne hrow hkind hb2 c0 c1 hi hz0 hz1 hz2
  go_wp2
  go_ret2
  refine ⟨⟨_, rfl⟩, ⟨T, HT.out, .inr ?_⟩, ?_, ?_⟩
  · refine Lib.BuilderAt.put (T := T) (e := 5) hB HB2.out (bs' := Lib.byteCells (l ++ m)) ?_ HT.out.2
    rw [Lib.byteCells_length, List.length_append, Lib.byteCells_append, ← hsz]
    exact HO.out
  · exact (HF1.out.1.grown HG.out (by omega) HK.out.1).setCell (p := ⟨g, 1, none⟩) hB _
  · exact (HF1.out.2.grown HG.out HK.out.2).setCell ⟨g, 1, none⟩ rfl _
set_option maxHeartbeats 1000000 in
theorem mk_number (B g : Nat) (l : List UInt8) (n : Nat) (w : World) (h : Mk w B g l) (hn : n < 2 ^ 64) (hlen : l.length ≤ 100000000000000) (hBw : B ≤ w.heap.size) :
    Calls Try.prog 54 #[.pointer (some ⟨g, 0, none⟩), .int .u64 (n : Nat)] w fun e w' => e = .returned (.tuple #[]) ∧ Mk w' B g (l ++ num n) ∧ Fr B g w w' := by
  have H := Lib.hid h
  have HN := Lib.hid (fun w => PackBytes.number_own n w hn)
  have hm : (num n).length ≤ 9 := by rw [num_length]; have := (nsz_spec n hn).1; omega
  have HW := Lib.hid (fun w1 (h1 : Mk w1 B g l) (hB : B ≤ w1.heap.size) => write_any B g l (num n) w1 h1 (by omega) hB)
  clear h hm hn hlen
  generalize hq : num n = q at *
  clear hq
  go_enter Try.func54, Try.ntmps54
  go_wp2
  go_region_with (first
    | (go_at_call 27; refine (HN.out _).mono ?_; rintro e w1 ⟨rfl, hb⟩; have hb2 := (((Below.refl w.heap.size w).drew).trans hb); have HF := Lib.hid (Fr.of_below (B := B) (g := g) hb2 hBw); have HM := Lib.hid (H.out.below hb2); have hB1 : B ≤ w1.heap.size := Nat.le_trans hBw hb2.size; clear hb hb2)
    | (go_at_call 69; refine (HW.out _ HM.out hB1).mono ?_; rintro e w2 ⟨⟨x, rfl⟩, h2, hf2⟩; have H2 := Lib.hid h2; have HF2 := Lib.hid (HF.out.trans hf2); clear h2 hf2))
  all_goals
    go_wp2
    go_end0
    exact ⟨rfl, H2.out, HF2.out⟩
theorem cells_u8 : Try.prog.cellsOf 5 = 1 := by kernel_rfl
set_option maxHeartbeats 1000000 in
set_option maxRecDepth 100000 in
theorem string_any (B g : Nat) (l : List UInt8) (w : World) (h : Mk w B g l) (h0 : l ≠ []) :
    Calls Try.prog 70 #[.pointer (some ⟨g, 0, none⟩)] w fun e w' => e = .returned (.string (bs l)) ∧ Below B w w' := by
  obtain ⟨T, -, hb⟩ := h
  obtain ⟨p, -, v, hbk, hown, -⟩ : ∃ p, Lib.BuilderAt T 5 B g p (Lib.byteCells l) w := hb.elim (fun x => ⟨_, x⟩) (fun x => ⟨_, x⟩)
  have hl0 : l.length ≠ 0 := by simpa using h0
  rw [Lib.byteCells_length] at hown
  rcases hown.2 with ⟨_, hz⟩ | ⟨k, cap, cur, rfl, hBk, hk, hnc, hcm, hcs, htake⟩
  · exact absurd hz hl0
  have hk' : w.drew.heap[k]? = some (.cells cur 5 (0, 0)) := hk
  have c1 : w.drew.cell? ⟨g, 1, none⟩ = some (.slice (some ⟨k, 0, none⟩) l.length cap) := by
    have : w.drew.heap[g]? = some (.cells #[p, .slice (some ⟨k, 0, none⟩) l.length cap] T (0, 0)) := hbk
    rw [Lib.cell_of_heap this]; rfl
  have hSD : (Builtin.unsafeSliceData_ #[92] 124 #[.slice (some ⟨k, 0, none⟩) l.length cap]).run Try.prog w.drew = .ok (.pointer (some ⟨k, 0, none⟩)) w.drew :=
    Lib.run_unsafeSliceData_row _ _ _ _ _ _ (by omega)
  have hUS : (Builtin.unsafeString_ #[124, 3] 9 #[.pointer (some ⟨k, 0, none⟩), .int .i64 l.length]).run Try.prog w.drew = .ok (.string (bs l)) (w.drew.freeze ⟨k, 0, none⟩ l.length) := by
    refine Lib.run_unsafeString_row w.drew 124 3 9 5 Try.underlying124 cells_u8 k cur.size (by simp [World.shape?, hk']) l h0 (by omega) (by unfold maxLen at hcm; omega) ?_
    intro j x hx
    exact hown.cells (g := k) rfl j (.int .u8 x.toNat) (by simp [Lib.byteCells, hx])
  have HB : Hid (Below B w (w.drew.freeze ⟨k, 0, none⟩ l.length)) := Lib.below_freeze ((Below.refl B w).drew) (p := ⟨k, 0, none⟩) hBk _
  clear hown hbk hk hk' htake hb
  go_enter Try.func70, Try.ntmps70
  go_wp2
  go_region
  all_goals
    go_wp2
    go_ret
    exact ⟨rfl, HB.out⟩
set_option maxHeartbeats 1000000 in
theorem mk_bytes (B g : Nat) (l : List UInt8) (w : World) (h : Mk w B g l) (h0 : l ≠ []) :
    Calls Try.prog 55 #[.pointer (some ⟨g, 0, none⟩)] w fun e w' => e = .returned (.string (bs l)) ∧ Below B w w' := by
  have HS := Lib.hid (string_any B g l w h h0)
  clear h h0
  generalize bs l = q at *
  go_enter Try.func55, Try.ntmps55
  go_wp2_with (go_at_call 70; go_loud ((with_reducible refine HS.out.mono ?_); rintro e w1 ⟨rfl, hb⟩; have HB := Lib.hid hb; clear hb))
  go_wp2
  go_ret
  exact ⟨rfl, HB.out⟩
set_option maxRecDepth 100000 in
set_option maxHeartbeats 1000000 in
/-- Times of a maker: how many, and each. -/
theorem mtimes (fn : FuncId) (hE : ∀ args w, (callFunc fn args).run Try.prog w = .ok (.enter fn args) w) (c0 c1 : Value) (B g n : Nat) (l : List UInt8) (L : Nat → List UInt8) (J : World → Prop) (w : World)
    (h : Mk w B g l) (hn : n ≤ 1000000) (hlen : l.length ≤ 100000000000000) (hBw : B ≤ w.heap.size) (hL : L 0 = l ++ num n) (hJ : ∀ x x', J x → Fr B g x x' → J x') (hJ0 : J w)
    (hstep : ∀ i, i < n → ∀ x, Mk x B g (L i) → J x → B ≤ x.heap.size → Calls Try.prog fn #[.int .i64 (i : Nat), c0, c1] x fun e x' => e = .returned (.tuple #[]) ∧ Mk x' B g (L (i + 1)) ∧ Fr B g x x') :
    Calls Try.prog 52 #[.pointer (some ⟨g, 0, none⟩), .int .i64 (n : Nat), .func (.func fn) #[] #[c0, c1]] w fun e w' => e = .returned (.tuple #[]) ∧ Mk w' B g (L n) ∧ Fr B g w w' := by
  have tn : IntKind.u64.wrap (n : Int) = (n : Int) := by rw [IntKind.wrap_u64]; omega
  have HN := Lib.hid (mk_number B g l n w h (by omega) hlen hBw)
  have HS := Lib.hid hstep
  have HJ := Lib.hid hJ
  have HJ0 := Lib.hid hJ0
  rw [← hL] at HN
  clear h hstep hJ hJ0 hL hlen
  go_enter Try.func52, Try.ntmps52
  go_wp2_with (go_at_call 54; go_loud ((with_reducible refine HN.out.mono ?_); rintro e w1 ⟨rfl, h1, hf1⟩; have H1 := Lib.hid h1; have HF1 := Lib.hid hf1; clear h1 hf1))
  go_wp2
  go_loopg [12] n (fun gg i wx => ∃ k : Nat, k + gg = n ∧ i = .int .i64 k ∧ Aside (Mk wx B g (L k) ∧ J wx ∧ B ≤ wx.heap.size ∧ Fr B g w wx))
  case atStart => exact ⟨0, by omega, rfl, H1.out, HJ.out _ _ HJ0.out HF1.out, Nat.le_trans hBw HF1.out.1.size, HF1.out⟩
  case round =>
    obtain ⟨k, hkg, rfl, HA⟩ := hrel
    cases gk with
    | zero =>
      obtain rfl : k = n := by omega
      clear hkg
      go_wp2
      go_end0
      exact ⟨rfl, HA.out.1, HA.out.2.2.2⟩
    | succ gg =>
      have hlt : (k : Int) < (n : Int) := by omega
      have HK := Lib.hid (HS.out k (by omega) wr HA.out.1 HA.out.2.1 HA.out.2.2.1)
      have tk : IntKind.i64.wrap ((k : Int) + 1) = (k : Int) + 1 := by rw [IntKind.wrap_i64]; omega
      go_wp2_with fail
      refine HK.out.mono ?_
      rintro e w2 ⟨rfl, h2, hf2⟩
      have H2 := Lib.hid h2
      have HF2 := Lib.hid hf2
      clear h2 hf2
      go_wp2
      go_roundg gg
      case measure => omega
      case rel => exact ⟨k + 1, by omega, by simp, H2.out, HJ.out _ _ HA.out.2.1 HF2.out, Nat.le_trans HA.out.2.2.1 HF2.out.1.size, HA.out.2.2.2.trans HF2.out⟩
end Hd
end Go.Proofs.Ytjgdmdgiicpemaa

/- NUMBERS OF REPLICAS as parts: parts.Members, (*parts.Taker).Members; Times of a taker. -/
namespace Go.Proofs.Ytjgdmdgiicpemaa
open Go.RowKit
namespace Hd
open PM
def encI (ks : List Nat) : List Value := ks.map fun n => .int .i64 (n : Nat)
theorem encI_len (ks : List Nat) : (encI ks).length = ks.length := by simp [encI]
/-- A row of ints of one's own, from block base on. -/
def OwnI (w : World) (base : Nat) (v : Value) (ks : List Nat) : Prop := w.ownsRow base 3 1 v ks.length (encI ks)
theorem info_int : (Try.prog.info? 3).map (fun i => (i.zero, i.size, i.bytes)) = some (some (.int .i64 0), 1, 8) := by kernel_rfl
theorem OwnI.slice {w : World} {base : Nat} {v : Value} {ks : List Nat} (h : OwnI w base v ks) : ∃ a c, v = .slice a ks.length c := by
  rcases h.2 with ⟨rfl, h0⟩ | ⟨g, cap, cur, rfl, _⟩
  · exact ⟨none, 0, by rw [h0]⟩
  · exact ⟨_, _, rfl⟩
theorem OwnI.nil (w : World) (base : Nat) : OwnI w base (.slice none 0 0) [] := ⟨rfl, .inl ⟨rfl, rfl⟩⟩
theorem OwnI.less {w : World} {base b2 : Nat} {v : Value} {ks : List Nat} (h : OwnI w base v ks) (hb : b2 ≤ base) : OwnI w b2 v ks := by
  refine ⟨h.1, ?_⟩
  rcases h.2 with h2 | ⟨g, cap, cur, h3, h4, h5⟩
  · exact .inl h2
  · exact .inr ⟨g, cap, cur, h3, Nat.le_trans hb h4, h5⟩
theorem OwnI.below {w w' : World} {base : Nat} {v : Value} {ks : List Nat} (h : OwnI w base v ks) (hb : Below w.heap.size w w') : OwnI w' base v ks := own_keep h hb
theorem OwnI.al {w : World} {base : Nat} {v : Value} {ks : List Nat} (h : OwnI w base v ks) (o : Obj) : OwnI (w.alloc o) base v ks := h.below ((Below.refl _ _).alloc (Nat.le_refl _) _)
theorem OwnI.far {w : World} {base : Nat} {v : Value} {ks : List Nat} (h : OwnI w base v ks) {g : Nat} (hg : g < base) : v.ownBlock ≠ some g := fun e => by
  have := (World.ownsRow.lt h g e).1
  omega
theorem OwnI.only {w w' : World} {base : Nat} {v : Value} {ks : List Nat} (h : OwnI w base v ks) {g : Nat} (ho : Only g w w') (hg : g < base) : OwnI w' base v ks :=
  World.ownsRow.kept (row := some g) h ho (Or.inr (h.far hg))
theorem OwnI.put {w : World} {base : Nat} {v : Value} {ks : List Nat} (h : OwnI w base v ks) {p : Nat} (hp : p < base) (i : Nat) (u : Value) : OwnI (w.setCell ⟨p, i, none⟩ u) base v ks :=
  h.only ((Only.refl p w).set i u) hp
theorem OwnI.ints {w : World} {base : Nat} {v : Value} {ks : List Nat} (h : OwnI w base v ks) (hl : ks.length ≤ 4611686018427387904) (hk : ∀ k ∈ ks, k ≤ 9223372036854775807) : Dk.Ints w w.heap.size v (ks.map fun (k : Nat) => (k : Int)) := by
  obtain ⟨a, c, hv⟩ := h.slice
  refine ⟨a, c, by rw [List.length_map]; exact hv, by rw [List.length_map]; exact hl, ?_, ?_⟩
  · intro x hx
    obtain ⟨k, hm, rfl⟩ := List.mem_map.1 hx
    have := hk k hm
    omega
  · intro hp
    rw [List.length_map] at hp
    rcases h.2 with ⟨_, h0⟩ | ⟨g, cap, cur, h3, h4, h5, h6⟩
    · omega
    · rw [hv] at h3
      injection h3 with h3a h3b h3c
      refine ⟨g, 0, h3a, (Array.getElem?_eq_some_iff.1 h5).1, fun i hi => ?_⟩
      rw [List.length_map] at hi
      have := World.ownsRow.cells (g := g) h (by rw [hv, h3a]; rfl) i (.int .i64 (ks[i] : Nat)) (by simp [encI, List.getElem?_eq_getElem hi])
      rw [List.getElem_map]
      have e : (⟨g, 0, none⟩ : Addr).add i = ⟨g, 0 + i, none⟩ := Addr.add_lit ..
      rw [e] at this
      exact this
/-- An append of one int onto a row of one's own, within a region. -/
theorem step_int {ops : Array Oper} {o : Oper} {a : Act} {w : World} {K : Act → World → Prop} {Q : Exit → Act → World → Prop} {E : Prop} (hgd : o.guard = none) (s x : Operand)
    (ho : o.op = .call { callee := .builtin .append, args := #[s, x], argTypes := #[23, 23] })
    (base : Nat) (hbase : base ≤ w.heap.size) (ks : List Nat) (k : Nat) (v : Value) (hs : a.eval s = v) (hown : OwnI w base v ks) (ad : Addr) (c : Nat) (hx : a.eval x = .slice (some ad) 1 c)
    (hc : w.cell? (ad.add 0) = some (.int .i64 (k : Nat))) (hl : ks.length ≤ 1000)
    (h : ∀ v' w', OwnI w' base v' (ks ++ [k]) → w.grownBy w' v.ownBlock → K (a.put o.dst v') w') :
    if Region.wanted o (yielded ops a.tmps) = true then Oper.wp Try.prog o a w K Q else E := by
  have hw : Region.wanted o (yielded ops a.tmps) = true := by simp [Region.wanted, hgd]
  rw [if_pos hw]
  obtain ⟨i0, hi, hq0, hq1, hq2⟩ := info_parts info_int
  refine wp_append_own w s x _ ho base 3 i0 _ 1 8 Try.underlying23 hi hq0 hq1 hq2 rfl (by omega) v ks.length (encI ks) hs hown ad 1 c [.int .i64 (k : Nat)] hx rfl ?_ ?_ (by simp only [maxLen]; omega) (by omega) hbase ?_
  · intro j u hj
    match j, hj with
    | 0, hj => simp at hj; subst hj; exact hc
  · intro u hu; simp at hu; subst hu; rfl
  · intro v' w' hown' hg _
    refine h v' w' ?_ hg
    unfold OwnI
    rw [List.length_append]
    simpa [encI] using hown'
/-- Below block B nothing has turned but blocks g and p. -/
def Two (B g p : Nat) (w w' : World) : Prop := w'.os = w.os ∧ w'.tape = w.tape ∧ w'.output = w.output ∧ w.heap.size ≤ w'.heap.size ∧ ∀ i, i < B → i ≠ g → i ≠ p → w'.heap[i]? = w.heap[i]?
theorem Two.refl (B g p : Nat) (w : World) : Two B g p w w := ⟨rfl, rfl, rfl, Nat.le_refl _, fun _ _ _ _ => rfl⟩
theorem Two.trans {B g p : Nat} {a b c : World} (h : Two B g p a b) (k : Two B g p b c) : Two B g p a c :=
  ⟨k.1.trans h.1, k.2.1.trans h.2.1, k.2.2.1.trans h.2.2.1, Nat.le_trans h.2.2.2.1 k.2.2.2.1, fun i h1 h2 h3 => (k.2.2.2.2 i h1 h2 h3).trans (h.2.2.2.2 i h1 h2 h3)⟩
theorem Two.of_only {B g p : Nat} {w w' : World} (h : Only g w w') (hB : B ≤ w.heap.size) : Two B g p w w' := ⟨h.os, h.tape, h.output, h.size, fun i h1 h2 _ => h.block i (by omega) (by intro e; injection e with e; omega)⟩
theorem Two.of_below {B g p : Nat} {w w' : World} (h : Below w.heap.size w w') (hB : B ≤ w.heap.size) : Two B g p w w' := ⟨h.os, h.tape, h.output, h.size, fun i h1 _ _ => h.block i (by omega)⟩
theorem Two.of_grown {B g p : Nat} {w w' : World} {row : Option Nat} (h : w.grownBy w' row) (hB : B ≤ w.heap.size) (hr : ∀ k, row = some k → B ≤ k) : Two B g p w w' :=
  ⟨h.os, h.tape, h.output, h.size, fun i h1 _ _ => h.block i (by omega) (by intro e; have := hr i e.symm; omega)⟩
theorem Two.put (B g p : Nat) (w : World) (i : Nat) (u : Value) : Two B g p w (w.setCell ⟨p, i, none⟩ u) :=
  ⟨rfl, rfl, rfl, by simp [World.setCell], fun k _ _ h3 => Below.heap_setCell w ⟨p, i, none⟩ u k (by rintro rfl; exact h3 rfl)⟩
theorem Two.cell {B g p b i : Nat} {w w' : World} (h : Two B g p w w') (h1 : b < B) (h2 : b ≠ g) (h3 : b ≠ p) : w'.cell? ⟨b, i, none⟩ = w.cell? ⟨b, i, none⟩ := by
  simp only [World.cell?, h.2.2.2.2 b h1 h2 h3]
theorem Two.frozen {B g p b i : Nat} {w w' : World} (h : Two B g p w w') (h1 : b < B) (h2 : b ≠ g) (h3 : b ≠ p) : w'.frozen? ⟨b, i, none⟩ = w.frozen? ⟨b, i, none⟩ := by
  simp only [World.frozen?, h.2.2.2.2 b h1 h2 h3]
theorem only_cell {g b i : Nat} {w w' : World} (h : Only g w w') (h1 : b < w.heap.size) (h2 : b ≠ g) : w'.cell? ⟨b, i, none⟩ = w.cell? ⟨b, i, none⟩ := by
  have := h.block b h1 (by intro e; injection e with e; omega)
  simp only [World.cell?, this]
theorem only_frozen {g b i : Nat} {w w' : World} (h : Only g w w') (h1 : b < w.heap.size) (h2 : b ≠ g) : w'.frozen? ⟨b, i, none⟩ = w.frozen? ⟨b, i, none⟩ := by
  have := h.block b h1 (by intro e; injection e with e; omega)
  simp only [World.frozen?, this]
theorem grown_cell {row : Option Nat} {b i : Nat} {w w' : World} (h : w.grownBy w' row) (h1 : b < w.heap.size) (h2 : row ≠ some b) : w'.cell? ⟨b, i, none⟩ = w.cell? ⟨b, i, none⟩ := by
  have := h.block b h1 (fun e => h2 e.symm)
  simp only [World.cell?, this]
theorem grown_frozen {row : Option Nat} {b i : Nat} {w w' : World} (h : w.grownBy w' row) (h1 : b < w.heap.size) (h2 : row ≠ some b) : w'.frozen? ⟨b, i, none⟩ = w.frozen? ⟨b, i, none⟩ := by
  have := h.block b h1 (fun e => h2 e.symm)
  simp only [World.frozen?, this]
/-- Where Members of a taker stands: the row in the box p, the taker's address in the box q. -/
structure Tb (w0 : World) (p q g base : Nat) (l : List UInt8) (b : Bool) (ks : List Nat) (v : Value) (x : World) : Prop where
  tk : Tk x g l b
  own : OwnI x base v ks
  cp : x.cell? ⟨p, 0, none⟩ = some v
  fp : x.frozen? ⟨p, 0, none⟩ = false
  cq : x.cell? ⟨q, 0, none⟩ = some (.pointer (some ⟨g, 0, none⟩))
  sz : base ≤ x.heap.size
  fr : Two base g p w0 x
theorem Tk.blk {w w' : World} {g : Nat} {l : List UInt8} {b : Bool} (h : Tk w g l b) (e : w'.heap[g]? = w.heap[g]?) : Tk w' g l b := h.imp fun _ h => e.trans h
theorem tb_end {w0 x w7 w8 : World} {p q g base : Nat} {l l2 : List UInt8} {b b2 : Bool} {ks : List Nat} {av : Option Addr} {cv k : Nat} {a8 : Option Addr} {c8 : Nat} {o : Obj} (h : Tb w0 p q g base l b ks (.slice av ks.length cv) x)
    (hpb : p < base) (hqb : q < base) (hgb : g < base) (hpg : p ≠ g) (hqg : q ≠ g) (hqp : q ≠ p) (hT7 : Tk w7 g l2 b2) (hO7 : Only g x.drew w7) (hown8 : OwnI w8 base (.slice a8 (ks ++ [k]).length c8) (ks ++ [k]))
    (hg8 : (w7.alloc o).grownBy w8 (Value.slice av ks.length cv).ownBlock) :
    Tb w0 p q g base l2 b2 (ks ++ [k]) (.slice a8 (ks.length + 1) c8) (w8.setCell ⟨p, 0, none⟩ (.slice a8 (ks.length + 1) c8)) := by
  have hsz := h.sz
  have s7 : x.heap.size ≤ w7.heap.size := hO7.size
  have s8 : w7.heap.size + 1 ≤ w8.heap.size := by have := hg8.size; simpa using this
  have hX : OwnI x base (.slice av ks.length cv) ks := h.own
  have hrow : ∀ i, i < base → (Value.slice av ks.length cv).ownBlock ≠ some i := fun i hi => hX.far hi
  have hlen : (ks ++ [k]).length = ks.length + 1 := by simp
  rw [hlen] at hown8
  have b7 : ∀ i, i < w7.heap.size → (w7.alloc o).heap[i]? = w7.heap[i]? := fun i hi => Lib.alloc_old w7 o i hi
  have b8 : ∀ i, i < base → w8.heap[i]? = w7.heap[i]? := fun i hi => (hg8.block i (by simp; omega) (fun e => hrow i hi e.symm)).trans (b7 i (by omega))
  have t78 : Two base g p w7 w8 := ⟨hg8.os, hg8.tape, hg8.output, by omega, fun i hi _ _ => b8 i hi⟩
  have t07 : Two base g p x w7 := Two.of_only (w := x) ⟨hO7.os, hO7.tape, hO7.output, hO7.size, hO7.block⟩ hsz
  have tall := (h.fr.trans t07).trans (t78.trans (Two.put base g p w8 0 (.slice a8 (ks.length + 1) c8)))
  have cqq : w8.cell? ⟨q, 0, none⟩ = x.cell? ⟨q, 0, none⟩ := ((t07.trans t78).cell hqb hqg hqp)
  have cpp : w8.cell? ⟨p, 0, none⟩ = x.cell? ⟨p, 0, none⟩ := by
    have e1 := b8 p hpb
    have e2 := hO7.block p (by show p < x.heap.size; omega) (by intro e; injection e with e; exact hpg e)
    have e3 : w8.heap[p]? = x.heap[p]? := e1.trans e2
    simp only [World.cell?, e3]
  have fpp : w8.frozen? ⟨p, 0, none⟩ = x.frozen? ⟨p, 0, none⟩ := by
    have e1 := b8 p hpb
    have e2 := hO7.block p (by show p < x.heap.size; omega) (by intro e; injection e with e; exact hpg e)
    have e3 : w8.heap[p]? = x.heap[p]? := e1.trans e2
    simp only [World.frozen?, e3]
  refine ⟨?_, ?_, ?_, ?_, ?_, ?_, tall⟩
  · exact (hT7.blk (b8 g hgb)).blk (Below.heap_setCell w8 ⟨p, 0, none⟩ _ g (by rintro rfl; exact hpg rfl))
  · exact hown8.put hpb 0 _
  · exact World.cell?_setCell_same _ _ _ (cpp.trans h.cp)
  · simpa using fpp.trans h.fp
  · rw [World.cell?_setCell_other _ _ _ _ (by intro e; injection e with e; exact hqp e.symm)]
    exact cqq.trans h.cq
  · simp [World.setCell]; omega
set_option maxRecDepth 100000 in
set_option maxHeartbeats 2000000 in
theorem tclo (w0 : World) (p q g base : Nat) (l : List UInt8) (b : Bool) (ks : List Nat) (v : Value) (x : World) (h : Tb w0 p q g base l b ks v x) (hl : l.length ≤ maxLen) (h3 : ks.length ≤ 1000)
    (hpb : p < base) (hqb : q < base) (hgb : g < base) (hpg : p ≠ g) (hqg : q ≠ g) (hqp : q ≠ p) :
    Calls Try.prog 60 #[.pointer (some ⟨p, 0, none⟩), .pointer (some ⟨q, 0, none⟩)] x fun e x' => e = .returned (.tuple #[]) ∧ ∃ v', Tb w0 p q g base (upR 7 l) (upB 7 l) (ks ++ [upV 7 l]) v' x' := by
  obtain ⟨av, cv, rfl⟩ := h.own.slice
  have H := Lib.hid h
  have c0 : x.drew.cell? ⟨p, 0, none⟩ = some (.slice av ks.length cv) := h.cp
  have c1 : x.drew.cell? ⟨q, 0, none⟩ = some (.pointer (some ⟨g, 0, none⟩)) := h.cq
  have hu := upto_part g l b 7 x.drew h.tk hl
  rw [show ((7 : Nat) : Int) = 7 from rfl] at hu
  have HU := Lib.hid hu
  have hf0 : x.drew.frozen? ⟨p, 0, none⟩ = false := h.fp
  clear hu
  have tv : IntKind.i64.wrap ((upV 7 l : Nat) : Int) = ((upV 7 l : Nat) : Int) := by have := upV_le 7 l; rw [IntKind.wrap_i64]; omega
  have hsz := h.sz
  have HXD : Hid (OwnI x.drew base (.slice av ks.length cv) ks) := h.own
  clear h
  generalize hk : upV 7 l = k at *
  clear hk
  go_enter Try.func60, Try.ntmps60
  go_wp2
  go_region_law
    (first
    | (go_simp; go_at_call 61; go_loud ((with_reducible refine HU.out.mono ?_); rintro e w7 ⟨rfl, hT7, hO7⟩; have HT7 := Lib.hid hT7; have HO7 := Lib.hid hO7; have hs7 := hO7.size; have d0 := (only_cell hO7 (b := p) (i := 0) (by show p < x.heap.size; omega) hpg).trans c0; have d1 := (only_cell hO7 (b := q) (i := 0) (by show q < x.heap.size; omega) hqg).trans c1; have HX7 := Lib.hid (HXD.out.only hO7 hgb); have m7 : ∀ o, (w7.alloc o).cell? ⟨p, 0, none⟩ = some (.slice av ks.length cv) := (fun o => (World.cell?_alloc_lt w7 o ⟨p, 0, none⟩ (by show p < _; have h9 : x.heap.size ≤ w7.heap.size := hs7; omega)).trans d0); have n7 : ∀ o, (w7.alloc o).cell? ⟨q, 0, none⟩ = some (.pointer (some ⟨g, 0, none⟩)) := (fun o => (World.cell?_alloc_lt w7 o ⟨q, 0, none⟩ (by show q < _; have h9 : x.heap.size ≤ w7.heap.size := hs7; omega)).trans d1); clear hT7 hO7))
    | (go_loud (refine step_int rfl (.tmp 2) (.tmp 6) rfl base (by have h9 : x.heap.size ≤ w7.heap.size := hs7; simp; omega) ks k _ rfl (HX7.out.al _) ⟨w7.heap.size, 0, none⟩ 1 rfl (by simp [go_sem, Addr.add]) h3 ?_; intro v8 w8 hown8 hg8; obtain ⟨a8, c8, rfl⟩ := hown8.slice; have f8 := (grown_frozen hg8 (b := p) (i := 0) (by have h9 : x.heap.size ≤ w7.heap.size := hs7; simp; omega) (HX7.out.far hpb)).trans ((World.frozen?_alloc_past (w := w7) (.cells #[.int .i64 (k : Nat)] 3) p 0 (by have h9 : x.heap.size ≤ w7.heap.size := hs7; omega)).trans ((only_frozen HO7.out (b := p) (i := 0) (by show p < x.heap.size; omega) hpg).trans hf0)); have hp8 : (w7.alloc (.cells #[.int .i64 (k : Nat)] 3)).cell? ⟨p, 0, none⟩ = some (.slice av ks.length cv) := m7 _; have hq8 := n7 (.cells #[.int .i64 (k : Nat)] 3); have hs8 := hg8.size; have r8 := fun j hj => HX7.out.far (g := j) hj; have d8 := (grown_cell hg8 (b := p) (i := 0) (by have h9 : x.heap.size ≤ w7.heap.size := hs7; simp; omega) (r8 p hpb)).trans hp8; have d9 := (grown_cell hg8 (b := q) (i := 0) (by have h9 : x.heap.size ≤ w7.heap.size := hs7; simp; omega) (r8 q hqb)).trans hq8)))
  all_goals
    go_wp2
    go_end0
    exact ⟨rfl, _, tb_end H.out hpb hqb hgb hpg hqg hqp HT7.out HO7.out hown8 hg8⟩
/-- Times of a taker: how many there are, and as often what stands behind. -/
theorem ttimes (fn : FuncId) (hE : ∀ args w, (callFunc fn args).run Try.prog w = .ok (.enter fn args) w) (c0 c1 : Value) (g m : Nat) (l : List UInt8) (b : Bool) (J : Nat → World → Prop) (w : World) (h : Tk w g l b) (hl : l.length ≤ maxLen)
    (hJ0 : ∀ w1, Only g w w1 → Tk w1 g (upR m l) (upB m l) → J 0 w1)
    (hstep : ∀ i, i < upV m l → ∀ x, J i x → Calls Try.prog fn #[c0, c1] x fun e x' => e = .returned (.tuple #[]) ∧ J (i + 1) x') :
    Calls Try.prog 59 #[.pointer (some ⟨g, 0, none⟩), .int .u64 (m : Nat), .func (.func fn) #[] #[c0, c1]] w fun e w' => e = .returned (.tuple #[]) ∧ J (upV m l) w' := by
  have HU := Lib.hid (upto_part g l b m w h hl)
  have HS := Lib.hid hstep
  have HJ0 := Lib.hid hJ0
  have hn : upV m l < 2 ^ 64 := by
    unfold upV
    split
    · omega
    · exact tnN_lt l
  clear h hstep hJ0
  generalize upV m l = n at *
  go_enter Try.func59, Try.ntmps59
  go_wp2_with (go_at_call 61; go_loud ((with_reducible refine HU.out.mono ?_); rintro e w1 ⟨rfl, h1, ho1⟩; have H1 := Lib.hid (HJ0.out _ ho1 h1); clear h1 ho1))
  go_wp2
  go_loopg [9] n (fun gg i wx => ∃ k : Nat, k + gg = n ∧ i = .int .u64 k ∧ Aside (J k wx))
  case atStart => exact ⟨0, by omega, rfl, H1.out⟩
  case round =>
    obtain ⟨k, hkg, rfl, HA⟩ := hrel
    cases gk with
    | zero =>
      obtain rfl : k = n := by omega
      clear hkg
      go_wp2
      go_end0
      exact ⟨rfl, HA.out⟩
    | succ gg =>
      have hlt : (k : Int) < (n : Int) := by omega
      have HK := Lib.hid (HS.out k (by omega) wr HA.out)
      have tk : IntKind.u64.wrap ((k : Int) + 1) = (k : Int) + 1 := by rw [IntKind.wrap_u64]; omega
      go_wp2_with fail
      refine HK.out.mono ?_
      rintro e w2 ⟨rfl, h2⟩
      have H2 := Lib.hid h2
      clear h2
      go_wp2
      go_roundg gg
      case measure => omega
      case rel => exact ⟨k + 1, by omega, by simp, H2.out⟩
/-- What is left, whether something is wrong, and what was taken, behind k numbers of replicas. -/
def mbR (l : List UInt8) : Nat → List UInt8
  | 0 => upR 7 l
  | k + 1 => upR 7 (mbR l k)
def mbB (l : List UInt8) : Nat → Bool
  | 0 => upB 7 l
  | k + 1 => upB 7 (mbR l k)
def mbL (l : List UInt8) : Nat → List Nat
  | 0 => []
  | k + 1 => mbL l k ++ [upV 7 (mbR l k)]
theorem mbR_length (l : List UInt8) : ∀ k, (mbR l k).length ≤ l.length
  | 0 => upR_length 7 l
  | k + 1 => Nat.le_trans (upR_length 7 _) (mbR_length l k)
theorem mbL_length (l : List UInt8) : ∀ k, (mbL l k).length = k
  | 0 => rfl
  | k + 1 => by rw [mbL, List.length_append, mbL_length l k]; rfl
theorem mbL_le (l : List UInt8) : ∀ k, ∀ x ∈ mbL l k, x ≤ 7
  | 0 => by intro x hx; simp [mbL] at hx
  | k + 1 => by
    intro x hx
    rw [mbL, List.mem_append] at hx
    rcases hx with hx | hx
    · exact mbL_le l k x hx
    · simp at hx; subst hx; exact upV_le 7 _
set_option maxHeartbeats 1000000 in
theorem members_take (g : Nat) (l : List UInt8) (b : Bool) (w : World) (h : Tk w g l b) (hl : l.length ≤ maxLen) :
    Calls Try.prog 42 #[.pointer (some ⟨g, 0, none⟩)] w fun e w' => ∃ v', e = .returned v' ∧ OwnI w' w.heap.size v' (mbL l (upV 7 l)) ∧ Tk w' g (mbR l (upV 7 l)) (mbB l (upV 7 l)) ∧ Only g w w' := by
  have hmf : ∀ (fn : Fn) (first cap : Array Value) (w : World), (Instr.makeFunc fn first cap).run Try.prog w = .ok (.func fn first cap) w := fun _ _ _ _ => rfl
  have hlt := h.lt
  have hv := upV_le 7 l
  generalize hW2 : (w.alloc (.cells #[.pointer (some ⟨g, 0, none⟩)] 102)).alloc (.cells #[.slice none 0 0] 23) = W2
  have z2 : W2.heap.size = w.heap.size + 2 := by rw [← hW2]; simp
  have cp2 : W2.cell? ⟨w.heap.size + 1, 0, none⟩ = some (.slice none 0 0) := by rw [← hW2]; simp [go_sem]
  have fp2 : W2.frozen? ⟨w.heap.size + 1, 0, none⟩ = false := by rw [← hW2]; simp [go_sem]
  have cq2 : W2.cell? ⟨w.heap.size, 0, none⟩ = some (.pointer (some ⟨g, 0, none⟩)) := by rw [← hW2]; simp [go_sem]
  have b2 : Below w.heap.size w W2 := by rw [← hW2]; exact ((Below.refl _ _).alloc (Nat.le_refl _) _).alloc (by simp) _
  have HT : Hid (Calls Try.prog 59 #[.pointer (some ⟨g, 0, none⟩), .int .u64 7, .func (.func 60) #[] #[.pointer (some ⟨w.heap.size + 1, 0, none⟩), .pointer (some ⟨w.heap.size, 0, none⟩)]]
      W2 fun e w' => e = .returned (.tuple #[]) ∧ ∃ v', Tb W2 (w.heap.size + 1) w.heap.size g (w.heap.size + 2) (mbR l (upV 7 l)) (mbB l (upV 7 l)) (mbL l (upV 7 l)) v' w') := by
    refine ttimes _ (Go.Proofs.enters_of Try.func60 (by kernel_rfl) rfl) _ _ g 7 l b (fun k x => ∃ v', Tb W2 (w.heap.size + 1) w.heap.size g (w.heap.size + 2) (mbR l k) (mbB l k) (mbL l k) v' x) _ ?_ hl ?_ ?_
    · exact h.below b2 hlt
    · intro w1 ho ht
      have hz := ho.size
      refine ⟨.slice none 0 0, ht, OwnI.nil _ _, ?_, ?_, ?_, by omega, Two.of_only ho (by omega)⟩
      · rw [only_cell ho (by omega) (by omega)]; exact cp2
      · rw [only_frozen ho (by omega) (by omega)]; exact fp2
      · rw [only_cell ho (by omega) (by omega)]; exact cq2
    · rintro i hi x ⟨v', hx⟩
      refine (tclo W2 (w.heap.size + 1) w.heap.size g (w.heap.size + 2) _ _ _ v' x hx (Nat.le_trans (mbR_length l i) hl) (by rw [mbL_length]; omega) (by omega) (by omega) (by omega) (by omega) (by omega) (by omega)).mono ?_
      rintro e x' ⟨he, v2, h2⟩
      exact ⟨he, v2, h2⟩
  have HB2 := Lib.hid b2
  subst hW2
  clear h b2
  generalize upV 7 l = n at *
  go_enter Try.func42, Try.ntmps42
  go_wp2_with (go_at_call 59; go_loud ((with_reducible refine HT.out.mono ?_); rintro e w1 ⟨rfl, v', hTb⟩; obtain ⟨a1, c1, rfl⟩ := hTb.own.slice; have d1 := hTb.cp; have HTb := Lib.hid hTb; clear hTb))
  go_wp2
  go_ret
  refine ⟨_, rfl, HTb.out.own.less (by omega), HTb.out.tk, ?_⟩
  have t := HTb.out.fr
  refine ⟨t.1.trans HB2.out.os, t.2.1.trans HB2.out.tape, t.2.2.1.trans HB2.out.output, Nat.le_trans HB2.out.size t.2.2.2.1, fun i h1 h2 => ?_⟩
  exact (t.2.2.2.2 i (by omega) (fun e => h2 (by rw [e])) (by omega)).trans (HB2.out.block i h1)
end Hd
end Go.Proofs.Ytjgdmdgiicpemaa

/- WHAT IS RIGHT: wal.rightMembers, wal.Check of members alone; snap.ofNothing, snap.Check. -/
namespace Go.Proofs.Ytjgdmdgiicpemaa
open Go.RowKit
namespace Hd
open PM
/-- Rising above la, none above 7. -/
def rmF (la : Int) : List Int → Bool
  | [] => true
  | k :: r => if k ≤ la then false else if 7 < k then false else rmF k r
def rmB (ks : List Int) : Bool := rmF 0 ks && decide (0 < ks.length)
theorem rmF_at (ks : List Int) (k : Nat) (h : k < ks.length) (la : Int) : rmF la (ks.drop k) = if ks[k] ≤ la then false else if 7 < ks[k] then false else rmF ks[k] (ks.drop (k + 1)) := by
  rw [List.drop_eq_getElem_cons h, rmF]
set_option maxHeartbeats 1000000 in
theorem right_members (v : Value) (ks : List Int) (w : World) (h : Dk.Ints w w.heap.size v ks) :
    Calls Try.prog 76 #[v] w fun e w' => e = .returned (.bool (rmB ks)) ∧ Below w.heap.size w w' := by
  obtain ⟨a, c, rfl, hl, hr, hc⟩ := h
  have HR : Hid (rmB ks = (rmF 0 ks && decide (0 < ks.length))) := rfl
  generalize rmB ks = res at *
  have HC := Lib.hid hc
  have HX := Lib.hid hr
  clear hc hr
  go_enter Try.func76, Try.ntmps76
  go_wp2
  go_loopg [3, 8] ks.length (fun gg last i wx => ∃ (k : Nat) (la : Int), k + gg = ks.length ∧ last = .int .i64 la ∧ i = .int .i64 k ∧ wx = w ∧ Aside (rmF 0 ks = rmF la (ks.drop k)))
  case atStart => exact ⟨0, 0, by omega, rfl, rfl, rfl, rfl⟩
  case round =>
    obtain ⟨k, la, hkg, rfl, rfl, rfl, HA⟩ := hrel
    cases gk with
    | zero =>
      obtain rfl : k = ks.length := by omega
      clear hkg
      have e0 : rmF 0 ks = true := by rw [HA.out, List.drop_length]; rfl
      have HE := Lib.hid e0
      clear e0
      by_cases h0 : 0 < ks.length
      · have h0' : (0 : Int) < (ks.length : Int) := by omega
        have HD := Lib.hid h0
        clear h0
        go_wp2
        go_ret
        exact ⟨by rw [HR.out, HE.out, decide_eq_true HD.out]; rfl, Below.refl _ _⟩
      · have h0' : ¬ (0 : Int) < (ks.length : Int) := by omega
        have h0'' : decide ((0 : Int) < (ks.length : Int)) = false := by simpa using h0'
        have HD := Lib.hid h0
        clear h0
        go_wp2
        go_ret
        exact ⟨by rw [HR.out, HE.out, decide_eq_false HD.out]; rfl, Below.refl _ _⟩
    | succ gg =>
      have hlt : k < ks.length := by omega
      have hlt2 : (k : Int) < (ks.length : Int) := by omega
      obtain ⟨b, off, rfl, hb, hcell⟩ := HC.out (by omega)
      have hx := hcell k hlt
      have HM := Lib.hid (rmF_at ks k hlt la)
      have HXR := Lib.hid (HX.out ks[k] (List.getElem_mem hlt))
      clear hcell
      generalize hq : ks[k] = x at *
      clear hq
      by_cases h1 : x ≤ la
      · have HE : Hid (rmF 0 ks = false) := by show _ = _; rw [HA.out, HM.out, if_pos h1]
        go_wp2
        go_ret
        exact ⟨by rw [HR.out, HE.out]; rfl, Below.refl _ _⟩
      · have h1' : decide (x ≤ la) = false := by simpa using h1
        by_cases h2 : 7 < x
        · have HE : Hid (rmF 0 ks = false) := by show _ = _; rw [HA.out, HM.out, if_neg h1, if_pos h2]
          go_wp2
          go_ret
          exact ⟨by rw [HR.out, HE.out]; rfl, Below.refl _ _⟩
        · have h2' : decide (7 < x) = false := by simpa using h2
          have HE : Hid (rmF 0 ks = rmF x (ks.drop (k + 1))) := by show _ = _; rw [HA.out, HM.out, if_neg h1, if_neg h2]
          have tk : IntKind.i64.wrap ((k : Int) + 1) = (k : Int) + 1 := by rw [IntKind.wrap_i64]; omega
          go_wp2
          go_roundg gg
          case measure => omega
          case rel => exact ⟨k + 1, x, by omega, rfl, by simp, rfl, HE.out⟩
set_option maxHeartbeats 1000000 in
theorem right_entry (v : Value) (ks : List Int) (w : World) (h : Dk.Ints w w.heap.size v ks) :
    Calls Try.prog 73 #[.agg #[.int .u64 1, .int .u64 0, .int .u8 3, .string ⟨#[]⟩, v]] w fun e w' => e = .returned (.bool (rmB ks)) ∧ Below w.heap.size w w' := by
  have HC := Lib.hid (right_members v ks _ (h.on ((Below.refl _ w).alloc (Nat.le_refl _) (.cells #[.int .u64 1, .int .u64 0, .int .u8 3, .string ⟨#[]⟩, v] 115))))
  obtain ⟨a, c, rfl, -⟩ := h
  generalize rmB ks = r at *
  go_enter Try.func73, Try.ntmps73
  go_wp2_with (go_at_call 76; go_loud ((with_reducible refine HC.out.mono ?_); rintro e w1 ⟨rfl, hb⟩; have HB := Lib.hid (((Below.refl _ w).alloc (Nat.le_refl _) _).trans (hb.mono (by simp))); clear hb))
  go_wp2
  go_ret
  exact ⟨rfl, HB.out⟩
set_option maxHeartbeats 1000000 in
theorem wal_check (v : Value) (ks : List Int) (w : World) (h : Dk.Ints w w.heap.size v ks) :
    Calls Try.prog 68 #[.agg #[.int .u64 1, .int .u64 0, .int .u8 3, .string ⟨#[]⟩, v]] w fun e w' => e = .returned (.int .i64 (if rmB ks = true then 0 else 4)) ∧ Below w.heap.size w w' := by
  have HC := Lib.hid (right_entry v ks _ (h.on ((Below.refl _ w).alloc (Nat.le_refl _) (.cells #[.int .u64 1, .int .u64 0, .int .u8 3, .string ⟨#[]⟩, v] 115))))
  obtain ⟨a, c, rfl, -⟩ := h
  cases hr : rmB ks
  · rw [hr] at HC
    clear hr
    go_enter Try.func68, Try.ntmps68
    go_wp2_with (go_at_call 73; go_loud ((with_reducible refine HC.out.mono ?_); rintro e w1 ⟨rfl, hb⟩; have HB := Lib.hid (((Below.refl _ w).alloc (Nat.le_refl _) _).trans (hb.mono (by simp))); clear hb))
    go_wp2
    go_ret
    exact ⟨rfl, HB.out⟩
  · rw [hr] at HC
    clear hr
    go_enter Try.func68, Try.ntmps68
    go_wp2_with (go_at_call 73; go_loud ((with_reducible refine HC.out.mono ?_); rintro e w1 ⟨rfl, hb⟩; have HB := Lib.hid (((Below.refl _ w).alloc (Nat.le_refl _) _).trans (hb.mono (by simp))); clear hb))
    go_wp2
    go_ret
    exact ⟨rfl, HB.out⟩
set_option maxHeartbeats 1000000 in
theorem snap_members (v : Value) (ks : List Int) (w : World) (h : Dk.Ints w w.heap.size v ks) :
    Calls Try.prog 50 #[v] w fun e w' => e = .returned (.bool (rmB ks)) ∧ Below w.heap.size w w' := by
  have HC := Lib.hid (wal_check v ks _ h)
  obtain ⟨a, c, rfl, -⟩ := h
  cases hr : rmB ks
  · rw [hr] at HC
    simp only [Bool.false_eq_true, if_false] at HC
    clear hr
    go_enter Try.func50, Try.ntmps50
    go_wp2_with (go_at_call 68; go_loud ((with_reducible refine HC.out.mono ?_); rintro e w1 ⟨rfl, hb⟩; have HB := Lib.hid hb; clear hb))
    go_wp2
    go_ret
    exact ⟨rfl, HB.out⟩
  · rw [hr] at HC
    simp only [if_true] at HC
    clear hr
    go_enter Try.func50, Try.ntmps50
    go_wp2_with (go_at_call 68; go_loud ((with_reducible refine HC.out.mono ?_); rintro e w1 ⟨rfl, hb⟩; have HB := Lib.hid hb; clear hb))
    go_wp2
    go_ret
    exact ⟨rfl, HB.out⟩
/-- A snapshot as a value. -/
def snV (i t : Nat) (v : Value) (d : ByteArray) : Value := .agg #[.int .u64 (i : Nat), .int .u64 (t : Nat), v, .string d]
def isN (i t n : Nat) (d : ByteArray) : Bool := decide (i = 0) && decide (t = 0) && decide (n = 0) && d.toList.isEmpty
set_option maxHeartbeats 2000000 in
theorem nothing_any (i t n : Nat) (a : Option Addr) (c : Nat) (d : ByteArray) (w : World) :
    Calls Try.prog 49 #[.agg #[.int .u64 (i : Nat), .int .u64 (t : Nat), .slice a n c, .string d]] w fun e w' => e = .returned (.bool (isN i t n d)) ∧ Below w.heap.size w w' := by
  have HN : Hid (isN i t n d = (decide (i = 0) && decide (t = 0) && decide (n = 0) && d.toList.isEmpty)) := rfl
  generalize isN i t n d = r at *
  by_cases h1 : i = 0
  · subst h1
    by_cases h2 : t = 0
    · subst h2
      by_cases h3 : n = 0
      · subst h3
        by_cases h4 : d.toList = []
        · have HR : Hid (r = true) := HN.out.trans (by simp [h4])
          go_enter Try.func49, Try.ntmps49
          go_wp2
          go_ret
          exact ⟨by rw [HR.out]; rfl, (Below.refl _ _).alloc (Nat.le_refl _) _⟩
        · have h4' : d.toList.isEmpty = false := by rw [← Bool.not_eq_true, List.isEmpty_iff]; exact h4
          have HR : Hid (r = false) := HN.out.trans (by simp [h4'])
          go_enter Try.func49, Try.ntmps49
          go_wp2
          go_ret
          exact ⟨by rw [HR.out]; rfl, (Below.refl _ _).alloc (Nat.le_refl _) _⟩
      · have h3' : ¬ ((n : Int) = 0) := by omega
        have h3'' : ((n : Int) == 0) = false := by simp; omega
        have HR : Hid (r = false) := HN.out.trans (by simp [h3])
        clear h3
        go_enter Try.func49, Try.ntmps49
        go_wp2
        go_ret
        exact ⟨by rw [HR.out]; rfl, (Below.refl _ _).alloc (Nat.le_refl _) _⟩
    · have h2' : ¬ ((t : Int) = 0) := by omega
      have h2'' : ((t : Int) == 0) = false := by simp; omega
      have HR : Hid (r = false) := HN.out.trans (by simp [h2])
      clear h2
      go_enter Try.func49, Try.ntmps49
      go_wp2
      go_ret
      exact ⟨by rw [HR.out]; rfl, (Below.refl _ _).alloc (Nat.le_refl _) _⟩
  · have h1' : ¬ ((i : Int) = 0) := by omega
    have h1'' : ((i : Int) == 0) = false := by simp; omega
    have HR : Hid (r = false) := HN.out.trans (by simp [h1])
    clear h1
    go_enter Try.func49, Try.ntmps49
    go_wp2
    go_ret
    exact ⟨by rw [HR.out]; rfl, (Below.refl _ _).alloc (Nat.le_refl _) _⟩
def chkS (i t : Nat) (ks : List Int) (d : ByteArray) : Nat := if isN i t ks.length d = true then 0 else if rmB ks = true then (if 64512 < d.size then 4 else 0) else 4
set_option maxHeartbeats 2000000 in
theorem snap_check (i t : Nat) (v : Value) (ks : List Int) (d : ByteArray) (w : World) (h : Dk.Ints w w.heap.size v ks) :
    Calls Try.prog 26 #[.agg #[.int .u64 (i : Nat), .int .u64 (t : Nat), v, .string d]] w fun e w' => e = .returned (.int .i64 (chkS i t ks d : Nat)) ∧ Below w.heap.size w w' := by
  have hx := h.on ((Below.refl _ w).alloc (Nat.le_refl _) (.cells #[.int .u64 (i : Nat), .int .u64 (t : Nat), v, .string d] 30))
  have HM := Lib.hid (fun z hb => snap_members v ks z (hx.on hb))
  obtain ⟨a, c, rfl, -⟩ := h
  have HN := Lib.hid (fun w => nothing_any i t ks.length a c d w)
  have HR : Hid (chkS i t ks d = if isN i t ks.length d = true then 0 else if rmB ks = true then (if 64512 < d.size then 4 else 0) else 4) := rfl
  generalize chkS i t ks d = r at *
  clear hx
  cases h1 : isN i t ks.length d
  · rw [h1] at HN
    cases h2 : rmB ks
    · rw [h2] at HM
      have HR2 : Hid (r = 4) := HR.out.trans (by rw [h1, h2]; rfl)
      clear h1 h2
      go_enter Try.func26, Try.ntmps26
      go_wp2_with (go_at_call 49; go_loud ((with_reducible refine (HN.out _).mono ?_); rintro e w1 ⟨rfl, hb⟩; have HB1 := Lib.hid hb; have d2 := hb.cell (p := ⟨w.heap.size, 2, none⟩) (by simp); have d3 := hb.cell (p := ⟨w.heap.size, 3, none⟩) (by simp); simp [go_sem] at d2 d3; clear hb))
      go_wp2_with (go_at_call 50; go_loud ((with_reducible refine (HM.out _ HB1.out).mono ?_); rintro e w2 ⟨rfl, hb⟩; have HB := Lib.hid (((Below.refl _ w).alloc (Nat.le_refl _) _).trans ((HB1.out.mono (by simp)).trans (hb.mono (by have := HB1.out.size; simp at this; omega)))); clear hb))
      go_wp2
      go_ret
      exact ⟨by rw [HR2.out]; rfl, HB.out⟩
    · rw [h2] at HM
      by_cases h3 : 64512 < d.size
      · have HR2 : Hid (r = 4) := HR.out.trans (by rw [h1, h2, if_pos h3]; rfl)
        clear h1 h2
        have h3' : (64512 : Int) < (d.size : Int) := by omega
        clear h3
        go_enter Try.func26, Try.ntmps26
        go_wp2_with (go_at_call 49; go_loud ((with_reducible refine (HN.out _).mono ?_); rintro e w1 ⟨rfl, hb⟩; have HB1 := Lib.hid hb; have d2 := hb.cell (p := ⟨w.heap.size, 2, none⟩) (by simp); have d3 := hb.cell (p := ⟨w.heap.size, 3, none⟩) (by simp); simp [go_sem] at d2 d3; clear hb))
        go_wp2_with (go_at_call 50; go_loud ((with_reducible refine (HM.out _ HB1.out).mono ?_); rintro e w2 ⟨rfl, hb⟩; have d4 := (hb.cell (p := ⟨w.heap.size, 3, none⟩) (by have := HB1.out.size; simp at this; show w.heap.size < _; omega)).trans d3; have HB := Lib.hid (((Below.refl _ w).alloc (Nat.le_refl _) _).trans ((HB1.out.mono (by simp)).trans (hb.mono (by have := HB1.out.size; simp at this; omega)))); clear hb))
        go_wp2
        go_ret
        exact ⟨by rw [HR2.out]; rfl, HB.out⟩
      · have HR2 : Hid (r = 0) := HR.out.trans (by rw [h1, h2, if_neg h3]; rfl)
        clear h1 h2
        have h3' : ¬ (64512 : Int) < (d.size : Int) := by omega
        have h3'' : decide ((64512 : Int) < (d.size : Int)) = false := by simpa using h3'
        clear h3
        go_enter Try.func26, Try.ntmps26
        go_wp2_with (go_at_call 49; go_loud ((with_reducible refine (HN.out _).mono ?_); rintro e w1 ⟨rfl, hb⟩; have HB1 := Lib.hid hb; have d2 := hb.cell (p := ⟨w.heap.size, 2, none⟩) (by simp); have d3 := hb.cell (p := ⟨w.heap.size, 3, none⟩) (by simp); simp [go_sem] at d2 d3; clear hb))
        go_wp2_with (go_at_call 50; go_loud ((with_reducible refine (HM.out _ HB1.out).mono ?_); rintro e w2 ⟨rfl, hb⟩; have d4 := (hb.cell (p := ⟨w.heap.size, 3, none⟩) (by have := HB1.out.size; simp at this; show w.heap.size < _; omega)).trans d3; have HB := Lib.hid (((Below.refl _ w).alloc (Nat.le_refl _) _).trans ((HB1.out.mono (by simp)).trans (hb.mono (by have := HB1.out.size; simp at this; omega)))); clear hb))
        go_wp2
        go_ret
        exact ⟨by rw [HR2.out]; rfl, HB.out⟩
  · rw [h1] at HN
    have HR2 : Hid (r = 0) := HR.out.trans (by rw [h1]; rfl)
    clear h1
    go_enter Try.func26, Try.ntmps26
    go_wp2_with (go_at_call 49; go_loud ((with_reducible refine (HN.out _).mono ?_); rintro e w1 ⟨rfl, hb⟩; have HB := Lib.hid (((Below.refl _ w).alloc (Nat.le_refl _) _).trans (hb.mono (by simp))); clear hb))
    go_wp2
    go_ret
    exact ⟨by rw [HR2.out]; rfl, HB.out⟩
end Hd
end Go.Proofs.Ytjgdmdgiicpemaa

/- THE BYTES of numbers of replicas, and of a snapshot: parts.Members, snap.Encode. -/
namespace Go.Proofs.Ytjgdmdgiicpemaa
open Go.RowKit
namespace Hd
open PM
set_option maxHeartbeats 1000000 in
theorem mclo (B g p i n m : Nat) (b off c : Nat) (l : List UInt8) (x : World) (hv : x.cell? ⟨p, 0, none⟩ = some (.slice (some ⟨b, off, none⟩) n c)) (hi : i < n) (he : x.cell? ⟨b, off + i, none⟩ = some (.int .i64 (m : Nat))) (hm : m < 2 ^ 63)
    (h : Mk x B g l) (hlen : l.length ≤ 100000000000000) (hBw : B ≤ x.heap.size) :
    Calls Try.prog 53 #[.int .i64 (i : Nat), .pointer (some ⟨g, 0, none⟩), .pointer (some ⟨p, 0, none⟩)] x fun e x' => e = .returned (.tuple #[]) ∧ Mk x' B g (l ++ num m) ∧ Fr B g x x' := by
  have HN := Lib.hid (mk_number B g l m x h (by omega) hlen hBw)
  have hi2 : (i : Int) < (n : Int) := by omega
  have tm : IntKind.u64.wrap (m : Int) = (m : Int) := by rw [IntKind.wrap_u64]; omega
  clear h hi
  generalize num m = q at *
  go_enter Try.func53, Try.ntmps53
  go_wp2_with (go_at_call 54; go_loud ((with_reducible refine HN.out.mono ?_); rintro e w1 ⟨rfl, h1, hf1⟩; have H1 := Lib.hid h1; have HF1 := Lib.hid hf1; clear h1 hf1))
  go_wp2
  go_end0
  exact ⟨rfl, H1.out, HF1.out⟩
/-- The bytes of numbers of replicas. -/
def mbs (ms : List Nat) : List UInt8 := num ms.length ++ ms.flatMap num
theorem num_le9 (n : Nat) (h : n < 2 ^ 64) : (num n).length ≤ 9 := by rw [num_length]; have := (nsz_spec n h).1; omega
theorem flat_len (ms : List Nat) (h : ∀ m ∈ ms, m < 2 ^ 63) : (ms.flatMap num).length ≤ 9 * ms.length := by
  induction ms with
  | nil => simp
  | cons a r ih =>
    rw [List.flatMap_cons, List.length_append, List.length_cons]
    have h1 := num_le9 a (by have := h a (by simp); omega)
    have h2 := ih (fun m hm => h m (by simp [hm]))
    omega
theorem mbs_len (ms : List Nat) (hn : ms.length ≤ 1000000) (h : ∀ m ∈ ms, m < 2 ^ 63) : (mbs ms).length ≤ 9 + 9 * ms.length := by
  unfold mbs
  rw [List.length_append]
  have := num_le9 ms.length (by omega)
  have := flat_len ms h
  omega
set_option maxHeartbeats 1000000 in
theorem members_make (v : Value) (ms : List Nat) (w : World) (h : Dk.Ints w w.heap.size v (ms.map fun (k : Nat) => (k : Int))) (hn : ms.length ≤ 1000000) (hm : ∀ m ∈ ms, m < 2 ^ 63) :
    Calls Try.prog 28 #[v] w fun e w' => e = .returned (.string (bs (mbs ms))) ∧ Below w.heap.size w w' := by
  have hmf : ∀ (fn : Fn) (first cap : Array Value) (w : World), (Instr.makeFunc fn first cap).run Try.prog w = .ok (.func fn first cap) w := fun _ _ _ _ => rfl
  obtain ⟨a, c, rfl, -, -, hc⟩ := h
  rw [List.length_map]
  generalize hW2 : (w.alloc (.cells #[.slice a ms.length c] 23)).alloc (.cells #[.pointer none, .slice none 0 0] 97) = W2
  have z2 : W2.heap.size = w.heap.size + 2 := by rw [← hW2]; simp
  have b2 : Below w.heap.size w W2 := by rw [← hW2]; exact ((Below.refl _ _).alloc (Nat.le_refl _) _).alloc (by simp) _
  have cp : W2.cell? ⟨w.heap.size, 0, none⟩ = some (.slice a ms.length c) := by rw [← hW2]; simp [go_sem]
  have hM : Mk W2 (w.heap.size + 1) (w.heap.size + 1) [] := by
    have := Mk.made 97 fits_maker (w.alloc (.cells #[.slice a ms.length c] 23))
    rw [World.size_alloc] at this
    rw [← hW2]; exact this
  have hcells : ∀ i (hi : i < ms.length), ∃ b off, a = some ⟨b, off, none⟩ ∧ b < w.heap.size ∧ W2.cell? ⟨b, off + i, none⟩ = some (.int .i64 (ms[i] : Nat)) := by
    intro i hi
    obtain ⟨b, off, ha, hb, hcc⟩ := hc (by rw [List.length_map]; omega)
    refine ⟨b, off, ha, hb, ?_⟩
    have := hcc i (by rw [List.length_map]; exact hi)
    rw [List.getElem_map] at this
    exact (b2.cell hb).trans this
  have HT : Hid (Calls Try.prog 52 #[.pointer (some ⟨w.heap.size + 1, 0, none⟩), .int .i64 (ms.length : Nat), .func (.func 53) #[] #[.pointer (some ⟨w.heap.size + 1, 0, none⟩), .pointer (some ⟨w.heap.size, 0, none⟩)]]
      W2 fun e w' => e = .returned (.tuple #[]) ∧ Mk w' (w.heap.size + 1) (w.heap.size + 1) (mbs ms) ∧ Fr (w.heap.size + 1) (w.heap.size + 1) W2 w') := by
    have := mtimes _ (Go.Proofs.enters_of Try.func53 (by kernel_rfl) rfl) (.pointer (some ⟨w.heap.size + 1, 0, none⟩)) (.pointer (some ⟨w.heap.size, 0, none⟩)) (w.heap.size + 1) (w.heap.size + 1) ms.length [] (fun i => num ms.length ++ (ms.take i).flatMap num) (fun x => Below (w.heap.size + 1) W2 x) W2
      hM hn (by simp) (by omega) (by simp) (fun x x' hx hf => hx.trans hf.1) (Below.refl _ _) ?_
    · rw [List.take_length] at this
      exact this
    · intro i hi x hx hJ hsz
      obtain ⟨b, off, rfl, hb, hce⟩ := hcells i hi
      have hlen : (num ms.length ++ (ms.take i).flatMap num).length ≤ 100000000000000 := by
        rw [List.length_append]
        have h1 := num_le9 ms.length (by omega)
        have h2 := flat_len (ms.take i) (fun m hm' => hm m (List.mem_of_mem_take hm'))
        have h3 : (ms.take i).length ≤ ms.length := by rw [List.length_take]; omega
        omega
      have := mclo (w.heap.size + 1) (w.heap.size + 1) w.heap.size i ms.length ms[i] b off c _ x ((hJ.cell (by show w.heap.size < _; omega)).trans cp) hi ((hJ.cell (by show b < _; omega)).trans hce) (hm _ (List.getElem_mem hi)) hx hlen hsz
      have e1 : num ms.length ++ (ms.take i).flatMap num ++ num ms[i] = num ms.length ++ (ms.take (i + 1)).flatMap num := by
        rw [List.append_assoc, List.take_add_one, List.getElem?_eq_getElem hi, List.flatMap_append]
        simp
      rw [e1] at this
      exact this
  have HB2 := Lib.hid b2
  have hne : mbs ms ≠ [] := by simp [mbs, num]
  have HBY := Lib.hid (fun x (hx : Mk x (w.heap.size + 1) (w.heap.size + 1) (mbs ms)) => mk_bytes _ _ _ x hx hne)
  subst hW2
  clear hM hcells hc b2 hne
  generalize mbs ms = q at *
  go_enter Try.func28, Try.ntmps28
  go_wp2_with (go_at_call 52; go_loud ((with_reducible refine HT.out.mono ?_); rintro e w1 ⟨rfl, h1, hf1⟩; have H1 := Lib.hid h1; have HF1 := Lib.hid hf1; clear h1 hf1))
  go_wp2_with (go_at_call 55; go_loud ((with_reducible refine (HBY.out _ H1.out).mono ?_); rintro e w2 ⟨rfl, hb⟩; have HB3 := Lib.hid hb; clear hb))
  go_wp2
  go_ret
  exact ⟨rfl, HB2.out.trans ((HF1.out.1.mono (by omega)).trans (HB3.out.mono (by omega)))⟩
/-- The bytes of a snapshot. -/
def snB (i t : Nat) (ms : List Nat) (d : ByteArray) : List UInt8 := num i ++ num t ++ mbs ms ++ txt d.data.toList
def enS (i t : Nat) (ks : List Int) (d : ByteArray) : List UInt8 := if chkS i t ks d = 0 then snB i t (ks.map Int.toNat) d else []
def EncIs (i t : Nat) (ks : List Int) (d : ByteArray) (e : Ending) : Prop := e = .returned (.tuple #[.string (bs (enS i t ks d)), .int .i64 (chkS i t ks d : Nat)])
theorem rmF_small (ks : List Int) : ∀ la : Int, 0 ≤ la → rmF la ks = true → ∀ k ∈ ks, 0 ≤ k ∧ k ≤ 7 := by
  induction ks with
  | nil => intro _ _ _ k hk; simp at hk
  | cons x r ih =>
    intro la hla h k hk
    rw [rmF] at h
    by_cases h1 : x ≤ la
    · rw [if_pos h1] at h; cases h
    · rw [if_neg h1] at h
      by_cases h2 : 7 < x
      · rw [if_pos h2] at h; cases h
      · rw [if_neg h2] at h
        rcases List.mem_cons.1 hk with rfl | hk
        · omega
        · exact ih x (by omega) h k hk
theorem rmF_len (ks : List Int) : ∀ la : Int, rmF la ks = true → (la : Int) + ks.length ≤ max la 7 := by
  induction ks with
  | nil => intro la _; simp; omega
  | cons x r ih =>
    intro la h
    rw [rmF] at h
    by_cases h1 : x ≤ la
    · rw [if_pos h1] at h; cases h
    · rw [if_neg h1] at h
      by_cases h2 : 7 < x
      · rw [if_pos h2] at h; cases h
      · rw [if_neg h2] at h
        have := ih x h
        simp only [List.length_cons]
        omega
theorem chk_ms (i t : Nat) (ks : List Int) (d : ByteArray) (h : chkS i t ks d = 0) : (∀ k ∈ ks, 0 ≤ k ∧ k ≤ 7) ∧ ks.length ≤ 7 ∧ d.size ≤ 64512 := by
  unfold chkS at h
  cases hn : isN i t ks.length d
  · rw [hn] at h
    simp only [Bool.false_eq_true, if_false] at h
    cases hr : rmB ks
    · rw [hr] at h; simp at h
    · rw [hr] at h
      simp only [if_true] at h
      unfold rmB at hr
      rw [Bool.and_eq_true] at hr
      refine ⟨rmF_small ks 0 (by omega) hr.1, ?_, ?_⟩
      · have := rmF_len ks 0 hr.1
        omega
      · by_cases h3 : 64512 < d.size
        · rw [if_pos h3] at h; cases h
        · omega
  · unfold isN at hn
    simp only [Bool.and_eq_true, decide_eq_true_eq, List.isEmpty_iff] at hn
    have h1 : ks = [] := List.length_eq_zero_iff.1 hn.1.2
    subst h1
    refine ⟨by simp, by simp, ?_⟩
    have : d.toList.length = 0 := by rw [hn.2]; rfl
    have h2 : d.size = 0 := by
      rw [ByteArray.toList_eq] at this
      exact this
    omega
theorem toNat_map (ks : List Int) (h : ∀ k ∈ ks, 0 ≤ k ∧ k ≤ 7) : (ks.map Int.toNat).map (fun (k : Nat) => (k : Int)) = ks := by
  rw [List.map_map]
  conv => rhs; rw [← List.map_id ks]
  apply List.map_congr_left
  intro k hk
  have := h k hk
  show ((k.toNat : Nat) : Int) = k
  omega
set_option maxRecDepth 100000 in
set_option maxHeartbeats 1000000 in
theorem snap_encode (i t : Nat) (v : Value) (ks : List Int) (d : ByteArray) (w : World) (h : Dk.Ints w w.heap.size v ks) (hi : i < 2 ^ 64) (ht : t < 2 ^ 64) :
    Calls Try.prog 13 #[.agg #[.int .u64 (i : Nat), .int .u64 (t : Nat), v, .string d]] w fun e w' => EncIs i t ks d e ∧ Below w.heap.size w w' := by
  have HI := Lib.hid h
  have HCK := Lib.hid (fun w (h : Dk.Ints w w.heap.size v ks) => snap_check i t v ks d w h)
  obtain ⟨a, c, rfl, -⟩ := h
  unfold EncIs
  by_cases h0 : chkS i t ks d = 0
  · obtain ⟨hk7, hk8, hd⟩ := chk_ms i t ks d h0
    have e0 : enS i t ks d = snB i t (ks.map Int.toNat) d := by unfold enS; rw [if_pos h0]
    rw [e0, h0]
    rw [h0] at HCK
    have G1 := fun w => PackBytes.number_own i w hi
    have G2 := fun w => PackBytes.number_own t w ht
    have G3 := fun w (hw : Dk.Ints w w.heap.size (.slice a ks.length c) ks) => members_make (.slice a ks.length c) (ks.map Int.toNat) w (by rw [toNat_map ks hk7]; exact hw) (by rw [List.length_map]; omega) (by
      intro m hm
      obtain ⟨k, hk, rfl⟩ := List.mem_map.1 hm
      have := hk7 k hk
      omega)
    have G4 := fun w => PackText.text_own d w (by show d.size ≤ 140737488351232; omega)
    unfold PackText.txtB at G4
    have l1 := num_le9 i hi
    have l2 := num_le9 t ht
    have l3 := mbs_len (ks.map Int.toNat) (by rw [List.length_map]; omega) (by
      intro m hm
      obtain ⟨k, hk, rfl⟩ := List.mem_map.1 hm
      have := hk7 k hk
      omega)
    have l4 : (txt d.data.toList).length ≤ 64600 := by
      unfold txt
      rw [List.length_append]
      have := num_le9 d.data.toList.length (by show d.size < _; omega)
      have e : d.data.toList.length = d.size := rfl
      omega
    rw [List.length_map] at l3
    have eB : snB i t (ks.map Int.toNat) d = num i ++ num t ++ mbs (ks.map Int.toNat) ++ txt d.data.toList := rfl
    rw [eB, ← bs_append, ← bs_append, ← bs_append]
    have s1 : (bs (num i)).size ≤ 9 := by rw [bs_size]; exact l1
    have s2 : (bs (num t)).size ≤ 9 := by rw [bs_size]; exact l2
    have s3 : (bs (mbs (ks.map Int.toNat))).size ≤ 100 := by rw [bs_size]; omega
    have s4 : (bs (txt d.data.toList)).size ≤ 64600 := by rw [bs_size]; exact l4
    clear l1 l2 l3 l4 eB e0 h0 hk7 hk8 hd
    generalize bs (num i) = q1 at *
    generalize bs (num t) = q2 at *
    generalize bs (mbs (ks.map Int.toNat)) = q3 at *
    generalize bs (txt d.data.toList) = q4 at *
    have z1 : q1.size + q2.size ≤ 9223372036854775807 := by omega
    have z2 : q1.size + q2.size + q3.size ≤ 9223372036854775807 := by omega
    have z3 : q1.size + q2.size + q3.size + q4.size ≤ 9223372036854775807 := by omega
    have z1' : ¬ 9223372036854775807 < q1.size + q2.size := by omega
    have z2' : ¬ 9223372036854775807 < q1.size + q2.size + q3.size := by omega
    have z3' : ¬ 9223372036854775807 < q1.size + q2.size + q3.size + q4.size := by omega
    have y1 : q1.size + q2.size ≤ maxLen := by unfold maxLen; omega
    have y2 : q1.size + q2.size + q3.size ≤ maxLen := by unfold maxLen; omega
    have y3 : q1.size + q2.size + q3.size + q4.size ≤ maxLen := by unfold maxLen; omega
    clear s1 s2 s3 s4
    have L0 : Hid (∀ z, (z.cell? ⟨w.heap.size, 0, none⟩ = some (.int .u64 (i : Nat)) ∧ z.cell? ⟨w.heap.size, 1, none⟩ = some (.int .u64 (t : Nat)) ∧ z.cell? ⟨w.heap.size, 2, none⟩ = some (.slice a ks.length c) ∧ z.cell? ⟨w.heap.size, 3, none⟩ = some (.string d) ∧ Hid (Below w.heap.size w z ∧ w.heap.size + 1 ≤ z.heap.size)) → ∀ z', Below z.heap.size z z' → (z'.cell? ⟨w.heap.size, 0, none⟩ = some (.int .u64 (i : Nat)) ∧ z'.cell? ⟨w.heap.size, 1, none⟩ = some (.int .u64 (t : Nat)) ∧ z'.cell? ⟨w.heap.size, 2, none⟩ = some (.slice a ks.length c) ∧ z'.cell? ⟨w.heap.size, 3, none⟩ = some (.string d) ∧ Hid (Below w.heap.size w z' ∧ w.heap.size + 1 ≤ z'.heap.size))) := by
      intro z h z' hb
      obtain ⟨a0, a1, a2, a3, hS⟩ := h
      have hz := hS.out.2
      have k : ∀ j u, z.cell? ⟨w.heap.size, j, none⟩ = some u → z'.cell? ⟨w.heap.size, j, none⟩ = some u := fun j u hu => (hb.cell (by show w.heap.size < _; omega)).trans hu
      exact ⟨k _ _ a0, k _ _ a1, k _ _ a2, k _ _ a3, hS.out.1.trans (hb.mono (by omega)), by have := hb.size; omega⟩
    have KB : Hid (∀ z, (z.cell? ⟨w.heap.size, 0, none⟩ = some (.int .u64 (i : Nat)) ∧ z.cell? ⟨w.heap.size, 1, none⟩ = some (.int .u64 (t : Nat)) ∧ z.cell? ⟨w.heap.size, 2, none⟩ = some (.slice a ks.length c) ∧ z.cell? ⟨w.heap.size, 3, none⟩ = some (.string d) ∧ Hid (Below w.heap.size w z ∧ w.heap.size + 1 ≤ z.heap.size)) → Below w.heap.size w z) := fun z h => h.2.2.2.2.out.1
    have K1 : Hid (∀ z, (z.cell? ⟨w.heap.size, 0, none⟩ = some (.int .u64 (i : Nat)) ∧ z.cell? ⟨w.heap.size, 1, none⟩ = some (.int .u64 (t : Nat)) ∧ z.cell? ⟨w.heap.size, 2, none⟩ = some (.slice a ks.length c) ∧ z.cell? ⟨w.heap.size, 3, none⟩ = some (.string d) ∧ Hid (Below w.heap.size w z ∧ w.heap.size + 1 ≤ z.heap.size)) → Calls Try.prog 27 #[.int .u64 (i : Nat)] z fun e z' => e = .returned (.string q1) ∧ (z'.cell? ⟨w.heap.size, 0, none⟩ = some (.int .u64 (i : Nat)) ∧ z'.cell? ⟨w.heap.size, 1, none⟩ = some (.int .u64 (t : Nat)) ∧ z'.cell? ⟨w.heap.size, 2, none⟩ = some (.slice a ks.length c) ∧ z'.cell? ⟨w.heap.size, 3, none⟩ = some (.string d) ∧ Hid (Below w.heap.size w z' ∧ w.heap.size + 1 ≤ z'.heap.size))) := fun z h => (G1 z).mono fun e z' ⟨he, hb⟩ => ⟨he, L0.out z h z' hb⟩
    have K2 : Hid (∀ z, (z.cell? ⟨w.heap.size, 0, none⟩ = some (.int .u64 (i : Nat)) ∧ z.cell? ⟨w.heap.size, 1, none⟩ = some (.int .u64 (t : Nat)) ∧ z.cell? ⟨w.heap.size, 2, none⟩ = some (.slice a ks.length c) ∧ z.cell? ⟨w.heap.size, 3, none⟩ = some (.string d) ∧ Hid (Below w.heap.size w z ∧ w.heap.size + 1 ≤ z.heap.size)) → Calls Try.prog 27 #[.int .u64 (t : Nat)] z fun e z' => e = .returned (.string q2) ∧ (z'.cell? ⟨w.heap.size, 0, none⟩ = some (.int .u64 (i : Nat)) ∧ z'.cell? ⟨w.heap.size, 1, none⟩ = some (.int .u64 (t : Nat)) ∧ z'.cell? ⟨w.heap.size, 2, none⟩ = some (.slice a ks.length c) ∧ z'.cell? ⟨w.heap.size, 3, none⟩ = some (.string d) ∧ Hid (Below w.heap.size w z' ∧ w.heap.size + 1 ≤ z'.heap.size))) := fun z h => (G2 z).mono fun e z' ⟨he, hb⟩ => ⟨he, L0.out z h z' hb⟩
    have K3 : Hid (∀ z, (z.cell? ⟨w.heap.size, 0, none⟩ = some (.int .u64 (i : Nat)) ∧ z.cell? ⟨w.heap.size, 1, none⟩ = some (.int .u64 (t : Nat)) ∧ z.cell? ⟨w.heap.size, 2, none⟩ = some (.slice a ks.length c) ∧ z.cell? ⟨w.heap.size, 3, none⟩ = some (.string d) ∧ Hid (Below w.heap.size w z ∧ w.heap.size + 1 ≤ z.heap.size)) → Calls Try.prog 28 #[.slice a ks.length c] z fun e z' => e = .returned (.string q3) ∧ (z'.cell? ⟨w.heap.size, 0, none⟩ = some (.int .u64 (i : Nat)) ∧ z'.cell? ⟨w.heap.size, 1, none⟩ = some (.int .u64 (t : Nat)) ∧ z'.cell? ⟨w.heap.size, 2, none⟩ = some (.slice a ks.length c) ∧ z'.cell? ⟨w.heap.size, 3, none⟩ = some (.string d) ∧ Hid (Below w.heap.size w z' ∧ w.heap.size + 1 ≤ z'.heap.size))) := fun z h => (G3 z (HI.out.on h.2.2.2.2.out.1)).mono fun e z' ⟨he, hb⟩ => ⟨he, L0.out z h z' hb⟩
    have K4 : Hid (∀ z, (z.cell? ⟨w.heap.size, 0, none⟩ = some (.int .u64 (i : Nat)) ∧ z.cell? ⟨w.heap.size, 1, none⟩ = some (.int .u64 (t : Nat)) ∧ z.cell? ⟨w.heap.size, 2, none⟩ = some (.slice a ks.length c) ∧ z.cell? ⟨w.heap.size, 3, none⟩ = some (.string d) ∧ Hid (Below w.heap.size w z ∧ w.heap.size + 1 ≤ z.heap.size)) → Calls Try.prog 29 #[.string d] z fun e z' => e = .returned (.string q4) ∧ (z'.cell? ⟨w.heap.size, 0, none⟩ = some (.int .u64 (i : Nat)) ∧ z'.cell? ⟨w.heap.size, 1, none⟩ = some (.int .u64 (t : Nat)) ∧ z'.cell? ⟨w.heap.size, 2, none⟩ = some (.slice a ks.length c) ∧ z'.cell? ⟨w.heap.size, 3, none⟩ = some (.string d) ∧ Hid (Below w.heap.size w z' ∧ w.heap.size + 1 ≤ z'.heap.size))) := fun z h => (G4 z).mono fun e z' ⟨he, hb⟩ => ⟨he, L0.out z h z' hb⟩
    have HCW := Lib.hid (HCK.out _ (HI.out.on ((Below.refl _ w).alloc (Nat.le_refl _) (.cells #[.int .u64 (i : Nat), .int .u64 (t : Nat), .slice a ks.length c, .string d] 30))))
    have HS0 : Hid (∀ z, Below (w.alloc (.cells #[.int .u64 (i : Nat), .int .u64 (t : Nat), .slice a ks.length c, .string d] 30)).heap.size (w.alloc (.cells #[.int .u64 (i : Nat), .int .u64 (t : Nat), .slice a ks.length c, .string d] 30)) z → (z.cell? ⟨w.heap.size, 0, none⟩ = some (.int .u64 (i : Nat)) ∧ z.cell? ⟨w.heap.size, 1, none⟩ = some (.int .u64 (t : Nat)) ∧ z.cell? ⟨w.heap.size, 2, none⟩ = some (.slice a ks.length c) ∧ z.cell? ⟨w.heap.size, 3, none⟩ = some (.string d) ∧ Hid (Below w.heap.size w z ∧ w.heap.size + 1 ≤ z.heap.size))) := by
      intro z hb
      have hz := hb.size
      simp only [World.size_alloc] at hz
      have k : ∀ j u, (w.alloc (.cells #[.int .u64 (i : Nat), .int .u64 (t : Nat), .slice a ks.length c, .string d] 30)).cell? ⟨w.heap.size, j, none⟩ = some u → z.cell? ⟨w.heap.size, j, none⟩ = some u := fun j u hu => (hb.cell (by simp)).trans hu
      refine ⟨k _ _ (by simp [go_sem]), k _ _ (by simp [go_sem]), k _ _ (by simp [go_sem]), k _ _ (by simp [go_sem]), ((Below.refl _ w).alloc (Nat.le_refl _) _).trans (hb.mono (by simp)), by omega⟩
    clear G1 G2 G3 G4 L0 HCK
    go_enter Try.func13, Try.ntmps13
    go_wp2_with (go_at_call 26; go_loud (refine HCW.out.mono ?_; rintro e w1 ⟨rfl, hb⟩; have HB1 := Lib.hid hb; have hS0 := HS0.out _ (hb.drew); clear hb))
    go_region_held3 (fun z => z.cell? ⟨w.heap.size, 0, none⟩ = some (.int .u64 (i : Nat)) ∧ z.cell? ⟨w.heap.size, 1, none⟩ = some (.int .u64 (t : Nat)) ∧ z.cell? ⟨w.heap.size, 2, none⟩ = some (.slice a ks.length c) ∧ z.cell? ⟨w.heap.size, 3, none⟩ = some (.string d) ∧ Hid (Below w.heap.size w z ∧ w.heap.size + 1 ≤ z.heap.size)) (first | assumption)
      (first
        | (go_at_call 27; (with_reducible refine (K1.out _ ?_).mono ?_); assumption; rintro e w7 ⟨rfl, hS⟩)
        | (go_at_call 27; (with_reducible refine (K2.out _ ?_).mono ?_); assumption; rintro e w7 ⟨rfl, hS⟩)
        | (go_at_call 28; (with_reducible refine (K3.out _ ?_).mono ?_); assumption; rintro e w7 ⟨rfl, hS⟩)
        | (go_at_call 29; go_loud ((with_reducible refine (K4.out _ ?_).mono ?_); assumption; rintro e w7 ⟨rfl, hS⟩)))
    all_goals
      go_wp2
      go_ret2
      exact ⟨rfl, KB.out _ hS⟩
  · have e0 : enS i t ks d = [] := by unfold enS; rw [if_neg h0]
    have e1 : chkS i t ks d = 4 := by
      unfold chkS at h0 ⊢
      split
      · rename_i h1; rw [if_pos h1] at h0; exact absurd rfl h0
      · rename_i h1
        rw [if_neg h1] at h0
        split
        · rename_i h2
          rw [if_pos h2] at h0
          split
          · rfl
          · rename_i h3; rw [if_neg h3] at h0; exact absurd rfl h0
        · rfl
    rw [e0, e1]
    rw [e1] at HCK
    have HCW := Lib.hid (HCK.out _ (HI.out.on ((Below.refl _ w).alloc (Nat.le_refl _) (.cells #[.int .u64 (i : Nat), .int .u64 (t : Nat), .slice a ks.length c, .string d] 30))))
    clear HCK e0 e1 h0
    go_enter Try.func13, Try.ntmps13
    go_wp2_with (go_at_call 26; go_loud (refine HCW.out.mono ?_; rintro e w1 ⟨rfl, hb⟩; have HB1 := Lib.hid (((Below.refl _ w).alloc (Nat.le_refl _) _).trans (hb.mono (by simp))); clear hb))
    go_wp2
    go_ret2
    exact ⟨rfl, HB1.out⟩
end Hd
end Go.Proofs.Ytjgdmdgiicpemaa

/- A SNAPSHOT OUT OF BYTES: (*snap.taker).snap, snap.Decode. -/
namespace Go.Proofs.Ytjgdmdgiicpemaa
open Go.RowKit
namespace Hd
open PM
theorem Only.new {g p : Nat} {a w : World} (h : Only g a w) (hp : a.heap.size ≤ p) (o : Nat) (u : Value) : Only g a (w.setCell ⟨p, o, none⟩ u) :=
  ⟨h.os, h.tape, h.output, by simpa [World.setCell] using h.size, fun i hi hne => (Below.heap_setCell w ⟨p, o, none⟩ u i (by rintro rfl; exact Nat.lt_irrefl _ (Nat.lt_of_lt_of_le hi hp))).trans (h.block i hi hne)⟩
theorem Only.al {g : Nat} {a w : World} (h : Only g a w) (o : Obj) : Only g a (w.alloc o) :=
  ⟨h.os, h.tape, h.output, by have := h.size; simp; omega, fun i hi hne => (Lib.alloc_old w o i (Nat.lt_of_lt_of_le hi h.size)).trans (h.block i hi hne)⟩
/-- Block B has these four cells. -/
def Bx4 (w : World) (B : Nat) (a b c d : Value) : Prop := ∃ T, w.heap[B]? = some (.cells #[a, b, c, d] T (0, 0))
theorem Bx4.made (w : World) (a b c d : Value) (T : TypeId) : Bx4 (w.alloc (.cells #[a, b, c, d] T)) w.heap.size a b c d := ⟨T, heap_alloc_new w _⟩
theorem Bx4.lt {w : World} {B : Nat} {a b c d : Value} (h : Bx4 w B a b c d) : B < w.heap.size := by
  obtain ⟨T, h⟩ := h
  exact (Array.getElem?_eq_some_iff.1 h).1
theorem Bx4.cells {w : World} {B : Nat} {a b c d : Value} (h : Bx4 w B a b c d) : w.cell? ⟨B, 0, none⟩ = some a ∧ w.cell? ⟨B, 1, none⟩ = some b ∧ w.cell? ⟨B, 2, none⟩ = some c ∧ w.cell? ⟨B, 3, none⟩ = some d := by
  obtain ⟨T, h⟩ := h
  refine ⟨?_, ?_, ?_, ?_⟩ <;> simp [World.cell?, h]
theorem Bx4.fz {w : World} {B : Nat} {a b c d : Value} (h : Bx4 w B a b c d) : w.frozen? ⟨B, 0, none⟩ = false ∧ w.frozen? ⟨B, 1, none⟩ = false ∧ w.frozen? ⟨B, 2, none⟩ = false ∧ w.frozen? ⟨B, 3, none⟩ = false := by
  obtain ⟨T, h⟩ := h
  refine ⟨?_, ?_, ?_, ?_⟩ <;> simp [World.frozen?, h]
theorem Bx4.set0 {w : World} {B : Nat} {a b c d : Value} (h : Bx4 w B a b c d) (u : Value) : Bx4 (w.setCell ⟨B, 0, none⟩ u) B u b c d := by obtain ⟨T, h⟩ := h; exact ⟨T, by simp [World.setCell, Array.getElem?_modify, h]⟩
theorem Bx4.set1 {w : World} {B : Nat} {a b c d : Value} (h : Bx4 w B a b c d) (u : Value) : Bx4 (w.setCell ⟨B, 1, none⟩ u) B a u c d := by obtain ⟨T, h⟩ := h; exact ⟨T, by simp [World.setCell, Array.getElem?_modify, h]⟩
theorem Bx4.set2 {w : World} {B : Nat} {a b c d : Value} (h : Bx4 w B a b c d) (u : Value) : Bx4 (w.setCell ⟨B, 2, none⟩ u) B a b u d := by obtain ⟨T, h⟩ := h; exact ⟨T, by simp [World.setCell, Array.getElem?_modify, h]⟩
theorem Bx4.set3 {w : World} {B : Nat} {a b c d : Value} (h : Bx4 w B a b c d) (u : Value) : Bx4 (w.setCell ⟨B, 3, none⟩ u) B a b c u := by obtain ⟨T, h⟩ := h; exact ⟨T, by simp [World.setCell, Array.getElem?_modify, h]⟩
theorem Bx4.far {w : World} {B p : Nat} {a b c d : Value} (h : Bx4 w B a b c d) (hp : p ≠ B) (o : Nat) (u : Value) : Bx4 (w.setCell ⟨p, o, none⟩ u) B a b c d :=
  h.imp fun _ h => (Below.heap_setCell w ⟨p, o, none⟩ u B (by rintro rfl; exact hp rfl)).trans h
theorem Bx4.only {w w' : World} {g B : Nat} {a b c d : Value} (h : Bx4 w B a b c d) (ho : Only g w w') (hg : B ≠ g) : Bx4 w' B a b c d := by
  have hlt := h.lt
  exact h.imp fun _ h => (ho.block B hlt (by intro e; injection e with e; exact hg e)).trans h
theorem Bx4.below {w w' : World} {B : Nat} {a b c d : Value} (h : Bx4 w B a b c d) (hb : Below w.heap.size w w') : Bx4 w' B a b c d := by
  have hlt := h.lt
  exact h.imp fun _ h => (hb.block B hlt).trans h
theorem load_snap (w : World) (B : Nat) (i t : Int) (v : Value) (d : ByteArray) (h : Bx4 w B (.int .u64 i) (.int .u64 t) v (.string d)) :
    (loadVar 30 ⟨B, 0, none⟩).run Try.prog w = .ok (.agg #[.int .u64 i, .int .u64 t, v, .string d]) w := by
  obtain ⟨c0, c1, c2, c3⟩ := h.cells
  have a := Try.isAgg30 w
  have c := Try.sizeOf30 w
  go_simp
theorem bodyPost_snap {fn : Func} {p u : Tmp} (h : fn.results = #[.cell p 30, .tmp u]) {R : Ending → World → Prop} {a : Act} {w : World} (B : Nat) (i t : Int) (v : Value) (d : ByteArray) (hd : a.defers = [])
    (hp : a.tmps.getD p undef = .pointer (some ⟨B, 0, none⟩)) (hx : Bx4 w B (.int .u64 i) (.int .u64 t) v (.string d))
    (hR : R (.returned (.tuple #[.agg #[.int .u64 i, .int .u64 t, v, .string d], a.tmps.getD u undef])) w) : bodyPost Try.prog fn R .ret a w := by
  refine bodyPost_ret ?_ hd hR
  rw [results_cell_tmp h, hp]
  have := load_snap w B i t v d hx
  simp [asAddr, this, Result.andThen]
/-- What is taken of a snapshot's bytes. -/
def sm (l : List UInt8) : List UInt8 := tnR (tnR l)
def sx (l : List UInt8) : List UInt8 := mbR (sm l) (upV 7 (sm l))
def sdMs (l : List UInt8) : List Nat := mbL (sm l) (upV 7 (sm l))
def sdDn (l : List UInt8) : Bool := !(decide (ttW (sx l) ≠ 0)) && (ttR (sx l)).isEmpty
def sdCk (l : List UInt8) : Nat := chkS (tnN l) (tnN (tnR l)) ((sdMs l).map fun (k : Nat) => (k : Int)) (bs (ttT (sx l)))
def sdOk (l : List UInt8) : Bool := sdDn l && decide (sdCk l = 0)
def sdI (l : List UInt8) : Nat := if sdOk l = true then tnN l else 0
def sdT (l : List UInt8) : Nat := if sdOk l = true then tnN (tnR l) else 0
def sdM (l : List UInt8) : List Nat := if sdOk l = true then sdMs l else []
def sdD (l : List UInt8) : List UInt8 := if sdOk l = true then ttT (sx l) else []
def sdE (l : List UInt8) : Nat := if sdOk l = true then 0 else 4
/-- What taking a snapshot comes to. -/
def SnIs (w : World) (l : List UInt8) (e : Ending) (w' : World) : Prop :=
  ∃ v', e = .returned (.tuple #[.agg #[.int .u64 (sdI l : Nat), .int .u64 (sdT l : Nat), v', .string (bs (sdD l))], .int .i64 (sdE l : Nat)]) ∧ OwnI w' w.heap.size v' (sdM l)
theorem SnIs.bad {w w' : World} {l : List UInt8} (h : sdOk l = false) : SnIs w l (.returned (.tuple #[.agg #[.int .u64 0, .int .u64 0, .slice none 0 0, .string ⟨#[]⟩], .int .i64 4])) w' := by
  refine ⟨.slice none 0 0, ?_, ?_⟩
  · unfold sdI sdT sdD sdE; rw [h]; rfl
  · unfold sdM; rw [h]; exact OwnI.nil _ _
theorem SnIs.ok {w w' : World} {l : List UInt8} (h : sdOk l = true) {v' : Value} (ho : OwnI w' w.heap.size v' (sdMs l)) : SnIs w l (.returned (.tuple #[.agg #[.int .u64 (tnN l : Nat), .int .u64 (tnN (tnR l) : Nat), v', .string (bs (ttT (sx l)))], .int .i64 0])) w' := by
  refine ⟨v', ?_, ?_⟩
  · unfold sdI sdT sdD sdE; rw [h]; rfl
  · unfold sdM; rw [h]; exact ho
/-- Where the taking stands: what is left, the box of what was taken, the box of the result. -/
structure Sst (w0 : World) (g : Nat) (l : List UInt8) (b : Bool) (a0 a1 a2 a3 : Value) (x : World) : Prop where
  tk : Tk x g l b
  bx : Bx4 x (w0.heap.size + 1) a0 a1 a2 a3
  rb : Bx4 x w0.heap.size (.int .u64 0) (.int .u64 0) (.slice none 0 0) (.string ⟨#[]⟩)
  on : Only g w0 x
  lt : g < w0.heap.size
theorem Sst.go {w0 : World} {g : Nat} {l l2 : List UInt8} {b b2 : Bool} {a0 a1 a2 a3 : Value} {x x' : World} (h : Sst w0 g l b a0 a1 a2 a3 x) (ht : Tk x' g l2 b2) (ho : Only g x x') : Sst w0 g l2 b2 a0 a1 a2 a3 x' :=
  ⟨ht, h.bx.only ho (by have := h.lt; omega), h.rb.only ho (by have := h.lt; omega), h.on.trans ho, h.lt⟩
theorem Sst.tput {w0 : World} {g : Nat} {l : List UInt8} {b : Bool} {a0 a1 a2 a3 : Value} {x : World} (h : Sst w0 g l b a0 a1 a2 a3 x) (o : Nat) (u : Value) : Tk (x.setCell ⟨w0.heap.size + 1, o, none⟩ u) g l b :=
  h.tk.blk (Below.heap_setCell x ⟨w0.heap.size + 1, o, none⟩ u g (by have := h.lt; show g ≠ w0.heap.size + 1; omega))
theorem Sst.p0 {w0 : World} {g : Nat} {l : List UInt8} {b : Bool} {a0 a1 a2 a3 : Value} {x : World} (h : Sst w0 g l b a0 a1 a2 a3 x) (u : Value) : Sst w0 g l b u a1 a2 a3 (x.setCell ⟨w0.heap.size + 1, 0, none⟩ u) :=
  ⟨h.tput 0 u, h.bx.set0 u, h.rb.far (by omega) 0 u, h.on.new (by omega) 0 u, h.lt⟩
theorem Sst.p1 {w0 : World} {g : Nat} {l : List UInt8} {b : Bool} {a0 a1 a2 a3 : Value} {x : World} (h : Sst w0 g l b a0 a1 a2 a3 x) (u : Value) : Sst w0 g l b a0 u a2 a3 (x.setCell ⟨w0.heap.size + 1, 1, none⟩ u) :=
  ⟨h.tput 1 u, h.bx.set1 u, h.rb.far (by omega) 1 u, h.on.new (by omega) 1 u, h.lt⟩
theorem Sst.p2 {w0 : World} {g : Nat} {l : List UInt8} {b : Bool} {a0 a1 a2 a3 : Value} {x : World} (h : Sst w0 g l b a0 a1 a2 a3 x) (u : Value) : Sst w0 g l b a0 a1 u a3 (x.setCell ⟨w0.heap.size + 1, 2, none⟩ u) :=
  ⟨h.tput 2 u, h.bx.set2 u, h.rb.far (by omega) 2 u, h.on.new (by omega) 2 u, h.lt⟩
theorem Sst.p3 {w0 : World} {g : Nat} {l : List UInt8} {b : Bool} {a0 a1 a2 a3 : Value} {x : World} (h : Sst w0 g l b a0 a1 a2 a3 x) (u : Value) : Sst w0 g l b a0 a1 a2 u (x.setCell ⟨w0.heap.size + 1, 3, none⟩ u) :=
  ⟨h.tput 3 u, h.bx.set3 u, h.rb.far (by omega) 3 u, h.on.new (by omega) 3 u, h.lt⟩
theorem ttR_length (l : List UInt8) : (ttR l).length ≤ l.length := by
  unfold ttR
  split
  · rw [List.length_drop]
    have := tnR_length l
    omega
  · exact Nat.zero_le _
set_option maxRecDepth 100000 in
set_option maxHeartbeats 2000000 in
theorem snap_take (g : Nat) (l : List UInt8) (b : Bool) (w : World) (h : Tk w g l b) (hl : l.length ≤ maxLen) :
    Calls Try.prog 22 #[.pointer (some ⟨g, 0, none⟩)] w fun e w' => SnIs w l e w' ∧ Only g w w' := by
  have HS0 : Hid (Sst w g l b (.int .u64 0) (.int .u64 0) (.slice none 0 0) (.string ⟨#[]⟩) ((w.alloc (.cells #[.int .u64 0, .int .u64 0, .slice none 0 0, .string ⟨#[]⟩] 30)).alloc (.cells #[.int .u64 0, .int .u64 0, .slice none 0 0, .string ⟨#[]⟩] 30))) := by
    have hb : Below w.heap.size w ((w.alloc (.cells #[.int .u64 0, .int .u64 0, .slice none 0 0, .string ⟨#[]⟩] 30)).alloc (.cells #[.int .u64 0, .int .u64 0, .slice none 0 0, .string ⟨#[]⟩] 30)) := ((Below.refl _ _).alloc (Nat.le_refl _) _).alloc (by simp) _
    refine ⟨h.below hb h.lt, ?_, ?_, Only.of_below hb, h.lt⟩
    · have := Bx4.made (w.alloc (.cells #[.int .u64 0, .int .u64 0, .slice none 0 0, .string ⟨#[]⟩] 30)) (.int .u64 0) (.int .u64 0) (.slice none 0 0) (.string ⟨#[]⟩) 30
      rw [World.size_alloc] at this
      exact this
    · exact (Bx4.made w (.int .u64 0) (.int .u64 0) (.slice none 0 0) (.string ⟨#[]⟩) 30).below ((Below.refl _ _).alloc (Nat.le_refl _) _)
  have HBAD := Lib.hid (fun (h : sdOk l = false) w' => SnIs.bad (w := w) (w' := w') h)
  have HGD := Lib.hid (fun (h : sdOk l = true) w' v' ho => SnIs.ok (w := w) (w' := w') h (v' := v') ho)
  have HL := Lib.hid hl
  clear h hl
  go_enter Try.func22, Try.ntmps22
  go_wp2_with fail
  refine (number_part g l b _ HS0.out.tk HL.out).mono ?_
  rintro e w1 ⟨rfl, ht, ho⟩
  have HS1 := Lib.hid (HS0.out.go ht ho)
  obtain ⟨c0, c1, c2, c3⟩ := HS1.out.bx.cells
  obtain ⟨f0, f1, f2, f3⟩ := HS1.out.bx.fz
  clear ht ho
  go_wp2_with fail
  have HS2 := Lib.hid (HS1.out.p0 (.int .u64 (tnN l : Nat)))
  have HL1 := Lib.hid (Nat.le_trans (tnR_length l) HL.out)
  refine (number_part g (tnR l) _ _ HS2.out.tk HL1.out).mono ?_
  rintro e w2 ⟨rfl, ht, ho⟩
  have HS3 := Lib.hid (HS2.out.go ht ho)
  clear ht ho c0 c1 c2 c3 f0 f1 f2 f3
  obtain ⟨c0, c1, c2, c3⟩ := HS3.out.bx.cells
  obtain ⟨f0, f1, f2, f3⟩ := HS3.out.bx.fz
  go_wp2_with fail
  have HS4 := Lib.hid (HS3.out.p1 (.int .u64 (tnN (tnR l) : Nat)))
  have HL2 := Lib.hid (Nat.le_trans (tnR_length (tnR l)) HL1.out)
  refine (members_take g (tnR (tnR l)) _ _ HS4.out.tk HL2.out).mono ?_
  rintro e w3 ⟨v3, rfl, hown, ht, ho⟩
  have hown2 : OwnI w3 _ v3 (sdMs l) := hown
  obtain ⟨a3, k3, rfl⟩ := hown2.slice
  have HS5 : Hid (Sst w g (sx l) (mbB (tnR (tnR l)) (upV 7 (tnR (tnR l)))) _ _ _ _ w3) := HS4.out.go ht ho
  have hz2 : w.heap.size + 1 < w2.heap.size := HS3.out.bx.lt
  have HO3 := Lib.hid (hown2.less (b2 := w.heap.size + 2) (by simp; omega))
  clear ht ho hown hown2 c0 c1 c2 c3 f0 f1 f2 f3
  obtain ⟨c0, c1, c2, c3⟩ := HS5.out.bx.cells
  obtain ⟨f0, f1, f2, f3⟩ := HS5.out.bx.fz
  have HLX : Hid ((sx l).length ≤ maxLen) := Nat.le_trans (mbR_length _ _) HL2.out
  have hlen : (sdMs l).length ≤ 7 := by unfold sdMs; rw [mbL_length]; exact upV_le 7 _
  have HM7 : Hid (∀ x ∈ sdMs l, x ≤ 7) := mbL_le _ _
  have HOK : Hid (sdOk l = ((!(decide (ttW (sx l) ≠ 0)) && (ttR (sx l)).isEmpty) && decide (sdCk l = 0))) := rfl
  have HCK : Hid (sdCk l = chkS (tnN l) (tnN (tnR l)) ((sdMs l).map fun (k : Nat) => (k : Int)) (bs (ttT (sx l)))) := rfl
  have HI1 := Lib.hid (tnN_lt l)
  have HI2 := Lib.hid (tnN_lt (tnR l))
  generalize mbB (tnR (tnR l)) (upV 7 (tnR (tnR l))) = b3 at *
  generalize sdOk l = ok at *
  generalize sdCk l = ck at *
  generalize sx l = X at *
  generalize sdMs l = ms at *
  go_wp2_with fail
  have HS6 := Lib.hid (HS5.out.p2 (.slice a3 ms.length k3))
  refine (text_part g X _ _ HS6.out.tk HLX.out).mono ?_
  rintro e w4 ⟨rfl, ht, ho⟩
  have HS7 := Lib.hid (HS6.out.go ht ho)
  have HO4 := Lib.hid ((HO3.out.put (p := w.heap.size + 1) (by omega) 2 (.slice a3 ms.length k3)).only ho (by have := HS0.out.lt; omega))
  clear ht ho c0 c1 c2 c3 f0 f1 f2 f3
  obtain ⟨c0, c1, c2, c3⟩ := HS7.out.bx.cells
  obtain ⟨f0, f1, f2, f3⟩ := HS7.out.bx.fz
  go_wp2_with fail
  have HS8 := Lib.hid (HS7.out.p3 (.string (bs (ttT X))))
  have HO5 := Lib.hid (HO4.out.put (p := w.heap.size + 1) (by omega) 3 (.string (bs (ttT X))))
  refine (done_part g _ _ _ HS8.out.tk).mono ?_
  rintro e w5 ⟨rfl, rfl⟩
  clear c0 c1 c2 c3 f0 f1 f2 f3
  generalize hq : (!(decide (ttW X ≠ 0)) && (ttR X).isEmpty) = q at *
  clear hq
  generalize hx5 : w4.setCell ⟨w.heap.size + 1, 3, none⟩ (.string (bs (ttT X))) = x5 at *
  clear hx5
  obtain ⟨c0, c1, c2, c3⟩ := HS8.out.bx.cells
  obtain ⟨r0, r1, r2, r3⟩ := HS8.out.rb.cells
  obtain ⟨f0, f1, f2, f3⟩ := HS8.out.rb.fz
  cases q
  · have HF : Hid (ok = false) := HOK.out
    go_wp2
    refine bodyPost_snap rfl w.heap.size 0 0 (.slice none 0 0) ⟨#[]⟩ rfl rfl ?_ ?_
    case refine_1 => exact (((HS8.out.rb.set0 _).set1 _).set2 _).set3 _
    case refine_2 => exact ⟨HBAD.out HF.out _, (((HS8.out.on.new (Nat.le_refl _) 0 _).new (Nat.le_refl _) 1 _).new (Nat.le_refl _) 2 _).new (Nat.le_refl _) 3 _⟩
  · have HOI := Lib.hid (HO5.out.ints (by omega) (fun k hk => by have := HM7.out k hk; omega))
    have HC := Lib.hid (snap_check (tnN l) (tnN (tnR l)) (.slice a3 ms.length k3) (ms.map fun (k : Nat) => (k : Int)) (bs (ttT X)) x5 HOI.out)
    rw [← HCK.out] at HC
    by_cases hc : ck = 0
    · have HT : Hid (ok = true) := by show _ = _; rw [HOK.out, hc]; rfl
      subst hc
      go_wp2_with fail
      refine HC.out.mono ?_
      rintro e w6 ⟨rfl, hb⟩
      have SB := Lib.hid (HS8.out.bx.below hb)
      have RB := Lib.hid (HS8.out.rb.below hb)
      have OW := Lib.hid (HO5.out.below hb)
      have ON := Lib.hid (HS8.out.on.trans (Only.of_below hb))
      clear hb c0 c1 c2 c3 r0 r1 r2 r3 f0 f1 f2 f3
      obtain ⟨c0, c1, c2, c3⟩ := SB.out.cells
      obtain ⟨r0, r1, r2, r3⟩ := RB.out.cells
      obtain ⟨f0, f1, f2, f3⟩ := RB.out.fz
      go_wp2
      refine bodyPost_snap rfl w.heap.size (tnN l) (tnN (tnR l)) (.slice a3 ms.length k3) (bs (ttT X)) rfl rfl ?_ ?_
      case refine_1 => exact (((RB.out.set0 _).set1 _).set2 _).set3 _
      case refine_2 => exact ⟨HGD.out HT.out _ _ (((((OW.out.put (p := w.heap.size) (by omega) 0 _).put (p := w.heap.size) (by omega) 1 _).put (p := w.heap.size) (by omega) 2 _).put (p := w.heap.size) (by omega) 3 _).less (by omega)), (((ON.out.new (Nat.le_refl _) 0 _).new (Nat.le_refl _) 1 _).new (Nat.le_refl _) 2 _).new (Nat.le_refl _) 3 _⟩
    · have HF : Hid (ok = false) := by show _ = _; rw [HOK.out, decide_eq_false hc]; rfl
      have hc2 : (((ck : Nat) : Int) != 0) = true := by simp; omega
      have hc3 : ¬ ((ck : Nat) : Int) = 0 := by omega
      clear hc
      go_wp2_with fail
      refine HC.out.mono ?_
      rintro e w6 ⟨rfl, hb⟩
      have RB := Lib.hid (HS8.out.rb.below hb)
      have ON := Lib.hid (HS8.out.on.trans (Only.of_below hb))
      clear hb c0 c1 c2 c3 r0 r1 r2 r3 f0 f1 f2 f3
      obtain ⟨r0, r1, r2, r3⟩ := RB.out.cells
      obtain ⟨f0, f1, f2, f3⟩ := RB.out.fz
      go_wp2
      refine bodyPost_snap rfl w.heap.size 0 0 (.slice none 0 0) ⟨#[]⟩ rfl rfl ?_ ?_
      case refine_1 => exact (((RB.out.set0 _).set1 _).set2 _).set3 _
      case refine_2 => exact ⟨HBAD.out HF.out _, (((ON.out.new (Nat.le_refl _) 0 _).new (Nat.le_refl _) 1 _).new (Nat.le_refl _) 2 _).new (Nat.le_refl _) 3 _⟩
end Hd
end Go.Proofs.Ytjgdmdgiicpemaa

/- THE BYTES OF A SNAPSHOT, there and back. -/
namespace Go.Proofs.Ytjgdmdgiicpemaa
open Go.RowKit
namespace Hd
open PM
theorem val_cons (x : UInt8) (t : List UInt8) : val (x :: t) = x.toNat * 256 ^ t.length + val t := by
  induction t using snoc_ind with
  | h0 => simp [val]
  | h1 l b ih =>
    rw [← List.cons_append, val_snoc, val_snoc, ih, List.length_append, List.length_singleton, Nat.pow_succ]
    rw [Nat.add_mul, Nat.mul_assoc, Nat.add_assoc]
theorem tn_forth (l : List UInt8) (h : tnW l = 0) : num (tnN l) ++ tnR l = l := by
  have hN : tnN l = val ((l.drop 1).take (tnK l)) := by unfold tnN; rw [if_pos h]
  have hR : tnR l = l.drop (1 + tnK l) := by unfold tnR; rw [if_pos h]
  cases l with
  | nil => simp [tnW] at h
  | cons b r =>
    simp only [tnW] at h
    split at h
    · omega
    · rename_i h8
      split at h
      · omega
      · rename_i h0
        split at h
        · omega
        · rename_i hl
          simp only [tnK, List.drop_succ_cons, List.drop_zero] at hN hR
          have hlen : (r.take b.toNat).length = b.toNat := by rw [List.length_take]; omega
          have hv := val_lt (r.take b.toNat)
          rw [hlen] at hv
          have hn : nsz (tnN (b :: r)) = b.toNat := by
            rw [hN]
            have hp : 256 ^ b.toNat ≤ 256 ^ 8 := Nat.pow_le_pow_right (by omega) (by omega)
            have h5 : (256 : Nat) ^ 8 = 2 ^ 64 := by decide
            refine nsz_unique _ _ (by omega) hv (fun hb => ?_)
            cases r with
            | nil => simp at hl; omega
            | cons x q =>
              have hx : x ≠ 0 := by
                intro e
                apply h0
                exact ⟨hb, by rw [e]; rfl⟩
              have e1 : (x :: q).take b.toNat = x :: q.take (b.toNat - 1) := by
                cases hbn : b.toNat with
                | zero => omega
                | succ k => rfl
              rw [e1, val_cons]
              have hq : (q.take (b.toNat - 1)).length = b.toNat - 1 := by
                rw [e1] at hlen
                simp only [List.length_cons] at hlen
                omega
              rw [hq]
              have hx1 : 1 ≤ x.toNat := by
                rcases Nat.eq_zero_or_pos x.toNat with h9 | h9
                · exact absurd (UInt8.toNat_inj.1 (by rw [h9]; rfl)) hx
                · exact h9
              have := Nat.mul_le_mul_right (256 ^ (b.toNat - 1)) hx1
              omega
          unfold num
          rw [hn, hR, hN]
          have hbe := be_val (r.take b.toNat)
          rw [hlen] at hbe
          rw [hbe, Nat.add_comm 1 b.toNat, List.drop_succ_cons]
          simp
theorem tt_forth (l : List UInt8) (h : ttW l = 0) : txt (ttT l) ++ ttR l = l := by
  have hT : ttT l = (tnR l).take (tnN l) := by unfold ttT; rw [if_pos h]
  have hR : ttR l = (tnR l).drop (tnN l) := by unfold ttR; rw [if_pos h]
  unfold ttW at h
  split at h
  · rename_i h1; omega
  · rename_i h1
    split at h
    · omega
    · split at h
      · omega
      · rename_i h3
        have hlen : (ttT l).length = tnN l := by rw [hT, List.length_take]; omega
        unfold txt
        rw [hlen, hT, hR, List.append_assoc, List.take_append_drop]
        exact tn_forth l (by omega)
theorem tnR_ne (l : List UInt8) (h : tnR l ≠ []) : tnW l = 0 := by
  unfold tnR at h
  split at h
  · assumption
  · exact absurd rfl h
theorem upR_ne (m : Nat) (l : List UInt8) (h : upR m l ≠ []) : tnW l = 0 ∧ upV m l = tnN l ∧ upR m l = tnR l := by
  unfold upR at h
  split at h
  · exact absurd rfl h
  · rename_i h1
    refine ⟨tnR_ne l h, ?_, ?_⟩
    · unfold upV; rw [if_neg h1]
    · unfold upR; rw [if_neg h1]
theorem upR_nil (m : Nat) : upR m [] = [] := by
  have h : tnW ([] : List UInt8) ≠ 0 := by simp [tnW]
  unfold upR tnN tnR
  rw [if_neg h, if_neg h]
  simp
theorem mb_forth (m : List UInt8) : ∀ k, mbR m k ≠ [] → num (upV 7 m) ++ (mbL m k).flatMap num ++ mbR m k = m
  | 0, h => by
    obtain ⟨h1, h2, h3⟩ := upR_ne 7 m h
    show num (upV 7 m) ++ [] ++ upR 7 m = m
    rw [h2, h3, List.append_nil]
    exact tn_forth m h1
  | k + 1, h => by
    obtain ⟨h1, h2, h3⟩ := upR_ne 7 (mbR m k) h
    have hne : mbR m k ≠ [] := by
      intro e
      apply h
      show upR 7 (mbR m k) = []
      rw [e]; exact upR_nil 7
    have ih := mb_forth m k hne
    have e := tn_forth (mbR m k) h1
    show num (upV 7 m) ++ (mbL m k ++ [upV 7 (mbR m k)]).flatMap num ++ upR 7 (mbR m k) = m
    rw [List.flatMap_append, h2, h3]
    conv => rhs; rw [← ih, ← e]
    simp
theorem ttW_nil : ttW ([] : List UInt8) = 3 := by simp [ttW, tnW]
/-- What is taken as a snapshot is a right one's bytes. -/
theorem sd_forth (l : List UInt8) (h : sdOk l = true) : snB (sdI l) (sdT l) (sdM l) (bs (sdD l)) = l ∧ chkS (sdI l) (sdT l) ((sdM l).map fun (k : Nat) => (k : Int)) (bs (sdD l)) = 0 := by
  have e1 : sdI l = tnN l := by unfold sdI; rw [if_pos h]
  have e2 : sdT l = tnN (tnR l) := by unfold sdT; rw [if_pos h]
  have e3 : sdM l = sdMs l := by unfold sdM; rw [if_pos h]
  have e4 : sdD l = ttT (sx l) := by unfold sdD; rw [if_pos h]
  rw [e1, e2, e3, e4]
  unfold sdOk at h
  rw [Bool.and_eq_true] at h
  refine ⟨?_, of_decide_eq_true h.2⟩
  have h1 := h.1
  unfold sdDn at h1
  rw [Bool.and_eq_true] at h1
  have hW : ttW (sx l) = 0 := by
    have := h1.1
    simpa using this
  have hR : ttR (sx l) = [] := List.isEmpty_iff.1 h1.2
  have hX := tt_forth (sx l) hW
  rw [hR, List.append_nil] at hX
  have hxne : sx l ≠ [] := by
    intro e
    rw [e, ttW_nil] at hW
    omega
  have hM := mb_forth (sm l) (upV 7 (sm l)) hxne
  have hmne : sm l ≠ [] := by
    intro e
    rw [e] at hM
    simp [num] at hM
  have h2 := tn_forth (tnR l) (tnR_ne _ hmne)
  have h1ne : tnR l ≠ [] := by
    intro e
    rw [e] at h2
    simp [num] at h2
  have h3 := tn_forth l (tnR_ne _ h1ne)
  unfold snB mbs
  have eL : (sdMs l).length = upV 7 (sm l) := mbL_length _ _
  rw [eL, bs_data, hX]
  have hM2 : num (upV 7 (sm l)) ++ (sdMs l).flatMap num ++ sx l = sm l := hM
  rw [List.append_assoc, hM2, List.append_assoc]
  have h2' : num (tnN (tnR l)) ++ sm l = tnR l := h2
  rw [h2', h3]
theorem up_back (n : Nat) (h : n ≤ 7) (r : List UInt8) : upV 7 (num n ++ r) = n ∧ upR 7 (num n ++ r) = r := by
  obtain ⟨h1, h2, h3⟩ := tn_back n (by omega) r
  refine ⟨?_, ?_⟩
  · unfold upV; rw [h2, if_neg (by omega)]
  · unfold upR; rw [h2, if_neg (by omega), h3]
theorem mb_back (ms : List Nat) (hn : ms.length ≤ 7) (h7 : ∀ m ∈ ms, m ≤ 7) (r : List UInt8) : ∀ k, k ≤ ms.length → mbL (mbs ms ++ r) k = ms.take k ∧ mbR (mbs ms ++ r) k = (ms.drop k).flatMap num ++ r
  | 0, _ => by
    refine ⟨by simp [mbL], ?_⟩
    show upR 7 (mbs ms ++ r) = _
    unfold mbs
    rw [List.append_assoc, (up_back ms.length hn _).2]
    simp
  | k + 1, hk => by
    obtain ⟨h1, h2⟩ := mb_back ms hn h7 r k (by omega)
    have hlt : k < ms.length := by omega
    have e : (ms.drop k).flatMap num ++ r = num ms[k] ++ ((ms.drop (k + 1)).flatMap num ++ r) := by
      rw [List.drop_eq_getElem_cons hlt, List.flatMap_cons, List.append_assoc]
    have hb := up_back ms[k] (h7 _ (List.getElem_mem hlt)) ((ms.drop (k + 1)).flatMap num ++ r)
    refine ⟨?_, ?_⟩
    · show mbL (mbs ms ++ r) k ++ [upV 7 (mbR (mbs ms ++ r) k)] = _
      rw [h1, h2, e, hb.1, List.take_add_one, List.getElem?_eq_getElem hlt]
      rfl
    · show upR 7 (mbR (mbs ms ++ r) k) = _
      rw [h2, e, hb.2]
/-- What is taken of a right snapshot's bytes, and more behind them. -/
theorem sd_back (i t : Nat) (ms : List Nat) (d : ByteArray) (r : List UInt8) (hi : i < 2 ^ 64) (ht : t < 2 ^ 64) (hn : ms.length ≤ 7) (h7 : ∀ m ∈ ms, m ≤ 7) (hd : d.size ≤ 65536) (hc : chkS i t (ms.map fun (k : Nat) => (k : Int)) d = 0) :
    sdOk (snB i t ms d ++ r) = r.isEmpty ∧ tnN (snB i t ms d ++ r) = i ∧ tnN (tnR (snB i t ms d ++ r)) = t ∧ sdMs (snB i t ms d ++ r) = ms ∧ ttT (sx (snB i t ms d ++ r)) = d.data.toList := by
  have e : snB i t ms d ++ r = num i ++ (num t ++ (mbs ms ++ (txt d.data.toList ++ r))) := by unfold snB; simp only [List.append_assoc]
  obtain ⟨a1, a2, a3⟩ := tn_back i hi (num t ++ (mbs ms ++ (txt d.data.toList ++ r)))
  obtain ⟨b1, b2, b3⟩ := tn_back t ht (mbs ms ++ (txt d.data.toList ++ r))
  have hsm : sm (snB i t ms d ++ r) = mbs ms ++ (txt d.data.toList ++ r) := by unfold sm; rw [e, a3, b3]
  have hup : upV 7 (mbs ms ++ (txt d.data.toList ++ r)) = ms.length := by
    unfold mbs
    rw [List.append_assoc]
    exact (up_back ms.length hn _).1
  obtain ⟨m1, m2⟩ := mb_back ms hn h7 (txt d.data.toList ++ r) ms.length (Nat.le_refl _)
  have hMs : sdMs (snB i t ms d ++ r) = ms := by unfold sdMs; rw [hsm, hup, m1, List.take_length]
  have hsx : sx (snB i t ms d ++ r) = txt d.data.toList ++ r := by unfold sx; rw [hsm, hup, m2, List.drop_length]; rfl
  obtain ⟨t1, t2, t3⟩ := tt_back d.data.toList r (by show ¬ 65536 < d.size; omega)
  have hN1 : tnN (snB i t ms d ++ r) = i := by rw [e, a2]
  have hN2 : tnN (tnR (snB i t ms d ++ r)) = t := by rw [e, a3, b2]
  have hT : ttT (sx (snB i t ms d ++ r)) = d.data.toList := by rw [hsx, t2]
  refine ⟨?_, hN1, hN2, hMs, hT⟩
  unfold sdOk sdDn sdCk
  rw [hN1, hN2, hMs, hT, bs_of, hsx, t1, t3, hc]
  simp
theorem sd_whole (i t : Nat) (ms : List Nat) (d : ByteArray) (hi : i < 2 ^ 64) (ht : t < 2 ^ 64) (hn : ms.length ≤ 7) (h7 : ∀ m ∈ ms, m ≤ 7) (hd : d.size ≤ 65536) (hc : chkS i t (ms.map fun (k : Nat) => (k : Int)) d = 0) :
    sdOk (snB i t ms d) = true ∧ sdI (snB i t ms d) = i ∧ sdT (snB i t ms d) = t ∧ sdM (snB i t ms d) = ms ∧ bs (sdD (snB i t ms d)) = d ∧ sdE (snB i t ms d) = 0 := by
  have h := sd_back i t ms d [] hi ht hn h7 hd hc
  rw [List.append_nil] at h
  obtain ⟨h1, h2, h3, h4, h5⟩ := h
  have h1' : sdOk (snB i t ms d) = true := h1
  refine ⟨h1', ?_, ?_, ?_, ?_, ?_⟩
  · unfold sdI; rw [if_pos h1', h2]
  · unfold sdT; rw [if_pos h1', h3]
  · unfold sdM; rw [if_pos h1', h4]
  · unfold sdD; rw [if_pos h1', h5, bs_of]
  · unfold sdE; rw [if_pos h1']
theorem sd_more (i t : Nat) (ms : List Nat) (d : ByteArray) (x : UInt8) (hi : i < 2 ^ 64) (ht : t < 2 ^ 64) (hn : ms.length ≤ 7) (h7 : ∀ m ∈ ms, m ≤ 7) (hd : d.size ≤ 65536) (hc : chkS i t (ms.map fun (k : Nat) => (k : Int)) d = 0) :
    sdE (snB i t ms d ++ [x]) = 4 := by
  have h := (sd_back i t ms d [x] hi ht hn h7 hd hc).1
  have h' : sdOk (snB i t ms d ++ [x]) = false := h
  unfold sdE
  rw [h']; rfl
theorem sdI_lt (l : List UInt8) : sdI l < 2 ^ 64 := by
  unfold sdI
  split
  · exact tnN_lt l
  · omega
theorem sdT_lt (l : List UInt8) : sdT l < 2 ^ 64 := by
  unfold sdT
  split
  · exact tnN_lt _
  · omega
theorem sdM_ok (l : List UInt8) : (sdM l).length ≤ 7 ∧ ∀ m ∈ sdM l, m ≤ 7 := by
  unfold sdM
  split
  · refine ⟨?_, mbL_le _ _⟩
    unfold sdMs
    rw [mbL_length]
    exact upV_le 7 _
  · exact ⟨by simp, by simp⟩
theorem sd_less (l : List UInt8) (x : UInt8) (h : sdOk (l ++ [x]) = true) : sdE l = 4 := by
  cases h1 : sdOk l
  · unfold sdE; rw [h1]; rfl
  · exfalso
    obtain ⟨f1, f2⟩ := sd_forth l h1
    obtain ⟨-, -, hd⟩ := chk_ms _ _ _ _ f2
    have := sd_back (sdI l) (sdT l) (sdM l) (bs (sdD l)) [x] (sdI_lt l) (sdT_lt l) (sdM_ok l).1 (sdM_ok l).2 (by omega) f2
    rw [f1] at this
    have h2 : sdOk (l ++ [x]) = false := this.1
    rw [h] at h2
    cases h2
end Hd
end Go.Proofs.Ytjgdmdgiicpemaa
