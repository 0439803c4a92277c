/-
  Merged: OrdAmt, OrdPair, OrdPrs, OrdNode, OrdTask, OrdFld, OrdCmk.
-/
import Derived.Test.YthlchdlgafincaaOrdTold
import Derived.Test.YthlchdlgafincaaRgA
import Derived.Shelf.Abstract
import Derived.Test.YthlchdlgafincaaOrA
/-
  AMOUNTS and pairs, as bytes.
-/
namespace Go.Proofs.Ythlchdlgafincaa
open Go.RowKit
namespace Hd
open PM
def amP (a0 a1 a2 : Nat) : Nat → List UInt8
  | 0 => []
  | 1 => num a0
  | 2 => num a0 ++ num a1
  | _ => num a0 ++ num a1 ++ num a2
def amB (a0 a1 a2 : Nat) : List UInt8 := num a0 ++ num a1 ++ num a2
theorem amP_len (a0 a1 a2 k : Nat) (h0 : a0 < 2 ^ 63) (h1 : a1 < 2 ^ 63) (h2 : a2 < 2 ^ 63) : (amP a0 a1 a2 k).length ≤ 27 := by
  have l0 : (num a0).length ≤ 9 := by rw [num_length]; have := (nsz_spec a0 (by omega)).1; omega
  have l1 : (num a1).length ≤ 9 := by rw [num_length]; have := (nsz_spec a1 (by omega)).1; omega
  have l2 : (num a2).length ≤ 9 := by rw [num_length]; have := (nsz_spec a2 (by omega)).1; omega
  unfold amP
  split <;> simp <;> omega
set_option maxHeartbeats 1000000 in
theorem ar0 (z0 z1 z2 : Int) (w : World) : (Instr.index 24 (.agg #[.int .i64 z0, .int .i64 z1, .int .i64 z2]) (.int .i64 0)).run Try.prog w = .ok (.int .i64 z0) w := by kernel_rfl
theorem ar1 (z0 z1 z2 : Int) (w : World) : (Instr.index 24 (.agg #[.int .i64 z0, .int .i64 z1, .int .i64 z2]) (.int .i64 1)).run Try.prog w = .ok (.int .i64 z1) w := by kernel_rfl
theorem ar2 (z0 z1 z2 : Int) (w : World) : (Instr.index 24 (.agg #[.int .i64 z0, .int .i64 z1, .int .i64 z2]) (.int .i64 2)).run Try.prog w = .ok (.int .i64 z2) w := by kernel_rfl
set_option maxRecDepth 100000 in
theorem amts_make (B g : Nat) (l : List UInt8) (a0 a1 a2 : Nat) (w : World) (h : Mk w B g l) (h0 : a0 < 2 ^ 63) (h1 : a1 < 2 ^ 63) (h2 : a2 < 2 ^ 63) (hlen : l.length ≤ 90000000000000) (hBw : B ≤ w.heap.size) :
    Calls Try.prog 95 #[.pointer (some ⟨g, 0, none⟩), .agg #[.int .i64 (a0 : Nat), .int .i64 (a1 : Nat), .int .i64 (a2 : Nat)]] w fun e w' => e = .returned (.tuple #[]) ∧ Mk w' B g (l ++ amB a0 a1 a2) ∧ Fr B g w w' := by
  have hb0 : Below w.heap.size w (w.alloc (.cells #[.int .i64 (a0 : Nat), .int .i64 (a1 : Nat), .int .i64 (a2 : Nat)] 24)) := (Below.refl _ _).alloc (Nat.le_refl _) _
  have HM0 := Lib.hid (h.below hb0)
  have HF0 := Lib.hid (Fr.of_below (B := B) (g := g) hb0 hBw)
  have HB0 := Lib.hid hBw
  have HN := Lib.hid (fun k n (hn : n < 2 ^ 63) z (hz : Mk z B g (l ++ amP a0 a1 a2 k)) (hB : B ≤ z.heap.size) => mk_number B g (l ++ amP a0 a1 a2 k) n z hz (by omega) (by rw [List.length_append]; have := amP_len a0 a1 a2 k h0 h1 h2; omega) hB)
  have H0 := Lib.hid h0
  have H1 := Lib.hid h1
  have H2 := Lib.hid h2
  have t0 : IntKind.u64.wrap ((a0 : Nat) : Int) = ((a0 : Nat) : Int) := by rw [IntKind.wrap_u64]; omega
  have t1 : IntKind.u64.wrap ((a1 : Nat) : Int) = ((a1 : Nat) : Int) := by rw [IntKind.wrap_u64]; omega
  have t2 : IntKind.u64.wrap ((a2 : Nat) : Int) = ((a2 : Nat) : Int) := by rw [IntKind.wrap_u64]; omega
  clear h hb0 hBw hlen h0 h1 h2
  go_enter Try.func95, Try.ntmps95
  go_wp2
  go_loopg [7] 3 (fun gg i wx => ∃ k : Nat, k + gg = 3 ∧ i = .int .i64 k ∧ Aside (Mk wx B g (l ++ amP a0 a1 a2 k)) ∧ Aside (Fr B g w wx))
  case atStart => exact ⟨0, by omega, rfl, by show Mk _ _ _ _; rw [show amP a0 a1 a2 0 = [] from rfl, List.append_nil]; exact HM0.out, HF0.out⟩
  case round =>
    obtain ⟨k, hkg, rfl, HM, HF⟩ := hrel
    cases gk with
    | zero =>
      obtain rfl : k = 3 := by omega
      go_wp2
      go_end0
      exact ⟨rfl, HM.out, HF.out⟩
    | succ gg =>
      have hc : k = 0 ∨ k = 1 ∨ k = 2 := by omega
      rcases hc with rfl | rfl | rfl
      · have i0 := ar0 (a0 : Nat) (a1 : Nat) (a2 : Nat)
        go_wp2_with fail
        refine (HN.out 0 a0 H0.out _ HM.out (Nat.le_trans HB0.out HF.out.1.size)).mono ?_
        rintro e w1 ⟨rfl, h1, hf1⟩
        have HM1 := Lib.hid h1
        have HF1 := Lib.hid (HF.out.trans hf1)
        clear h1 hf1
        go_wp2
        go_roundg gg
        case measure => omega
        case rel => exact ⟨1, by omega, rfl, by show Mk _ _ _ _; rw [show amP a0 a1 a2 1 = num a0 from rfl]; have := HM1.out; rwa [show amP a0 a1 a2 0 = [] from rfl, List.append_nil] at this, HF1.out⟩
      · have i0 := ar1 (a0 : Nat) (a1 : Nat) (a2 : Nat)
        go_wp2_with fail
        refine (HN.out 1 a1 H1.out _ HM.out (Nat.le_trans HB0.out HF.out.1.size)).mono ?_
        rintro e w1 ⟨rfl, h1, hf1⟩
        have HM1 := Lib.hid h1
        have HF1 := Lib.hid (HF.out.trans hf1)
        clear h1 hf1
        go_wp2
        go_roundg gg
        case measure => omega
        case rel => exact ⟨2, by omega, rfl, by show Mk _ _ _ _; have := HM1.out; rwa [List.append_assoc] at this, HF1.out⟩
      · have i0 := ar2 (a0 : Nat) (a1 : Nat) (a2 : Nat)
        go_wp2_with fail
        refine (HN.out 2 a2 H2.out _ HM.out (Nat.le_trans HB0.out HF.out.1.size)).mono ?_
        rintro e w1 ⟨rfl, h1, hf1⟩
        have HM1 := Lib.hid h1
        have HF1 := Lib.hid (HF.out.trans hf1)
        clear h1 hf1
        go_wp2
        go_roundg gg
        case measure => omega
        case rel => exact ⟨3, by omega, rfl, by show Mk _ _ _ _; have := HM1.out; rwa [List.append_assoc] at this, HF1.out⟩
end Hd
end Go.Proofs.Ythlchdlgafincaa

/-
  PAIRS, as bytes.
-/
namespace Go.Proofs.Ythlchdlgafincaa
open Go.RowKit
namespace Hd
open PM
set_option maxRecDepth 100000 in
set_option maxHeartbeats 1000000 in
theorem pclo (B g p q i n : Nat) (b off c : Nat) (l : List UInt8) (k v : ByteArray) (x : World) (hp' : x.heap[p]? = some (.cells #[.pointer (some ⟨g, 0, none⟩)] 118 (0, 0))) (hq' : x.heap[q]? = some (.cells #[.slice (some ⟨b, off, none⟩) n c] 25 (0, 0))) (hi : i < n)
    (hk : x.cell? ⟨b, off + i * 2, none⟩ = some (.string k)) (hv : x.cell? ⟨b, off + i * 2 + 1, none⟩ = some (.string v)) (hpg : p ≠ g) (hqg : q ≠ g) (hbB : b < B) (hk3 : k.size ≤ 1000000) (hv3 : v.size ≤ 1000000)
    (h : Mk x B g l) (hlen : l.length ≤ 90000000000000) (hBw : B ≤ x.heap.size) :
    Calls Try.prog 103 #[.int .i64 (i : Nat), .pointer (some ⟨p, 0, none⟩), .pointer (some ⟨q, 0, none⟩)] x fun e x' => e = .returned (.tuple #[]) ∧ Mk x' B g (l ++ txt k.data.toList ++ txt v.data.toList) ∧ Fr B g x x' := by
  have hd : Below x.heap.size x x.drew := (Below.refl _ _).drew
  have HM0 := Lib.hid (h.below hd)
  have HF0 := Lib.hid (Fr.of_below (B := B) (g := g) hd hBw)
  have HB0 : Hid (B ≤ x.drew.heap.size) := hBw
  have hl1 : (txt k.data.toList).length ≤ 1000009 := by
    unfold txt
    rw [List.length_append, num_length]
    have := (nsz_spec k.data.toList.length (by show k.size < _; omega)).1
    show 1 + _ + k.size ≤ _
    omega
  have HT1 := Lib.hid (fun z (hz : Mk z B g l) (hB : B ≤ z.heap.size) => mk_text B g l k z hz hk3 (by omega) hB)
  have HT2 := Lib.hid (fun z (hz : Mk z B g (l ++ txt k.data.toList)) (hB : B ≤ z.heap.size) => mk_text B g (l ++ txt k.data.toList) v z hz hv3 (by rw [List.length_append]; omega) hB)
  have hi2 : (i : Int) < (n : Int) := by omega
  have hp := box_cells hp' 0
  have hq := box_cells hq' 0
  have HP := Lib.hid hp'
  have HQ := Lib.hid hq'
  have HV := Lib.hid hv
  have HK := Lib.hid hk
  have HPG := Lib.hid hpg
  have HQG := Lib.hid hqg
  have HBB := Lib.hid hbB
  clear h hlen hBw hl1 hd hi hk3 hv3 hpg hqg hbB hp' hq'
  go_enter Try.func103, Try.ntmps103
  go_wp2
  go_region_with (go_at_call 72; go_loud ((with_reducible refine (HT1.out _ HM0.out HB0.out).mono ?_); rintro e w1 ⟨rfl, h1, hf1⟩; have hd1 : Below w1.heap.size w1 w1.drew := (Below.refl _ _).drew; have HM1 := Lib.hid (h1.below hd1); have HB1 : Hid (B ≤ w1.drew.heap.size) := Nat.le_trans HB0.out hf1.1.size; have HF1 := Lib.hid ((HF0.out.trans hf1).trans (Fr.of_below (B := B) (g := g) hd1 HB1.out)); clear hp hq hk hv; have hp := box_cells (hf1.keep HP.out HPG.out (by decide)) 0; have hq := box_cells (hf1.keep HQ.out HQG.out (by decide)) 0; have hk := (hf1.1.cell HBB.out).trans HK.out; have hv := (hf1.1.cell HBB.out).trans HV.out; clear h1 hf1 hd1))
  all_goals
    go_wp2
    go_region_with (go_at_call 72; go_loud ((with_reducible refine (HT2.out _ HM1.out HB1.out).mono ?_); rintro e w2 ⟨rfl, h2, hf2⟩; have HM2 := Lib.hid h2; have HF2 := Lib.hid (HF1.out.trans hf2); clear h2 hf2))
  all_goals
    go_wp2
    go_end0
    exact ⟨rfl, HM2.out, HF2.out⟩
end Hd
end Go.Proofs.Ythlchdlgafincaa

/-
  PAIRS made as bytes, whole.
-/
namespace Go.Proofs.Ythlchdlgafincaa
open Go.RowKit
namespace Hd
open PM
def prF (p : Rg.Pr) : List UInt8 := txt p.k.data.toList ++ txt p.v.data.toList
/-- The bytes of pairs. -/
def prB (ps : List Rg.Pr) : List UInt8 := num ps.length ++ ps.flatMap prF
theorem txt_len (s : ByteArray) (h : s.size ≤ 1000) : (txt s.data.toList).length ≤ 1009 := by
  unfold txt
  rw [List.length_append, num_length]
  have := (nsz_spec s.data.toList.length (by show s.size < _; omega)).1
  show 1 + _ + s.size ≤ _
  omega
theorem prF_len (ps : List Rg.Pr) (h : ∀ p ∈ ps, p.k.size ≤ 1000 ∧ p.v.size ≤ 1000) : (ps.flatMap prF).length ≤ 2018 * ps.length := by
  induction ps with
  | nil => simp
  | cons p r ih =>
    have h1 := txt_len p.k (h p (List.mem_cons_self ..)).1
    have h2 := txt_len p.v (h p (List.mem_cons_self ..)).2
    have h3 := ih (fun q hq => h q (List.mem_cons_of_mem _ hq))
    rw [List.flatMap_cons, List.length_append, List.length_cons]
    unfold prF
    rw [List.length_append]
    unfold prF at h3
    omega
set_option maxRecDepth 100000 in
set_option maxHeartbeats 1000000 in
theorem pairs_make (B g : Nat) (l : List UInt8) (v : Value) (ps : List Rg.Pr) (w : World) (h : Mk w B g l) (hp : Rg.Pairs w B v ps) (hn : ps.length ≤ 1000) (hs : ∀ p ∈ ps, p.k.size ≤ 1000 ∧ p.v.size ≤ 1000) (hlen : l.length ≤ 80000000000000) (hBw : B ≤ w.heap.size) :
    Calls Try.prog 96 #[.pointer (some ⟨g, 0, none⟩), v] w fun e w' => e = .returned (.tuple #[]) ∧ Mk w' B g (l ++ prB ps) ∧ Fr B g w w' := by
  have hmf : ∀ (fn : Fn) (first cap : Array Value) (w : World), (Instr.makeFunc fn first cap).run Try.prog w = .ok (.func fn first cap) w := fun _ _ _ _ => rfl
  obtain ⟨a, c, rfl, -, -, hc⟩ := hp
  have hgl := h.lt
  generalize hW2 : ((w.alloc (.cells #[.pointer (some ⟨g, 0, none⟩)] 118)).alloc (.cells #[.slice a ps.length c] 25)).drew = W2
  have b2 : Below w.heap.size w W2 := by rw [← hW2]; exact (((Below.refl _ _).alloc (Nat.le_refl _) _).alloc (by simp) _).drew
  have z2 : W2.heap.size = w.heap.size + 2 := by rw [← hW2]; show ((w.alloc _).alloc _).heap.size = _; simp
  have cp : W2.heap[w.heap.size]? = some (.cells #[.pointer (some ⟨g, 0, none⟩)] 118 (0, 0)) := by
    rw [← hW2]
    have h1 := heap_alloc_new w (.cells #[.pointer (some ⟨g, 0, none⟩)] 118)
    have h2 : Below (w.alloc (.cells #[.pointer (some ⟨g, 0, none⟩)] 118)).heap.size (w.alloc (.cells #[.pointer (some ⟨g, 0, none⟩)] 118)) ((w.alloc (.cells #[.pointer (some ⟨g, 0, none⟩)] 118)).alloc (.cells #[.slice a ps.length c] 25)).drew := ((Below.refl _ _).alloc (Nat.le_refl _) _).drew
    exact (h2.block _ (by simp)).trans h1
  have cq : W2.heap[w.heap.size + 1]? = some (.cells #[.slice a ps.length c] 25 (0, 0)) := by
    rw [← hW2]
    have h1 := heap_alloc_new (w.alloc (.cells #[.pointer (some ⟨g, 0, none⟩)] 118)) (.cells #[.slice a ps.length c] 25)
    rw [World.size_alloc] at h1
    exact h1
  have hM : Mk W2 B g l := h.below b2
  have HF2 := Lib.hid (Fr.of_below (B := B) (g := g) b2 hBw)
  have hnl : (num ps.length).length ≤ 9 := by rw [num_length]; have := (nsz_spec ps.length (by omega)).1; omega
  have HT : Hid (Calls Try.prog 102 #[.pointer (some ⟨g, 0, none⟩), .int .i64 (ps.length : Nat), .func (.func 103) #[] #[.pointer (some ⟨w.heap.size, 0, none⟩), .pointer (some ⟨w.heap.size + 1, 0, none⟩)]]
      W2 fun e w' => e = .returned (.tuple #[]) ∧ Mk w' B g (l ++ prB ps) ∧ Fr B g W2 w') := by
    have := mtimes _ (Go.Proofs.enters_of Try.func103 (by kernel_rfl) rfl) (.pointer (some ⟨w.heap.size, 0, none⟩)) (.pointer (some ⟨w.heap.size + 1, 0, none⟩)) B g ps.length l (fun i => l ++ num ps.length ++ (ps.take i).flatMap prF)
      (fun x => x.heap[w.heap.size]? = some (.cells #[.pointer (some ⟨g, 0, none⟩)] 118 (0, 0)) ∧ x.heap[w.heap.size + 1]? = some (.cells #[.slice a ps.length c] 25 (0, 0)) ∧ Below B W2 x) W2
      hM (by omega) (by omega) (by omega) (by simp) (fun x x' hx hf => ⟨hf.keep hx.1 (by omega) (by decide), hf.keep hx.2.1 (by omega) (by decide), hx.2.2.trans hf.1⟩) ⟨cp, cq, Below.refl _ _⟩ ?_
    · rw [List.take_length, List.append_assoc] at this
      exact this
    · intro i hi x hx hJ hsz
      obtain ⟨b, off, rfl, hb, hcc⟩ := hc (by omega)
      obtain ⟨k0, k1⟩ := hcc i hi
      have hbw : Below B w x := (b2.mono hBw).trans hJ.2.2
      have hlen2 : (l ++ num ps.length ++ (ps.take i).flatMap prF).length ≤ 90000000000000 := by
        rw [List.length_append, List.length_append]
        have h2 := prF_len (ps.take i) (fun m hm' => hs m (List.mem_of_mem_take hm'))
        have h3 : (ps.take i).length ≤ ps.length := by rw [List.length_take]; omega
        omega
      have hsi := hs _ (List.getElem_mem hi)
      have := pclo B g w.heap.size (w.heap.size + 1) i ps.length b off c _ ps[i].k ps[i].v x hJ.1 hJ.2.1 hi ((hbw.cell hb).trans k0) ((hbw.cell hb).trans k1) (by omega) (by omega) hb (by omega) (by omega) hx hlen2 hsz
      have e1 : l ++ num ps.length ++ (ps.take i).flatMap prF ++ txt ps[i].k.data.toList ++ txt ps[i].v.data.toList = l ++ num ps.length ++ (ps.take (i + 1)).flatMap prF := by
        rw [List.take_add_one, List.getElem?_eq_getElem hi, List.flatMap_append]
        simp [prF]
      rw [e1] at this
      exact this
  subst hW2
  clear hM hc b2 cp cq z2 hnl hs hlen
  generalize prB ps = q at *
  go_enter Try.func96, Try.ntmps96
  go_wp2
  go_region_with (go_at_call 102; go_loud ((with_reducible refine HT.out.mono ?_); rintro e w1 ⟨rfl, h1, hf1⟩; have H1 := Lib.hid h1; have HF1 := Lib.hid (HF2.out.trans hf1); clear h1 hf1))
  all_goals
    go_wp2
    go_end0
    exact ⟨rfl, H1.out, HF1.out⟩
end Hd
end Go.Proofs.Ythlchdlgafincaa

/-
  A NODE, as bytes.
-/
namespace Go.Proofs.Ythlchdlgafincaa
open Go.RowKit
namespace Hd
open PM
/-- Where the making stands: the bytes so far, the box of what is made. -/
structure Ms (w0 : World) (B g : Nat) (cs : Array Value) (T : TypeId) (l : List UInt8) (x : World) : Prop where
  m : Mk x B g l
  fr : Fr B g w0 x
  bx : x.heap[w0.heap.size]? = some (.cells cs T (0, 0))
  le : B ≤ x.heap.size
  lt : g < w0.heap.size
  nt : T ≠ 5
theorem Ms.made {w : World} {B g : Nat} {l : List UInt8} (cs : Array Value) {T : TypeId} (hT : T ≠ 5) (h : Mk w B g l) (hB : B ≤ w.heap.size) : Ms w B g cs T l (w.alloc (.cells cs T)) := by
  have hb : Below w.heap.size w (w.alloc (.cells cs T)) := (Below.refl _ _).alloc (Nat.le_refl _) _
  exact ⟨h.below hb, Fr.of_below hb hB, heap_alloc_new w _, Nat.le_trans hB hb.size, h.lt, hT⟩
theorem Ms.drew {w0 x : World} {B g : Nat} {cs : Array Value} {T : TypeId} {l : List UInt8} (h : Ms w0 B g cs T l x) : Ms w0 B g cs T l x.drew := by
  have hb : Below x.heap.size x x.drew := (Below.refl _ _).drew
  exact ⟨h.m.below hb, h.fr.trans (Fr.of_below hb h.le), h.bx, h.le, h.lt, h.nt⟩
theorem Ms.go {w0 x x' : World} {B g : Nat} {cs : Array Value} {T : TypeId} {l l' : List UInt8} (h : Ms w0 B g cs T l x) (hm : Mk x' B g l') (hf : Fr B g x x') : Ms w0 B g cs T l' x' :=
  ⟨hm, h.fr.trans hf, hf.keep h.bx (by have := h.lt; omega) h.nt, Nat.le_trans h.le hf.1.size, h.lt, h.nt⟩
theorem prB_len (ps : List Rg.Pr) (hn : ps.length ≤ 1000) (h : ∀ p ∈ ps, p.k.size ≤ 1000 ∧ p.v.size ≤ 1000) : (prB ps).length ≤ 2018009 := by
  have h1 := prF_len ps h
  have h2 : (num ps.length).length ≤ 9 := by rw [num_length]; have := (nsz_spec ps.length (by omega)).1; omega
  unfold prB
  rw [List.length_append]
  omega
def ndB (nm : ByteArray) (h0 h1 h2 : Nat) (ls ts : List Rg.Pr) : List UInt8 := txt nm.data.toList ++ amB h0 h1 h2 ++ prB ls ++ prB ts
set_option maxRecDepth 100000 in
set_option maxHeartbeats 2000000 in
theorem node_make (B g : Nat) (l : List UInt8) (nm : ByteArray) (h0 h1 h2 : Nat) (lv tv : Value) (ls ts : List Rg.Pr) (w : World) (h : Mk w B g l) (hnm : nm.size ≤ 1000) (z0 : h0 < 2 ^ 63) (z1 : h1 < 2 ^ 63) (z2 : h2 < 2 ^ 63)
    (hl : Rg.Pairs w B lv ls) (ht : Rg.Pairs w B tv ts) (nl : ls.length ≤ 1000) (nt : ts.length ≤ 1000) (sl : ∀ p ∈ ls, p.k.size ≤ 1000 ∧ p.v.size ≤ 1000) (st : ∀ p ∈ ts, p.k.size ≤ 1000 ∧ p.v.size ≤ 1000) (hlen : l.length ≤ 70000000000000) (hBw : B ≤ w.heap.size) :
    Calls Try.prog 76 #[.pointer (some ⟨g, 0, none⟩), .agg #[.string nm, .int .i64 (h0 : Nat), .int .i64 (h1 : Nat), .int .i64 (h2 : Nat), lv, tv]] w fun e w' => e = .returned (.tuple #[]) ∧ Mk w' B g (l ++ ndB nm h0 h1 h2 ls ts) ∧ Fr B g w w' := by
  have n1 := txt_len nm hnm
  have n2 : (amB h0 h1 h2).length ≤ 27 := amP_len h0 h1 h2 3 z0 z1 z2
  have n3 := prB_len ls nl sl
  have K1 := Lib.hid (fun z (hz : Mk z B g l) (hB : B ≤ z.heap.size) => mk_text B g l nm z hz (by omega) (by omega) hB)
  have K2 := Lib.hid (fun z (hz : Mk z B g (l ++ txt nm.data.toList)) (hB : B ≤ z.heap.size) => amts_make B g _ h0 h1 h2 z hz z0 z1 z2 (by rw [List.length_append]; omega) hB)
  have K3 := Lib.hid (fun z (hz : Mk z B g (l ++ txt nm.data.toList ++ amB h0 h1 h2)) (hb : Below B w z) (hB : B ≤ z.heap.size) => pairs_make B g _ lv ls z hz (hl.keep hb) nl sl (by rw [List.length_append, List.length_append]; omega) hB)
  have K4 := Lib.hid (fun z (hz : Mk z B g (l ++ txt nm.data.toList ++ amB h0 h1 h2 ++ prB ls)) (hb : Below B w z) (hB : B ≤ z.heap.size) => pairs_make B g _ tv ts z hz (ht.keep hb) nt st (by rw [List.length_append, List.length_append, List.length_append]; omega) hB)
  obtain ⟨la, lc, rfl, -⟩ := hl
  obtain ⟨ta, tc, rfl, -⟩ := ht
  have eL : l ++ txt nm.data.toList ++ amB h0 h1 h2 ++ prB ls ++ prB ts = l ++ ndB nm h0 h1 h2 ls ts := by unfold ndB; simp only [List.append_assoc]
  have EL := Lib.hid eL
  have HS0 := Lib.hid (Ms.made #[.string nm, .int .i64 (h0 : Nat), .int .i64 (h1 : Nat), .int .i64 (h2 : Nat), .slice la ls.length lc, .slice ta ts.length tc] (T := 27) (by decide) h hBw)
  clear h hnm z0 z1 z2 nl nt sl st hlen hBw n1 n2 n3 eL
  go_enter Try.func76, Try.ntmps76
  go_wp2
  go_region_with (go_at_call 72; go_loud ((with_reducible refine (K1.out _ HS0.out.drew.m HS0.out.drew.le).mono ?_); rintro e w1 ⟨rfl, hm, hf⟩; have HS1 := Lib.hid (HS0.out.drew.go hm hf); clear hm hf))
  have c0 := box_cells HS1.out.bx 0
  have c1 := box_cells HS1.out.bx 1
  have c2 := box_cells HS1.out.bx 2
  have c3 := box_cells HS1.out.bx 3
  have c4 := box_cells HS1.out.bx 4
  have c5 := box_cells HS1.out.bx 5
  go_wp2_with fail
  refine (K2.out _ HS1.out.m HS1.out.le).mono ?_
  rintro e w2 ⟨rfl, hm, hf⟩
  have HS2 := Lib.hid (HS1.out.go hm hf)
  clear hm hf
  clear c0 c1 c2 c3 c4 c5
  have c0 := box_cells HS2.out.bx 0
  have c1 := box_cells HS2.out.bx 1
  have c2 := box_cells HS2.out.bx 2
  have c3 := box_cells HS2.out.bx 3
  have c4 := box_cells HS2.out.bx 4
  have c5 := box_cells HS2.out.bx 5
  go_wp2_with fail
  refine (K3.out _ HS2.out.m HS2.out.fr.1 HS2.out.le).mono ?_
  rintro e w3 ⟨rfl, hm, hf⟩
  have HS3 := Lib.hid (HS2.out.go hm hf)
  clear hm hf
  clear c0 c1 c2 c3 c4 c5
  have c0 := box_cells HS3.out.bx 0
  have c1 := box_cells HS3.out.bx 1
  have c2 := box_cells HS3.out.bx 2
  have c3 := box_cells HS3.out.bx 3
  have c4 := box_cells HS3.out.bx 4
  have c5 := box_cells HS3.out.bx 5
  go_wp2_with fail
  refine (K4.out _ HS3.out.m HS3.out.fr.1 HS3.out.le).mono ?_
  rintro e w4 ⟨rfl, hm, hf⟩
  have HS4 := Lib.hid (HS3.out.go hm hf)
  clear hm hf
  clear c0 c1 c2 c3 c4 c5
  go_wp2
  go_end0
  exact ⟨rfl, by rw [← EL.out]; exact HS4.out.m, HS4.out.fr⟩
end Hd
end Go.Proofs.Ythlchdlgafincaa

/-
  A TASK, as bytes.
-/
namespace Go.Proofs.Ythlchdlgafincaa
open Go.RowKit
namespace Hd
open PM
def tsB (nm : ByteArray) (h0 h1 h2 : Nat) (ls ts : List Rg.Pr) (gr ap : ByteArray) (rk : Nat) : List UInt8 := txt nm.data.toList ++ amB h0 h1 h2 ++ prB ls ++ prB ts ++ txt gr.data.toList ++ txt ap.data.toList ++ num rk
set_option maxRecDepth 100000 in
set_option maxHeartbeats 2000000 in
theorem task_make (B g : Nat) (l : List UInt8) (nm : ByteArray) (h0 h1 h2 : Nat) (lv tv : Value) (ls ts : List Rg.Pr) (gr ap : ByteArray) (r : Int) (rk : Nat) (w : World) (h : Mk w B g l) (hnm : nm.size ≤ 1000) (z0 : h0 < 2 ^ 63) (z1 : h1 < 2 ^ 63) (z2 : h2 < 2 ^ 63)
    (hl : Rg.Pairs w B lv ls) (ht : Rg.Pairs w B tv ts) (nl : ls.length ≤ 1000) (nt : ts.length ≤ 1000) (sl : ∀ p ∈ ls, p.k.size ≤ 1000 ∧ p.v.size ≤ 1000) (st : ∀ p ∈ ts, p.k.size ≤ 1000 ∧ p.v.size ≤ 1000)
    (hgr : gr.size ≤ 1000) (hap : ap.size ≤ 1000) (hr : r + 1000 = (rk : Nat)) (hrk : rk ≤ 2000) (hlen : l.length ≤ 70000000000000) (hBw : B ≤ w.heap.size) :
    Calls Try.prog 77 #[.pointer (some ⟨g, 0, none⟩), .agg #[.string nm, .int .i64 (h0 : Nat), .int .i64 (h1 : Nat), .int .i64 (h2 : Nat), lv, tv, .string gr, .string ap, .int .i64 r]] w fun e w' => e = .returned (.tuple #[]) ∧ Mk w' B g (l ++ tsB nm h0 h1 h2 ls ts gr ap rk) ∧ Fr B g w w' := by
  have n1 := txt_len nm hnm
  have n2 : (amB h0 h1 h2).length ≤ 27 := amP_len h0 h1 h2 3 z0 z1 z2
  have n3 := prB_len ls nl sl
  have n4 := prB_len ts nt st
  have n5 := txt_len gr hgr
  have n6 := txt_len ap hap
  have K1 := Lib.hid (fun z (hz : Mk z B g l) (hB : B ≤ z.heap.size) => mk_text B g l nm z hz (by omega) (by omega) hB)
  have K2 := Lib.hid (fun z (hz : Mk z B g (l ++ txt nm.data.toList)) (hB : B ≤ z.heap.size) => amts_make B g _ h0 h1 h2 z hz z0 z1 z2 (by rw [List.length_append]; omega) hB)
  have K3 := Lib.hid (fun z (hz : Mk z B g (l ++ txt nm.data.toList ++ amB h0 h1 h2)) (hb : Below B w z) (hB : B ≤ z.heap.size) => pairs_make B g _ lv ls z hz (hl.keep hb) nl sl (by rw [List.length_append, List.length_append]; omega) hB)
  have K4 := Lib.hid (fun z (hz : Mk z B g (l ++ txt nm.data.toList ++ amB h0 h1 h2 ++ prB ls)) (hb : Below B w z) (hB : B ≤ z.heap.size) => pairs_make B g _ tv ts z hz (ht.keep hb) nt st (by rw [List.length_append, List.length_append, List.length_append]; omega) hB)
  have K5 := Lib.hid (fun z (hz : Mk z B g (l ++ txt nm.data.toList ++ amB h0 h1 h2 ++ prB ls ++ prB ts)) (hB : B ≤ z.heap.size) => mk_text B g _ gr z hz (by omega) (by simp only [List.length_append]; omega) hB)
  have K6 := Lib.hid (fun z (hz : Mk z B g (l ++ txt nm.data.toList ++ amB h0 h1 h2 ++ prB ls ++ prB ts ++ txt gr.data.toList)) (hB : B ≤ z.heap.size) => mk_text B g _ ap z hz (by omega) (by simp only [List.length_append]; omega) hB)
  have K7 := Lib.hid (fun z (hz : Mk z B g (l ++ txt nm.data.toList ++ amB h0 h1 h2 ++ prB ls ++ prB ts ++ txt gr.data.toList ++ txt ap.data.toList)) (hB : B ≤ z.heap.size) => mk_number B g _ rk z hz (by omega) (by simp only [List.length_append]; omega) hB)
  obtain ⟨la, lc, rfl, -⟩ := hl
  obtain ⟨ta, tc, rfl, -⟩ := ht
  have eL : l ++ txt nm.data.toList ++ amB h0 h1 h2 ++ prB ls ++ prB ts ++ txt gr.data.toList ++ txt ap.data.toList ++ num rk = l ++ tsB nm h0 h1 h2 ls ts gr ap rk := by unfold tsB; simp only [List.append_assoc]
  have EL := Lib.hid eL
  have HS0 := Lib.hid (Ms.made #[.string nm, .int .i64 (h0 : Nat), .int .i64 (h1 : Nat), .int .i64 (h2 : Nat), .slice la ls.length lc, .slice ta ts.length tc, .string gr, .string ap, .int .i64 r] (T := 29) (by decide) h hBw)
  have t1 : IntKind.i64.wrap (r + 1000) = ((rk : Nat) : Int) := by rw [IntKind.wrap_i64]; omega
  have t2 : IntKind.u64.wrap ((rk : Nat) : Int) = ((rk : Nat) : Int) := by rw [IntKind.wrap_u64]; omega
  clear h hnm z0 z1 z2 nl nt sl st hlen hBw n1 n2 n3 n4 n5 n6 eL hgr hap hr hrk
  go_enter Try.func77, Try.ntmps77
  go_wp2
  go_region_with (go_at_call 72; go_loud ((with_reducible refine (K1.out _ HS0.out.drew.m HS0.out.drew.le).mono ?_); rintro e w1 ⟨rfl, hm, hf⟩; have HS1 := Lib.hid (HS0.out.drew.go hm hf); clear hm hf))
  have c0 := box_cells HS1.out.bx 0
  have c1 := box_cells HS1.out.bx 1
  have c2 := box_cells HS1.out.bx 2
  have c3 := box_cells HS1.out.bx 3
  have c4 := box_cells HS1.out.bx 4
  have c5 := box_cells HS1.out.bx 5
  have c6 := box_cells HS1.out.bx 6
  have c7 := box_cells HS1.out.bx 7
  have c8 := box_cells HS1.out.bx 8
  go_wp2_with fail
  refine (K2.out _ HS1.out.m HS1.out.le).mono ?_
  rintro e w2 ⟨rfl, hm, hf⟩
  have HS2 := Lib.hid (HS1.out.go hm hf)
  clear hm hf
  clear c0 c1 c2 c3 c4 c5 c6 c7 c8
  have c0 := box_cells HS2.out.bx 0
  have c1 := box_cells HS2.out.bx 1
  have c2 := box_cells HS2.out.bx 2
  have c3 := box_cells HS2.out.bx 3
  have c4 := box_cells HS2.out.bx 4
  have c5 := box_cells HS2.out.bx 5
  have c6 := box_cells HS2.out.bx 6
  have c7 := box_cells HS2.out.bx 7
  have c8 := box_cells HS2.out.bx 8
  go_wp2_with fail
  refine (K3.out _ HS2.out.m HS2.out.fr.1 HS2.out.le).mono ?_
  rintro e w3 ⟨rfl, hm, hf⟩
  have HS3 := Lib.hid (HS2.out.go hm hf)
  clear hm hf
  clear c0 c1 c2 c3 c4 c5 c6 c7 c8
  have c0 := box_cells HS3.out.bx 0
  have c1 := box_cells HS3.out.bx 1
  have c2 := box_cells HS3.out.bx 2
  have c3 := box_cells HS3.out.bx 3
  have c4 := box_cells HS3.out.bx 4
  have c5 := box_cells HS3.out.bx 5
  have c6 := box_cells HS3.out.bx 6
  have c7 := box_cells HS3.out.bx 7
  have c8 := box_cells HS3.out.bx 8
  go_wp2_with fail
  refine (K4.out _ HS3.out.m HS3.out.fr.1 HS3.out.le).mono ?_
  rintro e w4 ⟨rfl, hm, hf⟩
  have HS4 := Lib.hid (HS3.out.go hm hf)
  clear hm hf
  clear c0 c1 c2 c3 c4 c5 c6 c7 c8
  have c0 := box_cells HS4.out.bx 0
  have c1 := box_cells HS4.out.bx 1
  have c2 := box_cells HS4.out.bx 2
  have c3 := box_cells HS4.out.bx 3
  have c4 := box_cells HS4.out.bx 4
  have c5 := box_cells HS4.out.bx 5
  have c6 := box_cells HS4.out.bx 6
  have c7 := box_cells HS4.out.bx 7
  have c8 := box_cells HS4.out.bx 8
  go_wp2
  go_region_with (go_at_call 72; go_loud ((with_reducible refine (K5.out _ HS4.out.drew.m HS4.out.drew.le).mono ?_); rintro e w5 ⟨rfl, hm, hf⟩; have HS5 := Lib.hid (HS4.out.drew.go hm hf); clear hm hf))
  clear c0 c1 c2 c3 c4 c5 c6 c7 c8
  have c0 := box_cells HS5.out.bx 0
  have c1 := box_cells HS5.out.bx 1
  have c2 := box_cells HS5.out.bx 2
  have c3 := box_cells HS5.out.bx 3
  have c4 := box_cells HS5.out.bx 4
  have c5 := box_cells HS5.out.bx 5
  have c6 := box_cells HS5.out.bx 6
  have c7 := box_cells HS5.out.bx 7
  have c8 := box_cells HS5.out.bx 8
  go_wp2
  go_region_with (go_at_call 72; go_loud ((with_reducible refine (K6.out _ HS5.out.drew.m HS5.out.drew.le).mono ?_); rintro e w6 ⟨rfl, hm, hf⟩; have HS6 := Lib.hid (HS5.out.drew.go hm hf); clear hm hf))
  clear c0 c1 c2 c3 c4 c5 c6 c7 c8
  have c0 := box_cells HS6.out.bx 0
  have c1 := box_cells HS6.out.bx 1
  have c2 := box_cells HS6.out.bx 2
  have c3 := box_cells HS6.out.bx 3
  have c4 := box_cells HS6.out.bx 4
  have c5 := box_cells HS6.out.bx 5
  have c6 := box_cells HS6.out.bx 6
  have c7 := box_cells HS6.out.bx 7
  have c8 := box_cells HS6.out.bx 8
  go_wp2
  go_region_with (go_at_call 45; go_loud ((with_reducible refine (K7.out _ HS6.out.drew.m HS6.out.drew.le).mono ?_); rintro e w7 ⟨rfl, hm, hf⟩; have HS7 := Lib.hid (HS6.out.drew.go hm hf); clear hm hf))
  clear c0 c1 c2 c3 c4 c5 c6 c7 c8
  go_wp2
  go_end0
  exact ⟨rfl, by rw [← EL.out]; exact HS7.out.m, HS7.out.fr⟩
end Hd
end Go.Proofs.Ythlchdlgafincaa

/-
  WHAT AN ORDER's KIND HAS, as bytes.
-/
namespace Go.Proofs.Ythlchdlgafincaa
open Go.RowKit
namespace Hd
open PM
theorem Ms.bl {w0 x : World} {B g : Nat} {cs : Array Value} {T : TypeId} {l : List UInt8} (h : Ms w0 B g cs T l x) : Below B w0 x := h.fr.1
set_option maxRecDepth 100000 in
set_option maxHeartbeats 2000000 in
theorem fields_node (B g : Nat) (l : List UInt8) (w : World) (nm : ByteArray) (h0 h1 h2 : Nat) (la ta : Option Addr) (lc tc : Nat) (ls ts : List Rg.Pr) (hnm : nm.size ≤ 1000) (z0 : h0 < 2 ^ 63) (z1 : h1 < 2 ^ 63) (z2 : h2 < 2 ^ 63) (hl : Rg.Pairs w B (.slice la ls.length lc) ls) (ht : Rg.Pairs w B (.slice ta ts.length tc) ts) (nl : ls.length ≤ 1000) (nt : ts.length ≤ 1000) (sl : ∀ p ∈ ls, p.k.size ≤ 1000 ∧ p.v.size ≤ 1000) (st : ∀ p ∈ ts, p.k.size ≤ 1000 ∧ p.v.size ≤ 1000) (yn yg ya : ByteArray) (y0 y1 y2 yr : Int) (ywa yba : Option Addr) (ywn ywc ybn ybc : Nat) (na on : ByteArray) (fe : Nat) (h : Mk w B g l) (hlen : l.length ≤ 60000000000000) (hBw : B ≤ w.heap.size) :
    Calls Try.prog 46 #[.pointer (some ⟨g, 0, none⟩), .agg #[.int .u8 1, .string nm, .int .i64 (h0 : Nat), .int .i64 (h1 : Nat), .int .i64 (h2 : Nat), .slice la ls.length lc, .slice ta ts.length tc, .string yn, .int .i64 y0, .int .i64 y1, .int .i64 y2, .slice ywa ywn ywc, .slice yba ybn ybc, .string yg, .string ya, .int .i64 yr, .string na, .string on, .int .u64 (fe : Nat)]] w fun e w' => e = .returned (.tuple #[]) ∧ Mk w' B g (l ++ ndB nm h0 h1 h2 ls ts) ∧ Fr B g w w' := by
  have K1 := Lib.hid (fun z (hz : Mk z B g l) (hb : Below B w z) (hB : B ≤ z.heap.size) => node_make B g l nm h0 h1 h2 (.slice la ls.length lc) (.slice ta ts.length tc) ls ts z hz hnm z0 z1 z2 (hl.keep hb) (ht.keep hb) nl nt sl st (by omega) hB)
  have HS0 := Lib.hid (Ms.made #[.int .u8 1, .string nm, .int .i64 (h0 : Nat), .int .i64 (h1 : Nat), .int .i64 (h2 : Nat), .slice la ls.length lc, .slice ta ts.length tc, .string yn, .int .i64 y0, .int .i64 y1, .int .i64 y2, .slice ywa ywn ywc, .slice yba ybn ybc, .string yg, .string ya, .int .i64 yr, .string na, .string on, .int .u64 (fe : Nat)] (T := 31) (by decide) h hBw)
  clear h hlen hBw hnm z0 z1 z2 hl ht nl nt sl st
  go_enter Try.func46, Try.ntmps46
  go_wp2
  go_region_with (go_at_call 76; go_loud ((with_reducible refine (K1.out _ HS0.out.drew.m HS0.out.drew.bl HS0.out.drew.le).mono ?_); rintro e w1 ⟨rfl, hm, hf⟩; have HS1 := Lib.hid (HS0.out.drew.go hm hf); clear hm hf))
  go_wp2
  go_end0
  exact ⟨rfl, by first | exact HS1.out.m | (have := HS1.out.m; simpa only [List.append_assoc] using this), HS1.out.fr⟩
set_option maxRecDepth 100000 in
set_option maxHeartbeats 2000000 in
theorem fields_task (B g : Nat) (l : List UInt8) (w : World) (nm : ByteArray) (h0 h1 h2 : Nat) (la ta : Option Addr) (lc tc : Nat) (ls ts : List Rg.Pr) (hnm : nm.size ≤ 1000) (z0 : h0 < 2 ^ 63) (z1 : h1 < 2 ^ 63) (z2 : h2 < 2 ^ 63) (hl : Rg.Pairs w B (.slice la ls.length lc) ls) (ht : Rg.Pairs w B (.slice ta ts.length tc) ts) (nl : ls.length ≤ 1000) (nt : ts.length ≤ 1000) (sl : ∀ p ∈ ls, p.k.size ≤ 1000 ∧ p.v.size ≤ 1000) (st : ∀ p ∈ ts, p.k.size ≤ 1000 ∧ p.v.size ≤ 1000) (gr ap : ByteArray) (r : Int) (rk : Nat) (hgr : gr.size ≤ 1000) (hap : ap.size ≤ 1000) (hr : r + 1000 = (rk : Nat)) (hrk : rk ≤ 2000) (xn : ByteArray) (x0 x1 x2 : Int) (xla xta : Option Addr) (xln xlc xtn xtc : Nat) (na on : ByteArray) (fe : Nat) (h : Mk w B g l) (hlen : l.length ≤ 60000000000000) (hBw : B ≤ w.heap.size) :
    Calls Try.prog 46 #[.pointer (some ⟨g, 0, none⟩), .agg #[.int .u8 3, .string xn, .int .i64 x0, .int .i64 x1, .int .i64 x2, .slice xla xln xlc, .slice xta xtn xtc, .string nm, .int .i64 (h0 : Nat), .int .i64 (h1 : Nat), .int .i64 (h2 : Nat), .slice la ls.length lc, .slice ta ts.length tc, .string gr, .string ap, .int .i64 r, .string na, .string on, .int .u64 (fe : Nat)]] w fun e w' => e = .returned (.tuple #[]) ∧ Mk w' B g (l ++ tsB nm h0 h1 h2 ls ts gr ap rk) ∧ Fr B g w w' := by
  have K1 := Lib.hid (fun z (hz : Mk z B g l) (hb : Below B w z) (hB : B ≤ z.heap.size) => task_make B g l nm h0 h1 h2 (.slice la ls.length lc) (.slice ta ts.length tc) ls ts gr ap r rk z hz hnm z0 z1 z2 (hl.keep hb) (ht.keep hb) nl nt sl st hgr hap hr hrk (by omega) hB)
  have HS0 := Lib.hid (Ms.made #[.int .u8 3, .string xn, .int .i64 x0, .int .i64 x1, .int .i64 x2, .slice xla xln xlc, .slice xta xtn xtc, .string nm, .int .i64 (h0 : Nat), .int .i64 (h1 : Nat), .int .i64 (h2 : Nat), .slice la ls.length lc, .slice ta ts.length tc, .string gr, .string ap, .int .i64 r, .string na, .string on, .int .u64 (fe : Nat)] (T := 31) (by decide) h hBw)
  clear h hlen hBw hnm z0 z1 z2 hl ht nl nt sl st hgr hap hr hrk
  go_enter Try.func46, Try.ntmps46
  go_wp2
  go_region_with (go_at_call 77; go_loud ((with_reducible refine (K1.out _ HS0.out.drew.m HS0.out.drew.bl HS0.out.drew.le).mono ?_); rintro e w1 ⟨rfl, hm, hf⟩; have HS1 := Lib.hid (HS0.out.drew.go hm hf); clear hm hf))
  go_wp2
  go_end0
  exact ⟨rfl, by first | exact HS1.out.m | (have := HS1.out.m; simpa only [List.append_assoc] using this), HS1.out.fr⟩
set_option maxRecDepth 100000 in
set_option maxHeartbeats 2000000 in
theorem fields_bind (B g : Nat) (l : List UInt8) (w : World) (xn : ByteArray) (x0 x1 x2 : Int) (xla xta : Option Addr) (xln xlc xtn xtc : Nat) (yn yg ya : ByteArray) (y0 y1 y2 yr : Int) (ywa yba : Option Addr) (ywn ywc ybn ybc : Nat) (na on : ByteArray) (fe : Nat) (h : Mk w B g l) (hna : na.size ≤ 1000) (hon : on.size ≤ 1000) (hfe : fe < 2 ^ 64) (hlen : l.length ≤ 60000000000000) (hBw : B ≤ w.heap.size) :
    Calls Try.prog 46 #[.pointer (some ⟨g, 0, none⟩), .agg #[.int .u8 5, .string xn, .int .i64 x0, .int .i64 x1, .int .i64 x2, .slice xla xln xlc, .slice xta xtn xtc, .string yn, .int .i64 y0, .int .i64 y1, .int .i64 y2, .slice ywa ywn ywc, .slice yba ybn ybc, .string yg, .string ya, .int .i64 yr, .string na, .string on, .int .u64 (fe : Nat)]] w fun e w' => e = .returned (.tuple #[]) ∧ Mk w' B g (l ++ (txt na.data.toList ++ txt on.data.toList ++ num fe)) ∧ Fr B g w w' := by
  have n1 := txt_len na hna
  have n2 := txt_len on hon
  have K1 := Lib.hid (fun z (hz : Mk z B g l) (hB : B ≤ z.heap.size) => mk_text B g l na z hz (by omega) (by omega) hB)
  have K2 := Lib.hid (fun z (hz : Mk z B g (l ++ txt na.data.toList)) (hB : B ≤ z.heap.size) => mk_text B g _ on z hz (by omega) (by simp only [List.length_append]; omega) hB)
  have K3 := Lib.hid (fun z (hz : Mk z B g (l ++ txt na.data.toList ++ txt on.data.toList)) (hB : B ≤ z.heap.size) => mk_number B g _ fe z hz hfe (by simp only [List.length_append]; omega) hB)
  have HS0 := Lib.hid (Ms.made #[.int .u8 5, .string xn, .int .i64 x0, .int .i64 x1, .int .i64 x2, .slice xla xln xlc, .slice xta xtn xtc, .string yn, .int .i64 y0, .int .i64 y1, .int .i64 y2, .slice ywa ywn ywc, .slice yba ybn ybc, .string yg, .string ya, .int .i64 yr, .string na, .string on, .int .u64 (fe : Nat)] (T := 31) (by decide) h hBw)
  clear h hna hon hfe hlen hBw n1 n2
  go_enter Try.func46, Try.ntmps46
  go_wp2
  go_region_with (go_at_call 72; go_loud ((with_reducible refine (K1.out _ HS0.out.drew.m HS0.out.drew.le).mono ?_); rintro e w1 ⟨rfl, hm, hf⟩; have HS1 := Lib.hid (HS0.out.drew.go hm hf); clear hm hf))
  have c0 := box_cells HS1.out.bx 0
  have c1 := box_cells HS1.out.bx 1
  have c2 := box_cells HS1.out.bx 2
  have c3 := box_cells HS1.out.bx 3
  have c4 := box_cells HS1.out.bx 4
  have c5 := box_cells HS1.out.bx 5
  have c6 := box_cells HS1.out.bx 6
  have c7 := box_cells HS1.out.bx 7
  have c8 := box_cells HS1.out.bx 8
  have c9 := box_cells HS1.out.bx 9
  have c10 := box_cells HS1.out.bx 10
  have c11 := box_cells HS1.out.bx 11
  have c12 := box_cells HS1.out.bx 12
  have c13 := box_cells HS1.out.bx 13
  have c14 := box_cells HS1.out.bx 14
  have c15 := box_cells HS1.out.bx 15
  have c16 := box_cells HS1.out.bx 16
  have c17 := box_cells HS1.out.bx 17
  have c18 := box_cells HS1.out.bx 18
  go_wp2
  go_region_with (go_at_call 72; go_loud ((with_reducible refine (K2.out _ HS1.out.drew.m HS1.out.drew.le).mono ?_); rintro e w2 ⟨rfl, hm, hf⟩; have HS2 := Lib.hid (HS1.out.drew.go hm hf); clear hm hf))
  clear c0 c1 c2 c3 c4 c5 c6 c7 c8 c9 c10 c11 c12 c13 c14 c15 c16 c17 c18
  have c0 := box_cells HS2.out.bx 0
  have c1 := box_cells HS2.out.bx 1
  have c2 := box_cells HS2.out.bx 2
  have c3 := box_cells HS2.out.bx 3
  have c4 := box_cells HS2.out.bx 4
  have c5 := box_cells HS2.out.bx 5
  have c6 := box_cells HS2.out.bx 6
  have c7 := box_cells HS2.out.bx 7
  have c8 := box_cells HS2.out.bx 8
  have c9 := box_cells HS2.out.bx 9
  have c10 := box_cells HS2.out.bx 10
  have c11 := box_cells HS2.out.bx 11
  have c12 := box_cells HS2.out.bx 12
  have c13 := box_cells HS2.out.bx 13
  have c14 := box_cells HS2.out.bx 14
  have c15 := box_cells HS2.out.bx 15
  have c16 := box_cells HS2.out.bx 16
  have c17 := box_cells HS2.out.bx 17
  have c18 := box_cells HS2.out.bx 18
  go_wp2
  go_region_with (go_at_call 45; go_loud ((with_reducible refine (K3.out _ HS2.out.drew.m HS2.out.drew.le).mono ?_); rintro e w3 ⟨rfl, hm, hf⟩; have HS3 := Lib.hid (HS2.out.drew.go hm hf); clear hm hf))
  go_wp2
  go_end0
  exact ⟨rfl, by first | exact HS3.out.m | (have := HS3.out.m; simpa only [List.append_assoc] using this), HS3.out.fr⟩
set_option maxRecDepth 100000 in
set_option maxHeartbeats 2000000 in
theorem fields_name (B g : Nat) (l : List UInt8) (w : World) (k : Nat) (k1 : k ≠ 1) (k3 : k ≠ 3) (k5 : k ≠ 5) (xn : ByteArray) (x0 x1 x2 : Int) (xla xta : Option Addr) (xln xlc xtn xtc : Nat) (yn yg ya : ByteArray) (y0 y1 y2 yr : Int) (ywa yba : Option Addr) (ywn ywc ybn ybc : Nat) (na on : ByteArray) (fe : Nat) (h : Mk w B g l) (hna : na.size ≤ 1000) (hlen : l.length ≤ 60000000000000) (hBw : B ≤ w.heap.size) :
    Calls Try.prog 46 #[.pointer (some ⟨g, 0, none⟩), .agg #[.int .u8 (k : Nat), .string xn, .int .i64 x0, .int .i64 x1, .int .i64 x2, .slice xla xln xlc, .slice xta xtn xtc, .string yn, .int .i64 y0, .int .i64 y1, .int .i64 y2, .slice ywa ywn ywc, .slice yba ybn ybc, .string yg, .string ya, .int .i64 yr, .string na, .string on, .int .u64 (fe : Nat)]] w fun e w' => e = .returned (.tuple #[]) ∧ Mk w' B g (l ++ txt na.data.toList) ∧ Fr B g w w' := by
  have K1 := Lib.hid (fun z (hz : Mk z B g l) (hB : B ≤ z.heap.size) => mk_text B g l na z hz (by omega) (by omega) hB)
  have e1 : ¬ ((k : Nat) : Int) = 1 := by omega
  have e3 : ¬ ((k : Nat) : Int) = 3 := by omega
  have e5 : ¬ ((k : Nat) : Int) = 5 := by omega
  have f1 : (((k : Nat) : Int) == 1) = false := by simp; omega
  have f3 : (((k : Nat) : Int) == 3) = false := by simp; omega
  have f5 : (((k : Nat) : Int) == 5) = false := by simp; omega
  have HS0 := Lib.hid (Ms.made #[.int .u8 (k : Nat), .string xn, .int .i64 x0, .int .i64 x1, .int .i64 x2, .slice xla xln xlc, .slice xta xtn xtc, .string yn, .int .i64 y0, .int .i64 y1, .int .i64 y2, .slice ywa ywn ywc, .slice yba ybn ybc, .string yg, .string ya, .int .i64 yr, .string na, .string on, .int .u64 (fe : Nat)] (T := 31) (by decide) h hBw)
  clear h hna hlen hBw k1 k3 k5
  go_enter Try.func46, Try.ntmps46
  go_wp2
  go_region_with (go_at_call 72; go_loud ((with_reducible refine (K1.out _ HS0.out.drew.m HS0.out.drew.le).mono ?_); rintro e w1 ⟨rfl, hm, hf⟩; have HS1 := Lib.hid (HS0.out.drew.go hm hf); clear hm hf))
  go_wp2
  go_end0
  exact ⟨rfl, by first | exact HS1.out.m | (have := HS1.out.m; simpa only [List.append_assoc] using this), HS1.out.fr⟩
end Hd
end Go.Proofs.Ythlchdlgafincaa

/-
  A COMMAND made.
-/
namespace Go.Proofs.Ythlchdlgafincaa
open Go.RowKit
namespace Hd
open PM Hc
/-- What the making asks of pairs, of a node, of a task, of a command. -/
def FitP (ps : List Rg.Pr) : Prop := ps.length ≤ 1000 ∧ ∀ p ∈ ps, p.k.size ≤ 1000 ∧ p.v.size ≤ 1000
def FitZ (z : Int) : Prop := 0 ≤ z ∧ z < 9223372036854775808
structure FitN (m : Nd) : Prop where
  nm : m.n.size ≤ 1000
  z0 : FitZ m.z0
  z1 : FitZ m.z1
  z2 : FitZ m.z2
  ls : FitP m.ls
  ts : FitP m.ts
structure FitT (m : Td) : Prop where
  nm : m.n.size ≤ 1000
  z0 : FitZ m.z0
  z1 : FitZ m.z1
  z2 : FitZ m.z2
  ws : FitP m.ws
  bs : FitP m.bs
  g : m.g.size ≤ 1000
  a : m.a.size ≤ 1000
  r : -1000 ≤ m.r ∧ m.r ≤ 1000
structure FitC (c : Cd) : Prop where
  cl : c.cl < 2 ^ 64
  sq : c.sq < 2 ^ 64
  k : c.k < 256
  nd : c.k = 1 → FitN c.nd
  td : c.k = 3 → FitT c.td
  on : c.k = 5 → c.on.size ≤ 1000 ∧ c.fe < 2 ^ 64
  na : c.k ≠ 1 → c.k ≠ 3 → c.na.size ≤ 1000
/-- The bytes. -/
def ndY (n : Nd) : List UInt8 := ndB n.n n.z0.toNat n.z1.toNat n.z2.toNat n.ls n.ts
def tdY (n : Td) : List UInt8 := tsB n.n n.z0.toNat n.z1.toNat n.z2.toNat n.ws n.bs n.g n.a (n.r + 1000).toNat
def fdY (c : Cd) : List UInt8 := if c.k = 1 then ndY c.nd else if c.k = 3 then tdY c.td else if c.k = 5 then txt c.na.data.toList ++ txt c.on.data.toList ++ num c.fe else txt c.na.data.toList
def cmY (c : Cd) : List UInt8 := num c.cl ++ num c.sq ++ num c.k ++ fdY c
/-- The four lists lie below block B. -/
structure PrsIn (w : World) (B : Nat) (c : Cd) (v2 v3 v4 v5 : Value) : Prop where
  h2 : Rg.Pairs w B v2 c.nd.ls
  h3 : Rg.Pairs w B v3 c.nd.ts
  h4 : Rg.Pairs w B v4 c.td.ws
  h5 : Rg.Pairs w B v5 c.td.bs
theorem PrsIn.keep {w w' : World} {B : Nat} {c : Cd} {v2 v3 v4 v5 : Value} (h : PrsIn w B c v2 v3 v4 v5) (hb : Below B w w') : PrsIn w' B c v2 v3 v4 v5 := ⟨h.h2.keep hb, h.h3.keep hb, h.h4.keep hb, h.h5.keep hb⟩
theorem FitZ.nat {z : Int} (h : FitZ z) : z = (z.toNat : Nat) ∧ z.toNat < 2 ^ 63 := by
  obtain ⟨h1, h2⟩ := h
  omega
theorem fields_make (B g : Nat) (l : List UInt8) (w : World) (c : Cd) (v2 v3 v4 v5 : Value) (hf : FitC c) (hp : PrsIn w B c v2 v3 v4 v5) (h : Mk w B g l) (hlen : l.length ≤ 60000000000000) (hBw : B ≤ w.heap.size) :
    Calls Try.prog 46 #[.pointer (some ⟨g, 0, none⟩), .agg ((cdC c v2 v3 v4 v5).drop 2).toArray] w fun e w' => e = .returned (.tuple #[]) ∧ Mk w' B g (l ++ fdY c) ∧ Fr B g w w' := by
  obtain ⟨h2, h3, h4, h5⟩ := hp
  have s2 := h2
  have s3 := h3
  have s4 := h4
  have s5 := h5
  obtain ⟨a2, c2, rfl, -⟩ := s2
  obtain ⟨a3, c3, rfl, -⟩ := s3
  obtain ⟨a4, c4, rfl, -⟩ := s4
  obtain ⟨a5, c5, rfl, -⟩ := s5
  obtain ⟨cl, sq, k, ⟨nn, n0, n1, n2, ls, ts⟩, ⟨tn, t0, t1, t2, ws, bs, tg, ta, tr⟩, na, on, fe⟩ := c
  simp only [cdC, List.drop_succ_cons, List.drop_zero]
  unfold fdY
  obtain ⟨hcl, hsq, hk, hnd, htd, hon, hna⟩ := hf
  simp only at hnd htd hon hna h2 h3 h4 h5 ⊢
  by_cases k1 : k = 1
  · subst k1
    rw [if_pos rfl]
    obtain ⟨x1, x2, x3, x4, x5, x6⟩ := hnd rfl
    simp only at x1 x2 x3 x4 x5 x6
    obtain ⟨e2, l2⟩ := x2.nat
    obtain ⟨e3, l3⟩ := x3.nat
    obtain ⟨e4, l4⟩ := x4.nat
    unfold ndY
    simp only
    have := fields_node B g l w nn n0.toNat n1.toNat n2.toNat a2 a3 c2 c3 ls ts x1 l2 l3 l4 h2 h3 x5.1 x6.1 x5.2 x6.2 tn tg ta t0 t1 t2 tr a4 a5 ws.length c4 bs.length c5 na on fe h hlen hBw
    rw [← e2, ← e3, ← e4] at this
    exact this
  · rw [if_neg k1]
    by_cases k3 : k = 3
    · subst k3
      rw [if_pos rfl]
      obtain ⟨x1, x2, x3, x4, x5, x6, x7, x8, x9⟩ := htd rfl
      simp only at x1 x2 x3 x4 x5 x6 x7 x8 x9
      obtain ⟨e2, l2⟩ := x2.nat
      obtain ⟨e3, l3⟩ := x3.nat
      obtain ⟨e4, l4⟩ := x4.nat
      unfold tdY
      simp only
      have := fields_task B g l w tn t0.toNat t1.toNat t2.toNat a4 a5 c4 c5 ws bs x1 l2 l3 l4 h4 h5 x5.1 x6.1 x5.2 x6.2 tg ta tr (tr + 1000).toNat x7 x8 (by omega) (by omega) nn n0 n1 n2 a2 a3 ls.length c2 ts.length c3 na on fe h hlen hBw
      rw [← e2, ← e3, ← e4] at this
      exact this
    · rw [if_neg k3]
      by_cases k5 : k = 5
      · subst k5
        rw [if_pos rfl]
        exact fields_bind B g l w nn n0 n1 n2 a2 a3 ls.length c2 ts.length c3 tn tg ta t0 t1 t2 tr a4 a5 ws.length c4 bs.length c5 na on fe h (hna k1 k3) (hon rfl).1 (hon rfl).2 hlen hBw
      · rw [if_neg k5]
        exact fields_name B g l w k k1 k3 k5 nn n0 n1 n2 a2 a3 ls.length c2 ts.length c3 tn tg ta t0 t1 t2 tr a4 a5 ws.length c4 bs.length c5 na on fe h (hna k1 k3) hlen hBw
set_option maxRecDepth 100000 in
set_option maxHeartbeats 2000000 in
theorem command_make (B g : Nat) (l : List UInt8) (w : World) (c : Cd) (v2 v3 v4 v5 : Value) (hf : FitC c) (hp : PrsIn w B c v2 v3 v4 v5) (h : Mk w B g l) (hlen : l.length ≤ 50000000000000) (hBw : B ≤ w.heap.size) :
    Calls Try.prog 22 #[.pointer (some ⟨g, 0, none⟩), .agg (cdC c v2 v3 v4 v5).toArray] w fun e w' => e = .returned (.tuple #[]) ∧ Mk w' B g (l ++ cmY c) ∧ Fr B g w w' := by
  have hcl := hf.cl
  have hsq := hf.sq
  have hk := hf.k
  have n1 : (num c.cl).length ≤ 9 := by rw [num_length]; have := (nsz_spec c.cl hcl).1; omega
  have n2 : (num c.sq).length ≤ 9 := by rw [num_length]; have := (nsz_spec c.sq hsq).1; omega
  have n3 : (num c.k).length ≤ 9 := by rw [num_length]; have := (nsz_spec c.k (by omega)).1; omega
  have K1 := Lib.hid (fun z (hz : Mk z B g l) (hB : B ≤ z.heap.size) => mk_number B g l c.cl z hz hcl (by omega) hB)
  have K2 := Lib.hid (fun z (hz : Mk z B g (l ++ num c.cl)) (hB : B ≤ z.heap.size) => mk_number B g _ c.sq z hz hsq (by simp only [List.length_append]; omega) hB)
  have K3 := Lib.hid (fun z (hz : Mk z B g (l ++ num c.cl ++ num c.sq)) (hB : B ≤ z.heap.size) => mk_number B g _ c.k z hz (by omega) (by simp only [List.length_append]; omega) hB)
  have K4 := Lib.hid (fun z (hz : Mk z B g (l ++ num c.cl ++ num c.sq ++ num c.k)) (hb : Below B w z) (hB : B ≤ z.heap.size) => fields_make B g _ z c v2 v3 v4 v5 hf (hp.keep hb) hz (by simp only [List.length_append]; omega) hB)
  have HL : Hid (l ++ num c.cl ++ num c.sq ++ num c.k ++ fdY c = l ++ cmY c) := by show _ = _; unfold cmY; simp only [List.append_assoc]
  have tk : IntKind.u64.wrap ((c.k : Nat) : Int) = ((c.k : Nat) : Int) := by rw [IntKind.wrap_u64]; omega
  have HS0 := Lib.hid (Ms.made (cdC c v2 v3 v4 v5).toArray (T := 33) (by decide) h hBw)
  clear h hlen hBw n1 n2 n3 hcl hsq hk hf hp
  have c0 : (w.alloc (.cells (cdC c v2 v3 v4 v5).toArray 33)).cell? ⟨w.heap.size, 0, none⟩ = some (.int .u64 (c.cl : Nat)) := (box_cells HS0.out.bx 0).trans rfl
  obtain ⟨CS, hCS⟩ : ∃ CS, CS = (cdC c v2 v3 v4 v5).toArray := ⟨_, rfl⟩
  rw [← hCS] at HS0 c0 ⊢
  have HC := Lib.hid hCS
  clear hCS
  go_enter Try.func22, Try.ntmps22
  go_wp2
  go_region_with (go_at_call 45; go_loud ((with_reducible refine (K1.out _ HS0.out.drew.m HS0.out.drew.le).mono ?_); rintro e w1 ⟨rfl, hm, hf⟩; have HS1 := Lib.hid (HS0.out.drew.go hm hf); clear hm hf c0))
  have c1 : w1.cell? ⟨w.heap.size, 1, none⟩ = some (.int .u64 (c.sq : Nat)) := (box_cells HS1.out.bx 1).trans (by rw [HC.out]; rfl)
  go_wp2
  go_region_with (go_at_call 45; go_loud ((with_reducible refine (K2.out _ HS1.out.drew.m HS1.out.drew.le).mono ?_); rintro e w2 ⟨rfl, hm, hf⟩; have HS2 := Lib.hid (HS1.out.drew.go hm hf); clear hm hf c1))
  have c2 : w2.cell? ⟨w.heap.size, 2, none⟩ = some (.int .u8 (c.k : Nat)) := (box_cells HS2.out.bx 2).trans (by rw [HC.out]; rfl)
  go_wp2
  go_region_with (go_at_call 45; go_loud ((with_reducible refine (K3.out _ HS2.out.drew.m HS2.out.drew.le).mono ?_); rintro e w3 ⟨rfl, hm, hf⟩; have HS3 := Lib.hid (HS2.out.drew.go hm hf); clear hm hf c2))
  have hr : w3.rangeAt w.heap.size 2 ((cdC c v2 v3 v4 v5).drop 2) := by
    intro j v hj
    rw [box_cells HS3.out.bx, HC.out]
    rw [List.getElem?_drop] at hj
    simpa using hj
  have HR := Lib.hid hr
  clear hr
  go_upto_region 4 with fail
  refine wp_region_list ?_
  refine wpList_plain rfl fun K hK => ?_
  go_simp
  refine hK _ _ ?_
  clear hK K
  refine wpList_plain rfl fun K hK => ?_
  go_simp
  refine hK _ _ ?_
  clear hK K
  refine wpList_load_mid rfl 31 (.tmp 28) rfl w.heap.size 2 rfl ((cdC c v2 v3 v4 v5).drop 2) _ HR.out Try.underlying31 rfl rfl ?_
  generalize Value.agg CS = A1
  go_wp2_with fail
  refine (K4.out _ HS3.out.m HS3.out.fr.1 HS3.out.le).mono ?_
  rintro e w4 ⟨rfl, hm, hf⟩
  have HS4 := Lib.hid (HS3.out.go hm hf)
  clear hm hf
  go_wp2
  go_end0
  exact ⟨rfl, by rw [← HL.out]; exact HS4.out.m, HS4.out.fr⟩
end Hd
end Go.Proofs.Ythlchdlgafincaa
