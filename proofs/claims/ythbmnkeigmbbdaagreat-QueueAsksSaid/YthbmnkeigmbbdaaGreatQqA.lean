/-
  Merged: QeWait, QeWaitQ.
-/
import Derived.Test.YthbmnkeigmbbdaaGreatQeB
import Derived.Test.YthbmnkeigmbbdaaGreatQeC
import Derived.Test.YthbmnkeigmbbdaaGreatBgB
import Derived.Conc.LoneCalls
import Derived.Test.YthbmnkeigmbbdaaGreatQeD
/-
  WHO WAITS: queue.waiting (a channel with room for all), queue.taken (all that stands in it).
-/
namespace Go.Proofs.YthbmnkeigmbbdaaGreat
open Go.RowKit Go.Lib
namespace Bo
open Rw
set_option linter.unusedVariables false
def tkV (x : TdM) : Value := .agg (tdE x).toArray
theorem info_tk : (Tryz.prog.info? 42).map (fun i => (i.zero, i.size, i.bytes)) = some (some (.agg #[.string ByteArray.empty, .int .i64 0, .int .i64 0, .int .i64 0, .slice none 0 0, .slice none 0 0, .string ByteArray.empty, .string ByteArray.empty, .int .i64 0]), 9, 128) := by kernel_rfl
theorem zero_tk (w : World) : (zeroValue 42).run Tryz.prog w = .ok (.agg #[.string ByteArray.empty, .int .i64 0, .int .i64 0, .int .i64 0, .slice none 0 0, .slice none 0 0, .string ByteArray.empty, .string ByteArray.empty, .int .i64 0]) w := by
  obtain ⟨i0, hi0, hz0, hz1, hz2⟩ := info_parts info_tk
  simp [zeroValue, typeInfo, hi0, hz0]
theorem mk_tasks (w : World) (n : Nat) (h : n ≤ 4096) : (Instr.makeChan 78 (.int .i64 n)).run Tryz.prog w = .ok (.chan (some w.heap.size)) (w.alloc (.chan n #[] false 0 0 false)) := by
  obtain ⟨i0, hi0, hz0, hz1, hz2⟩ := info_parts info_tk
  exact Go.Conc.run_makeChan (P := Tryz.prog) (w := w) Tryz.underlying78 hi0 .i64 n (by omega) (by rw [hz2]; omega)
/-- What stays while tasks go through the channel C. -/
structure StW (w : World) (vs : List Value) (C n : Nat) (S : List TdM) (wx : World) : Prop where
  be : Below w.heap.size w wx
  ch : ∃ s, wx.heap[C]? = some (.chan n (S.map tkV).toArray false s 0 false)
  lo : w.heap.size < C
  bx : Hd.Bxn wx w.heap.size vs
theorem StW.go {w : World} {vs : List Value} {C n : Nat} {S : List TdM} {wx wy : World} (h : StW w vs C n S wx) (hb : Below wx.heap.size wx wy) : StW w vs C n S wy :=
  ⟨h.be.trans (hb.mono h.be.size), ⟨h.ch.choose, Cm.chan_keep h.ch.choose_spec hb⟩, h.lo, h.bx.below hb⟩
theorem below_setChan {B C : Nat} {w w' : World} (h : Below B w w') (hC : B ≤ C) (cap : Nat) (buf : Array Value) (cl : Bool) (s r : Nat) (tm : Bool) : Below B w (w'.setChan C cap buf cl s r tm) := by
  refine ⟨h.os, h.tape, h.output, by rw [World.setChan]; simpa using h.size, fun k hk => ?_⟩
  rw [← h.block k hk]
  simp only [World.setChan]
  rw [Array.getElem?_setIfInBounds_ne (by omega)]
theorem StW.set {w : World} {vs : List Value} {C n : Nat} {S S' : List TdM} {wx : World} (h : StW w vs C n S wx) (s : Nat) : StW w vs C n S' (wx.setChan C n (S'.map tkV).toArray false s 0 false) := by
  obtain ⟨s0, hc⟩ := h.ch
  have hlt := (Array.getElem?_eq_some_iff.1 hc).1
  have hlo := h.lo
  refine ⟨below_setChan h.be (by omega) _ _ _ _ _ _, ⟨s, Go.Conc.heap_setChan _ _ _ _ _ _ _ _ hlt⟩, h.lo, ?_⟩
  obtain ⟨T, hx⟩ := h.bx
  refine ⟨T, ?_⟩
  simp only [World.setChan]
  rw [Array.getElem?_setIfInBounds_ne (by omega)]
  exact hx
/-- Those of the tasks that are on no node. -/
def wtM (mt : List TdM) (bs : List Rg.Pr) : List TdM := mt.filter (fun x => !hasK (bs.map (·.k)) x.td.n)
theorem wtM_td (mt : List TdM) (bs : List Rg.Pr) : (wtM mt bs).map (·.td) = wtL (mt.map (·.td)) bs := by
  unfold wtM wtL
  rw [List.filter_map]
  rfl
theorem wtM_len (mt : List TdM) (bs : List Rg.Pr) : (wtM mt bs).length ≤ mt.length := List.length_filter_le _ _
theorem wtM_yes (mt : List TdM) (bs : List Rg.Pr) (k : Nat) (h : k < mt.length) (hh : hasK (bs.map (·.k)) mt[k].td.n = false) : wtM (mt.take (k + 1)) bs = wtM (mt.take k) bs ++ [mt[k]] := by
  unfold wtM
  rw [List.take_succ_eq_append_getElem h, List.filter_append, List.filter_cons_of_pos (by rw [hh]; rfl), List.filter_nil]
theorem wtM_no (mt : List TdM) (bs : List Rg.Pr) (k : Nat) (h : k < mt.length) (hh : hasK (bs.map (·.k)) mt[k].td.n = true) : wtM (mt.take (k + 1)) bs = wtM (mt.take k) bs := by
  unfold wtM
  rw [List.take_succ_eq_append_getElem h, List.filter_append, List.filter_cons_of_neg (by rw [hh]; decide), List.filter_nil, List.append_nil]
theorem push_tk (S : List TdM) (x : TdM) : (S.map tkV).toArray.push (tkV x) = ((S ++ [x]).map tkV).toArray := by simp
set_option maxRecDepth 100000 in
set_option maxHeartbeats 4000000 in
theorem waiting_any (b : Bk) (vn vt vb : Value) (mt : List TdM) (w : World) {A : Nat} (hB : Books w w.heap.size vn vt vb b) (hs : Sl w A w.heap.size vt mt) (hl : mt.length ≤ 4096) :
    Calls Tryz.prog 36 #[.agg #[vn, vt, vb, .int .u64 (b.fe : Nat)]] w fun e w' => ∃ C s, e = .returned (.chan (some C)) ∧ w.heap.size ≤ C ∧ w'.heap[C]? = some (.chan mt.length ((wtM mt b.bs).map tkV).toArray false s 0 false) ∧ Below w.heap.size w w' := by
  have HON : Hid (∀ (k : ByteArray) (z : World), Below w.heap.size w z → Calls Tryz.prog 47 #[.agg #[vn, vt, vb, .int .u64 (b.fe : Nat)], .string k] z fun e w' => e = .returned (.bool (hasK (b.bs.map (·.k)) k)) ∧ Below z.heap.size z w') := fun k z hz => isOn_any b vn vt vb k z (hB.on hz)
  obtain ⟨an, cn, hvn⟩ := hB.hn.slice
  obtain ⟨ab, cb, hvb⟩ := hB.hb.slice
  obtain ⟨at', ct, rfl, hcap, -, hlen, hcells⟩ := hs
  subst hvn hvb
  have HC := Lib.hid hcells
  have hmk := fun z => mk_tasks z mt.length hl
  have HLN := Lib.hid hl
  clear hcells hB hl hcap hlen
  generalize b.ns.length = nn at *
  generalize b.bs.length = nb at *
  obtain ⟨W0, hW0⟩ : ∃ W0, W0 = w.alloc (.cells #[.slice an nn cn, .slice at' mt.length ct, .slice ab nb cb, .int .u64 (b.fe : Nat)] 27) := ⟨_, rfl⟩
  have HW := Lib.hid hW0
  have HX0 : Hid (Hd.Bxn W0 w.heap.size [.slice an nn cn, .slice at' mt.length ct, .slice ab nb cb, .int .u64 (b.fe : Nat)]) := by rw [hW0]; exact Hd.Bxn.made w _ _
  have HB0 : Hid (Below w.heap.size w W0) := by rw [hW0]; exact al w _
  have HZ0 : Hid (W0.heap.size = w.heap.size + 1) := by rw [hW0]; show _ = _; simp
  clear hW0
  refine Cm.calls Tryz.func36 rfl ?_
  simp only [Tryz.ntmps36, List.size_toArray, List.length_cons, List.length_nil, Nat.reduceAdd, Nat.reduceSub, Array.replicate_succ, Array.replicate_zero, List.push_toArray, List.append_toArray, List.nil_append, List.cons_append]
  refine Cm.seq_wp fun K hK => ?_
  go_wp2
  rw [← HW.out]
  refine Cm.seq_wp fun K hK => ?_
  have b1 : W0.cell? ⟨w.heap.size, 1, none⟩ = some (.slice at' mt.length ct) := HX0.out.cell 1
  go_wp2
  clear b1 hmk
  obtain ⟨C, hC⟩ : ∃ C, C = W0.heap.size := ⟨_, rfl⟩
  have HS0 : Hid (StW w [.slice an nn cn, .slice at' mt.length ct, .slice ab nb cb, .int .u64 (b.fe : Nat)] C mt.length [] (W0.alloc (.chan mt.length #[] false 0 0 false))) := by
    subst hC
    have hz := HZ0.out
    exact ⟨HB0.out.alloc HB0.out.size _, ⟨0, heap_alloc_new _ _⟩, by omega, HX0.out.below (al _ _)⟩
  rw [← hC]
  clear hC HX0 HB0 HZ0 HW
  generalize W0.alloc (.chan mt.length #[] false 0 0 false) = w2 at *
  clear W0
  refine Cm.seq_k fun K hK => ?_
  refine Cm.seq_wp fun K2 hK2 => ?_
  have b1 : w2.cell? ⟨w.heap.size, 1, none⟩ = some (.slice at' mt.length ct) := HS0.out.bx.cell 1
  go_wp2
  clear b1
  refine Cm.block ?_
  refine Cm.loop (fun gg act wx => ∃ (k : Nat) (zi : Int) (u4 u5 u14 u15 u16 u17 u18 u19 u20 u21 u22 u23 u24 : Value), k + gg = mt.length ∧ zi = (k : Nat) ∧ act = ⟨#[.agg #[.slice an nn cn, .slice at' mt.length ct, .slice ab nb cb, .int .u64 (b.fe : Nat)], .pointer (some ⟨w.heap.size, 0, none⟩), .chan none, .chan (some C), u4, u5, .pointer (some ⟨w.heap.size, 1, none⟩), .slice at' mt.length ct, .int .i64 mt.length, .chan (some C), .pointer (some ⟨w.heap.size, 1, none⟩), .slice at' mt.length ct, .int .i64 mt.length, .int .i64 zi, u14, u15, u16, u17, u18, u19, u20, u21, u22, u23, u24, undef], []⟩ ∧ Hid (StW w [.slice an nn cn, .slice at' mt.length ct, .slice ab nb cb, .int .u64 (b.fe : Nat)] C mt.length (wtM (mt.take k) b.bs) wx)) mt.length ?_ ?_
  · exact ⟨0, 0, _, _, _, _, _, _, _, _, _, _, _, _, _, by omega, rfl, rfl, HS0⟩
  clear HS0
  intro gk a3 wr hI J hJ
  obtain ⟨k, zi, u4, u5, u14, u15, u16, u17, u18, u19, u20, u21, u22, u23, u24, hkg, rfl, rfl, HS⟩ := hI
  cases gk with
  | zero =>
    obtain rfl : k = mt.length := by omega
    have HSE : Hid (StW w [.slice an nn cn, .slice at' mt.length ct, .slice ab nb cb, .int .u64 (b.fe : Nat)] C mt.length (wtM mt b.bs) wr) := by have := HS.out; rwa [List.take_length] at this
    clear hkg HS
    refine Cm.seq_wp fun K2 hK2 => ?_
    go_wp2
    refine Cm.seq_wp fun K3 hK3 => ?_
    go_wp2
    refine Cm.of_wp ?_
    go_wp2
    go_ret
    obtain ⟨s, hch⟩ := HSE.out.ch
    exact ⟨C, s, rfl, by have := HSE.out.lo; omega, hch, HSE.out.be⟩
  | succ gg =>
    have hlk : k < mt.length := by omega
    have t2 : (k : Int) < (mt.length : Int) := by omega
    have t3 : IntKind.i64.wrap ((k : Int) + 1) = (k : Int) + 1 := by rw [IntKind.wrap_i64]; have := HLN.out; omega
    obtain ⟨bt, off, rfl, -, hblt, hcc⟩ := HC.out (by omega)
    have hat : At w bt (off + k * 9) mt[k] := hcc k hlk
    obtain ⟨d0, d1, d2, d3, d4, d5, d6, d7, d8⟩ := at_td hat
    have HBE := Lib.hid HS.out.be
    have e0 := (HBE.out.cell (by exact hblt)).trans d0
    have e1 := (HBE.out.cell (by exact hblt)).trans d1
    have e2 := (HBE.out.cell (by exact hblt)).trans d2
    have e3 := (HBE.out.cell (by exact hblt)).trans d3
    have e4 := (HBE.out.cell (by exact hblt)).trans d4
    have e5 := (HBE.out.cell (by exact hblt)).trans d5
    have e6 := (HBE.out.cell (by exact hblt)).trans d6
    have e7 := (HBE.out.cell (by exact hblt)).trans d7
    have e8 := (HBE.out.cell (by exact hblt)).trans d8
    have HY := Lib.hid (wtM_yes mt b.bs k hlk)
    have HN := Lib.hid (wtM_no mt b.bs k hlk)
    have HKG := Lib.hid hkg
    have HRM : Hid ((wtM (mt.take k) b.bs).length < mt.length) := Nat.lt_of_le_of_lt (wtM_len _ _) (by rw [List.length_take]; omega)
    clear d0 d1 d2 d3 d4 d5 d6 d7 d8 hat hcc hkg hblt
    have HTK : Hid (tkV mt[k] = .agg (tdE mt[k]).toArray) := rfl
    generalize mt[k] = x at *
    obtain ⟨⟨xn, x0, x1, x2, xw, xb, xg, xa, xr⟩, xa4, xc4, xa5, xc5⟩ := x
    have HTK2 : Hid (tkV ⟨⟨xn, x0, x1, x2, xw, xb, xg, xa, xr⟩, xa4, xc4, xa5, xc5⟩ = .agg #[.string xn, .int .i64 x0, .int .i64 x1, .int .i64 x2, .slice xa4 xw.length xc4, .slice xa5 xb.length xc5, .string xg, .string xa, .int .i64 xr]) := rfl
    simp only at e0 e1 e2 e3 e4 e5 e6 e7 e8 HY HN
    generalize xw.length = n1 at e0 e1 e2 e3 e4 e5 e6 e7 e8 HTK2
    generalize xb.length = n2 at e0 e1 e2 e3 e4 e5 e6 e7 e8 HTK2
    clear HTK
    refine Cm.seq_wp fun K2 hK2 => ?_
    go_wp2
    refine Cm.seq_wp fun K3 hK3 => ?_
    go_wp2
    refine Cm.seq_k fun K4 hK4 => ?_
    refine Cm.block ?_
    refine Cm.seq_wp fun K5 hK5 => ?_
    go_wp2
    clear e0 e1 e2 e3 e4 e5 e6 e7 e8
    obtain ⟨wy, hwy⟩ : ∃ wy, wy = wr.alloc (.cells #[.string xn, .int .i64 x0, .int .i64 x1, .int .i64 x2, .slice xa4 n1 xc4, .slice xa5 n2 xc5, .string xg, .string xa, .int .i64 xr] 42) := ⟨_, rfl⟩
    have HXT : Hid (Hd.Bxn wy wr.heap.size [.string xn, .int .i64 x0, .int .i64 x1, .int .i64 x2, .slice xa4 n1 xc4, .slice xa5 n2 xc5, .string xg, .string xa, .int .i64 xr]) := by rw [hwy]; exact Hd.Bxn.made wr _ _
    have HS2 := Lib.hid (HS.out.go (wy := wy) (by rw [hwy]; exact al _ _))
    rw [← hwy]
    clear hwy HS HBE
    have c0 : wy.cell? ⟨wr.heap.size, 0, none⟩ = some (.string xn) := HXT.out.cell 0
    have b0 : wy.cell? ⟨w.heap.size, 0, none⟩ = some (.slice an nn cn) := HS2.out.bx.cell 0
    have b1 : wy.cell? ⟨w.heap.size, 1, none⟩ = some (.slice (some ⟨bt, off, none⟩) mt.length ct) := HS2.out.bx.cell 1
    have b2 : wy.cell? ⟨w.heap.size, 2, none⟩ = some (.slice ab nb cb) := HS2.out.bx.cell 2
    have b3 : wy.cell? ⟨w.heap.size, 3, none⟩ = some (.int .u64 (b.fe : Nat)) := HS2.out.bx.cell 3
    have HIS := Lib.hid (HON.out xn wy HS2.out.be)
    refine Cm.seq_wp fun K6 hK6 => ?_
    cases hq : hasK (b.bs.map (·.k)) xn
    · rw [hq] at HIS HY
      clear hq
      go_wp2_with fail
      refine HIS.out.mono ?_
      rintro e wz ⟨rfl, hb⟩
      have HS3 := Lib.hid (HS2.out.go hb)
      have HXZ := Lib.hid (HXT.out.below hb)
      clear hb c0 b0 b1 b2 b3 HS2 HXT HIS
      go_wp2
      obtain ⟨s, hch⟩ := HS3.out.ch
      have hrm : ((wtM (mt.take k) b.bs).map tkV).toArray.size < mt.length := by rw [List.size_toArray, List.length_map]; exact HRM.out
      refine Cm.cond_true rfl ?_
      refine Cm.send_third (v1 := .chan (some C)) (v2 := .agg #[.string xn, .int .i64 x0, .int .i64 x1, .int .i64 x2, .slice xa4 n1 xc4, .slice xa5 n2 xc5, .string xg, .string xa, .int .i64 xr]) (u := .agg #[.string xn, .int .i64 x0, .int .i64 x1, .int .i64 x2, .slice xa4 n1 xc4, .slice xa5 n2 xc5, .string xg, .string xa, .int .i64 xr]) rfl rfl rfl ?_ ?_ rfl rfl rfl hch hrm ?_
      · go_simp
      · have c0 : wz.cell? ⟨wr.heap.size, 0, none⟩ = some (.string xn) := HXZ.out.cell 0
        have c1 : wz.cell? ⟨wr.heap.size, 1, none⟩ = some (.int .i64 x0) := HXZ.out.cell 1
        have c2 : wz.cell? ⟨wr.heap.size, 2, none⟩ = some (.int .i64 x1) := HXZ.out.cell 2
        have c3 : wz.cell? ⟨wr.heap.size, 3, none⟩ = some (.int .i64 x2) := HXZ.out.cell 3
        have c4 : wz.cell? ⟨wr.heap.size, 4, none⟩ = some (.slice xa4 n1 xc4) := HXZ.out.cell 4
        have c5 : wz.cell? ⟨wr.heap.size, 5, none⟩ = some (.slice xa5 n2 xc5) := HXZ.out.cell 5
        have c6 : wz.cell? ⟨wr.heap.size, 6, none⟩ = some (.string xg) := HXZ.out.cell 6
        have c7 : wz.cell? ⟨wr.heap.size, 7, none⟩ = some (.string xa) := HXZ.out.cell 7
        have c8 : wz.cell? ⟨wr.heap.size, 8, none⟩ = some (.int .i64 xr) := HXZ.out.cell 8
        go_simp
      have HS4 := Lib.hid (HS3.out.set (S' := wtM (mt.take (k + 1)) b.bs) (s + 1))
      have HPU : Hid (((wtM (mt.take k) b.bs).map tkV).toArray.push (.agg #[.string xn, .int .i64 x0, .int .i64 x1, .int .i64 x2, .slice xa4 n1 xc4, .slice xa5 n2 xc5, .string xg, .string xa, .int .i64 xr]) = ((wtM (mt.take (k + 1)) b.bs).map tkV).toArray) := by
        show _ = _
        rw [HY.out trivial, ← push_tk]
        exact congrArg _ HTK2.out.symm
      rw [HPU.out]
      clear hch hrm HS3 HXZ HPU
      generalize wz.setChan C mt.length ((wtM (mt.take (k + 1)) b.bs).map tkV).toArray false (s + 1) 0 false = wf at *
      refine wpList_nil ?_
      go_wp2
      refine Cm.of_wp ?_
      go_wp2
      exact hJ gg _ _ (Nat.lt_succ_self _) ⟨k + 1, _, _, _, _, _, _, _, _, _, _, _, _, _, _, by have := HKG.out; omega, by simp, rfl, HS4⟩
    · rw [hq] at HIS HN
      clear hq
      go_wp2_with fail
      refine HIS.out.mono ?_
      rintro e wz ⟨rfl, hb⟩
      have HS3 := Lib.hid (HS2.out.go hb)
      have HS4 : Hid (StW w [.slice an nn cn, .slice (some ⟨bt, off, none⟩) mt.length ct, .slice ab nb cb, .int .u64 (b.fe : Nat)] C mt.length (wtM (mt.take (k + 1)) b.bs) wz) := by
        have := HS3.out
        rw [← HN.out trivial] at this
        exact this
      clear hb c0 b0 b1 b2 b3 HS2 HXT HIS HS3
      go_wp2
      refine Cm.cond_false rfl ?_
      refine Cm.of_wp ?_
      go_wp2
      refine Cm.of_wp ?_
      go_wp2
      exact hJ gg _ _ (Nat.lt_succ_self _) ⟨k + 1, _, _, _, _, _, _, _, _, _, _, _, _, _, _, by have := HKG.out; omega, by simp, rfl, HS4⟩
theorem ext_tk (x : TdM) (R : List TdM) : ((x :: R).map tkV).toArray.extract 1 ((x :: R).map tkV).toArray.size = (R.map tkV).toArray := by
  apply Array.ext'
  simp
  exact List.take_of_length_le (by simp)
theorem grown_more {w wx wy : World} {C : Nat} {own : Option Nat} (h : w.grownBy wx (some C)) (hg : wx.grownBy wy own) (hn : ∀ g, own = some g → w.heap.size ≤ g ∨ g = C) : w.grownBy wy (some C) :=
  ⟨hg.os.trans h.os, hg.tape.trans h.tape, hg.output.trans h.output, Nat.le_trans h.size hg.size, fun k hk hne => (hg.block k (Nat.lt_of_lt_of_le hk h.size) (fun e => by rcases hn k e.symm with h1 | h1; omega; exact hne (by rw [h1]))).trans (h.block k hk hne)⟩
/-- What stays while tasks are taken from the channel C. -/
structure StK (w : World) (C n : Nat) (v : Value) (D R : List TdM) (wx : World) : Prop where
  gr : w.grownBy wx (some C)
  ch : ∃ s r, wx.heap[C]? = some (.chan n (R.map tkV).toArray false s r false)
  ow : Own wx w.heap.size 42 v D
theorem StK.go {w : World} {C n : Nat} {v : Value} {D R : List TdM} {wx wy : World} (h : StK w C n v D R wx) (hb : Below wx.heap.size wx wy) : StK w C n v D R wy := by
  obtain ⟨s, r, hc⟩ := h.ch
  exact ⟨grown_more (own := none) h.gr (grown_of_below hb) (fun g e => by cases e), ⟨s, r, Cm.chan_keep hc hb⟩, h.ow.keep hb⟩
theorem StK.set {w : World} {C n : Nat} {v : Value} {D R R' : List TdM} {wx : World} (h : StK w C n v D R wx) (s r : Nat) : StK w C n v D R' (wx.setChan C n (R'.map tkV).toArray false s r false) := by
  obtain ⟨s0, r0, hc⟩ := h.ch
  have hlt := (Array.getElem?_eq_some_iff.1 hc).1
  refine ⟨grown_more (own := some C) h.gr ⟨rfl, rfl, rfl, by simp [World.setChan], fun k hk hne => ?_⟩ (fun g e => .inr (Option.some.inj e).symm), ⟨s, r, Go.Conc.heap_setChan _ _ _ _ _ _ _ _ hlt⟩, Cm.own_set h.ow hc⟩
  simp only [World.setChan]
  exact Array.getElem?_setIfInBounds_ne (fun e => hne (by rw [e]))
set_option maxRecDepth 100000 in
set_option maxHeartbeats 4000000 in
theorem taken_any (C n s : Nat) (S : List TdM) (w : World) (hc : w.heap[C]? = some (.chan n (S.map tkV).toArray false s 0 false)) (hl : S.length ≤ 4096) :
    Calls Tryz.prog 35 #[.chan (some C)] w fun e w' => ∃ v, e = .returned v ∧ Own w' w.heap.size 42 v S ∧ w.grownBy w' (some C) := by
  have HS0 : Hid (StK w C n (.slice none 0 0) [] S w) := ⟨⟨rfl, rfl, rfl, Nat.le_refl _, fun k hk _ => rfl⟩, ⟨s, 0, hc⟩, Own.nil _ _ _⟩
  have HLN := Lib.hid hl
  clear hc hl
  refine Cm.calls Tryz.func35 rfl ?_
  simp only [Tryz.ntmps35, List.size_toArray, List.length_cons, List.length_nil, Nat.reduceAdd, Nat.reduceSub, Array.replicate_succ, Array.replicate_zero, List.push_toArray, List.append_toArray, List.nil_append, List.cons_append]
  refine Cm.seq_wp fun K hK => ?_
  go_wp2
  refine Cm.scope ?_
  refine Cm.seq_wp fun K hK => ?_
  go_wp2
  refine Cm.seq_k fun K hK => Cm.of_wp (wp_label ?_)
  refine hK _ _ ?_
  clear hK K
  refine Cm.seq_k fun K hK => ?_
  refine Cm.block ?_
  refine Cm.loop (fun gg act wx => ∃ (D R : List TdM) (v3 u4 u5 u6 u7 u8 u9 u10 u11 u12 u13 : Value), R.length = gg ∧ act = ⟨#[.chan (some C), undef, .slice none 0 0, v3, u4, u5, u6, u7, u8, u9, u10, u11, u12, u13, undef], []⟩ ∧ Hid (StK w C n v3 D R wx) ∧ Hid (S = D ++ R)) S.length ?_ ?_
  · exact ⟨[], S, .slice none 0 0, _, _, _, _, _, _, _, _, _, _, rfl, rfl, HS0, rfl⟩
  clear HS0
  intro gk a3 wr hI J hJ
  obtain ⟨D, R, v3, u4, u5, u6, u7, u8, u9, u10, u11, u12, u13, hRg, rfl, HS, HSR⟩ := hI
  refine Cm.block ?_
  refine Cm.seq_wp fun K2 hK2 => ?_
  go_wp2
  refine Cm.seq_k fun K3 hK3 => ?_
  obtain ⟨s1, r1, hch⟩ := HS.out.ch
  cases R with
  | nil =>
    refine Cm.select_empty rfl rfl rfl (zero_tk _) hch ?_
    have HSD : Hid (S = D) := by have := HSR.out; rwa [List.append_nil] at this
    clear hch HSR
    go_wp2
    refine Cm.block ?_
    refine Cm.of_wp ?_
    go_wp2
    refine Cm.of_wp ?_
    go_wp2
    rw [Exit.noGoto_ret]
    go_ret
    exact ⟨v3, rfl, by rw [HSD.out]; exact HS.out.ow, HS.out.gr⟩
  | cons x R =>
    refine Cm.select_recv (u := tkV x) (us := (R.map tkV).toArray) rfl rfl rfl (zero_tk _) hch rfl (ext_tk x R) ?_
    have HS4 := Lib.hid (StK.set (R' := R) HS.out s1 (r1 + 1))
    clear hch HS
    generalize wr.setChan C n (R.map tkV).toArray false s1 (r1 + 1) false = wy at *
    have HXE : Hid (tdE x = tdE x) := rfl
    have HSN : Hid (∀ (w5 : World) (v4 : Value), w5.ownsRow w.heap.size 42 9 v4 (D.length + 1) (flat D ++ tdE x) → Own w5 w.heap.size 42 v4 (D ++ [x])) := fun w5 v4 h => Own.snoc (x := x) h
    have HSR2 : Hid (S = (D ++ [x]) ++ R) := by show _ = _; rw [HSR.out]; simp
    have hln : D.length + 1 ≤ 4096 := by have h1 := HLN.out; rw [HSR.out, List.length_append, List.length_cons] at h1; omega
    have HN5 : Hid (∀ j u, (tdE x)[j]? = some u → ((wy.alloc (.cells (tdE x).toArray 42)).alloc (.cells (tdE x).toArray 42)).cell? ((⟨wy.heap.size + 1, 0, none⟩ : Addr).add j) = some u) := by
      have := enc_new (wy.alloc (.cells (tdE x).toArray 42)) x 42
      rw [World.size_alloc] at this
      exact this
    have H1 : Hid (∀ u ∈ tdE x, u.oneCell' = true) := tdE_one x
    clear HXE
    obtain ⟨⟨xn, x0, x1, x2, xw, xb, xg, xa, xr⟩, xa4, xc4, xa5, xc5⟩ := x
    have HX1 : Hid (tkV ⟨⟨xn, x0, x1, x2, xw, xb, xg, xa, xr⟩, xa4, xc4, xa5, xc5⟩ = .agg #[.string xn, .int .i64 x0, .int .i64 x1, .int .i64 x2, .slice xa4 xw.length xc4, .slice xa5 xb.length xc5, .string xg, .string xa, .int .i64 xr]) := rfl
    have HX2 : Hid (tdE ⟨⟨xn, x0, x1, x2, xw, xb, xg, xa, xr⟩, xa4, xc4, xa5, xc5⟩ = [.string xn, .int .i64 x0, .int .i64 x1, .int .i64 x2, .slice xa4 xw.length xc4, .slice xa5 xb.length xc5, .string xg, .string xa, .int .i64 xr]) := rfl
    rw [HX1.out]
    rw [HX2.out] at HSN HN5 H1
    have HSN2 : Hid (∀ (w5 : World) (v4 : Value), w5.ownsRow w.heap.size 42 9 v4 (D.length + 1) (flat D ++ [.string xn, .int .i64 x0, .int .i64 x1, .int .i64 x2, .slice xa4 xw.length xc4, .slice xa5 xb.length xc5, .string xg, .string xa, .int .i64 xr]) → Own w5 w.heap.size 42 v4 (D ++ [⟨⟨xn, x0, x1, x2, xw, xb, xg, xa, xr⟩, xa4, xc4, xa5, xc5⟩])) := HSN
    clear HX1 HX2 HSN
    generalize hn1 : xw.length = n1 at *
    generalize hn2 : xb.length = n2 at *
    have HN1 := Lib.hid hn1
    have HN2 := Lib.hid hn2
    clear hn1 hn2
    obtain ⟨i0, hi, hq0, hq1, hq2⟩ := info_parts info_tk
    have HSZ : Hid (w.heap.size ≤ ((wy.alloc (.cells #[.string xn, .int .i64 x0, .int .i64 x1, .int .i64 x2, .slice xa4 n1 xc4, .slice xa5 n2 xc5, .string xg, .string xa, .int .i64 xr] 42)).alloc (.cells #[.string xn, .int .i64 x0, .int .i64 x1, .int .i64 x2, .slice xa4 n1 xc4, .slice xa5 n2 xc5, .string xg, .string xa, .int .i64 xr] 42)).heap.size) := by show _ ≤ _; have := HS4.out.gr.size; simp; omega
    have hbx : Below wy.heap.size wy ((wy.alloc (.cells #[.string xn, .int .i64 x0, .int .i64 x1, .int .i64 x2, .slice xa4 n1 xc4, .slice xa5 n2 xc5, .string xg, .string xa, .int .i64 xr] 42)).alloc (.cells #[.string xn, .int .i64 x0, .int .i64 x1, .int .i64 x2, .slice xa4 n1 xc4, .slice xa5 n2 xc5, .string xg, .string xa, .int .i64 xr] 42)) := (al wy _).alloc (by simp) _
    have HS5 := Lib.hid (HS4.out.go hbx)
    have HOL := Lib.hid (HS5.out.ow.lt)
    have HMX : Hid (D.length + 1 ≤ maxLen) := by show _ ≤ _; unfold maxLen; omega
    have HBY : Hid ((D.length + 1) * 128 ≤ 140737488355328) := by show _ ≤ _; omega
    clear hbx HS4 hln
    go_wp2
    refine Cm.block ?_
    refine Cm.of_wp ?_
    go_wp2_with (at_builtin; (refine wpList_append_own_at _ rfl _ _ 23 rfl w.heap.size 42 i0 _ 9 128 Tryz.underlying23 hi hq0 hq1 hq2 rfl (by omega) _ _ _ rfl HS5.out.ow ⟨wy.heap.size + 1, 0, none⟩ 1 1 [.string xn, .int .i64 x0, .int .i64 x1, .int .i64 x2, .slice xa4 n1 xc4, .slice xa5 n2 xc5, .string xg, .string xa, .int .i64 xr] rfl rfl HN5.out H1.out HMX.out HBY.out HSZ.out ?_); intro v4 w5 hown hg5 hnil hob; have HO6 := Lib.hid (HSN2.out _ _ hown); have HG6 := Lib.hid (grown_more HS5.out.gr hg5 (fun g hg => .inl (HOL.out g hg).1)); have HC6 : Hid (∃ s r, w5.heap[C]? = some (.chan n (R.map tkV).toArray false s r false)) := (by obtain ⟨s2, r2, hc2⟩ := HS5.out.ch; exact ⟨s2, r2, Cm.chan_grown hc2 hg5 (Cm.not_chan HS5.out.ow hc2)⟩); clear hown hg5 hnil hob)
    go_wp2
    refine hJ R.length _ _ (by rw [← hRg]; exact Nat.lt_succ_self _) ⟨D ++ [⟨⟨xn, x0, x1, x2, xw, xb, xg, xa, xr⟩, xa4, xc4, xa5, xc5⟩], R, v4, _, _, _, _, _, _, _, _, _, _, rfl, rfl, ⟨HG6.out, HC6.out, HO6.out⟩, HSR2⟩
end Bo
end Go.Proofs.YthbmnkeigmbbdaaGreat

/-
  WHO WAITS: queue.Waiting.
-/
namespace Go.Proofs.YthbmnkeigmbbdaaGreat
open Go.RowKit Go.Lib
namespace Bo
open Rw
set_option linter.unusedVariables false
/-- What is told of who waits. -/
def WaitIs (b : Bk) (w : World) (e : Ending) (w' : World) : Prop := ∃ (v : Value) (m : List TdM), e = .returned (.tuple #[v, .int .i64 (chE (chkB b) : Nat)]) ∧ Own w' w.heap.size 42 v m ∧ m.map (·.td) = (if chkB b = true then wtV b else []) ∧ (∀ x ∈ m, OwnT w' w.heap.size x) ∧ Below w.heap.size w w'
set_option maxRecDepth 100000 in
set_option maxHeartbeats 4000000 in
theorem waitq_no (b : Bk) (vn vt vb : Value) (w : World) (hB : Books w w.heap.size vn vt vb b) (hc : chkB b = false) : Calls Tryz.prog 12 #[.agg #[vn, vt, vb, .int .u64 (b.fe : Nat)]] w (WaitIs b w) := by
  have HR : Hid (∀ w', Below w.heap.size w w' → WaitIs b w (.returned (.tuple #[.slice none 0 0, .int .i64 10])) w') := fun w' h => ⟨.slice none 0 0, [], by rw [hc]; rfl, Own.nil _ _ _, by rw [hc]; rfl, by simp, h⟩
  obtain ⟨W0, hW0⟩ : ∃ W0, W0 = w.alloc (.cells #[vn, vt, vb, .int .u64 (b.fe : Nat)] 27) := ⟨_, rfl⟩
  have hb0 : Below w.heap.size w W0 := by rw [hW0]; exact al w _
  have hx0 : Hd.Bxn W0 w.heap.size [vn, vt, vb, .int .u64 (b.fe : Nat)] := by rw [hW0]; exact Hd.Bxn.made w _ _
  have hz0 : W0.heap.size = w.heap.size + 1 := by rw [hW0]; simp
  have HOW : Hid (Calls Tryz.prog 34 #[.agg #[vn, vt, vb, .int .u64 (b.fe : Nat)]] W0 (GaveL bk0 10 W0)) := by
    have h := own_any b vn vt vb W0 (hB.on hb0)
    unfold ownB at h
    rw [hc] at h
    exact h
  obtain ⟨an, cn, hvn⟩ := hB.hn.slice
  obtain ⟨at', ct, hvt⟩ := hB.ht.slice
  obtain ⟨ab, cb, hvb⟩ := hB.hb.slice
  subst hvn hvt hvb
  have HW := Lib.hid hW0
  have HX0 : Hid (Hd.Bxn W0 w.heap.size [.slice an b.ns.length cn, .slice at' b.ts.length ct, .slice ab b.bs.length cb, .int .u64 (b.fe : Nat)]) := hx0
  have HB0 := Lib.hid hb0
  have HZ0 := Lib.hid hz0
  clear hW0 hb0 hx0 hz0
  go_enter Tryz.func12, Tryz.ntmps12
  go_upto_region 1 with fail
  rw [← HW.out]
  refine wp_region_list ?_
  refine wpList_load_mid rfl 27 (.tmp 1) rfl (w.heap.size) (0) rfl [.slice an b.ns.length cn, .slice at' b.ts.length ct, .slice ab b.bs.length cb, .int .u64 (b.fe : Nat)] _ (HX0.out.range 0) Tryz.underlying27 rfl rfl ?_
  refine wpList_plain rfl fun K hK => ?_
  go_wp2_with fail
  refine HOW.out.mono ?_
  rintro e w1 ⟨v1, v3, v5, m1, m3, rfl, he1, he3, how, hb⟩
  obtain ⟨a1, d1, rfl⟩ := how.hn.slice
  obtain ⟨a3, d3, rfl⟩ := how.ht.slice
  obtain ⟨a5, d5, rfl⟩ := how.hb.slice
  have HX1 : Hid (Hd.Bxn w1 w.heap.size [.slice an b.ns.length cn, .slice at' b.ts.length ct, .slice ab b.bs.length cb, .int .u64 (b.fe : Nat)]) := HX0.out.below hb
  have HB1 : Hid (Below w.heap.size w w1) := HB0.out.trans (hb.mono HB0.out.size)
  have HO1 : Hid (OwnL w1 (w.heap.size + 1) (.slice a1 m1.length d1) (.slice a3 m3.length d3) (.slice a5 bk0.bs.length d5) m1 m3 bk0.bs) := how.le (by rw [HZ0.out]; exact Nat.le_refl _)
  have HE1 := Lib.hid he1
  have HE3 := Lib.hid he3
  clear hb how he1 he3 HOW HW HX0 HB0
  refine hK _ _ ?_
  clear hK K
  refine wpList_plain rfl fun K hK => ?_
  go_simp
  refine hK _ _ ?_
  clear hK K
  refine wpList_plain rfl fun K hK => ?_
  go_simp
  refine hK _ _ ?_
  clear hK K
  refine wpList_plain rfl fun K hK => ?_
  go_simp
  refine hK _ _ ?_
  clear hK K
  have hthR := HX1.out.there 4 rfl
  refine wpList_store_mid rfl 27 (.tmp 1) (.tmp 9) rfl (w.heap.size) 0 #[.slice a1 m1.length d1, .slice a3 m3.length d3, .slice a5 bk0.bs.length d5, .int .u64 (bk0.fe : Nat)] rfl rfl hthR rfl (all_oneCell_toArray (List.all_eq_true.1 (show List.all ([.slice a1 m1.length d1, .slice a3 m3.length d3, .slice a5 bk0.bs.length d5, .int .u64 (bk0.fe : Nat)] : List Value) (fun v => v.oneCell') = true from rfl))) ?_
  rw [show (#[.slice a1 m1.length d1, .slice a3 m3.length d3, .slice a5 bk0.bs.length d5, .int .u64 (bk0.fe : Nat)] : Array Value).toList = [.slice a1 m1.length d1, .slice a3 m3.length d3, .slice a5 bk0.bs.length d5, .int .u64 (bk0.fe : Nat)] from rfl]
  have HX2 : Hid (Hd.Bxn (w1.setCells w.heap.size 0 [.slice a1 m1.length d1, .slice a3 m3.length d3, .slice a5 bk0.bs.length d5, .int .u64 (bk0.fe : Nat)]) w.heap.size [.slice a1 m1.length d1, .slice a3 m3.length d3, .slice a5 bk0.bs.length d5, .int .u64 (bk0.fe : Nat)]) := HX1.out.all [.slice a1 m1.length d1, .slice a3 m3.length d3, .slice a5 bk0.bs.length d5, .int .u64 (bk0.fe : Nat)] rfl
  have HB2 : Hid (Below w.heap.size w (w1.setCells w.heap.size 0 [.slice a1 m1.length d1, .slice a3 m3.length d3, .slice a5 bk0.bs.length d5, .int .u64 (bk0.fe : Nat)])) := below_setCells HB1.out (Nat.le_refl _) _ _
  have HO2 : Hid (OwnL (w1.setCells w.heap.size 0 [.slice a1 m1.length d1, .slice a3 m3.length d3, .slice a5 bk0.bs.length d5, .int .u64 (bk0.fe : Nat)]) (w.heap.size + 1) (.slice a1 m1.length d1) (.slice a3 m3.length d3) (.slice a5 bk0.bs.length d5) m1 m3 bk0.bs) := ownl_set HO1.out (by omega)
  clear hthR HX1 HB1 HO1 HZ0
  generalize w1.setCells w.heap.size 0 [.slice a1 m1.length d1, .slice a3 m3.length d3, .slice a5 bk0.bs.length d5, .int .u64 (bk0.fe : Nat)] = z1 at *
  refine wpList_plain rfl fun K hK => ?_
  go_simp
  refine hK _ _ ?_
  clear hK K
  refine wpList_nil ?_
  clear hB hc
  go_wp2
  go_ret2
  exact HR.out _ HB2.out
set_option maxRecDepth 100000 in
set_option maxHeartbeats 4000000 in
theorem waitq_ok (b : Bk) (vn vt vb : Value) (w : World) (hB : Books w w.heap.size vn vt vb b) (hc : chkB b = true) : Calls Tryz.prog 12 #[.agg #[vn, vt, vb, .int .u64 (b.fe : Nat)]] w (WaitIs b w) := by
  have HR : Hid (∀ (v : Value) (m : List TdM) (w' : World), Own w' w.heap.size 42 v m → m.map (·.td) = wtV b → (∀ x ∈ m, OwnT w' w.heap.size x) → Below w.heap.size w w' → WaitIs b w (.returned (.tuple #[v, .int .i64 0])) w') := fun v m w' h1 h2 h3 h4 => ⟨v, m, by rw [hc]; rfl, h1, by rw [hc, if_pos rfl]; exact h2, h3, h4⟩
  have HFI := Lib.hid (hB.fine hc)
  have HRB := Lib.hid (rb_of_chk hc)
  obtain ⟨W0, hW0⟩ : ∃ W0, W0 = w.alloc (.cells #[vn, vt, vb, .int .u64 (b.fe : Nat)] 27) := ⟨_, rfl⟩
  have hb0 : Below w.heap.size w W0 := by rw [hW0]; exact al w _
  have hx0 : Hd.Bxn W0 w.heap.size [vn, vt, vb, .int .u64 (b.fe : Nat)] := by rw [hW0]; exact Hd.Bxn.made w _ _
  have hz0 : W0.heap.size = w.heap.size + 1 := by rw [hW0]; simp
  have HOW : Hid (Calls Tryz.prog 34 #[.agg #[vn, vt, vb, .int .u64 (b.fe : Nat)]] W0 (GaveL b 0 W0)) := by
    have h := own_any b vn vt vb W0 (hB.on hb0)
    unfold ownB at h
    rw [hc] at h
    exact h
  obtain ⟨an, cn, hvn⟩ := hB.hn.slice
  obtain ⟨at', ct, hvt⟩ := hB.ht.slice
  obtain ⟨ab, cb, hvb⟩ := hB.hb.slice
  subst hvn hvt hvb
  have HW := Lib.hid hW0
  have HX0 : Hid (Hd.Bxn W0 w.heap.size [.slice an b.ns.length cn, .slice at' b.ts.length ct, .slice ab b.bs.length cb, .int .u64 (b.fe : Nat)]) := hx0
  have HB0 := Lib.hid hb0
  have HZ0 := Lib.hid hz0
  clear hW0 hb0 hx0 hz0
  go_enter Tryz.func12, Tryz.ntmps12
  go_upto_region 1 with fail
  rw [← HW.out]
  refine wp_region_list ?_
  refine wpList_load_mid rfl 27 (.tmp 1) rfl (w.heap.size) (0) rfl [.slice an b.ns.length cn, .slice at' b.ts.length ct, .slice ab b.bs.length cb, .int .u64 (b.fe : Nat)] _ (HX0.out.range 0) Tryz.underlying27 rfl rfl ?_
  refine wpList_plain rfl fun K hK => ?_
  go_wp2_with fail
  refine HOW.out.mono ?_
  rintro e w1 ⟨v1, v3, v5, m1, m3, rfl, he1, he3, how, hb⟩
  obtain ⟨a1, d1, rfl⟩ := how.hn.slice
  obtain ⟨a3, d3, rfl⟩ := how.ht.slice
  obtain ⟨a5, d5, rfl⟩ := how.hb.slice
  have HX1 : Hid (Hd.Bxn w1 w.heap.size [.slice an b.ns.length cn, .slice at' b.ts.length ct, .slice ab b.bs.length cb, .int .u64 (b.fe : Nat)]) := HX0.out.below hb
  have HB1 : Hid (Below w.heap.size w w1) := HB0.out.trans (hb.mono HB0.out.size)
  have HO1 : Hid (OwnL w1 (w.heap.size + 1) (.slice a1 m1.length d1) (.slice a3 m3.length d3) (.slice a5 b.bs.length d5) m1 m3 b.bs) := how.le (by rw [HZ0.out]; exact Nat.le_refl _)
  have HE1 := Lib.hid he1
  have HE3 := Lib.hid he3
  clear hb how he1 he3 HOW HW HX0 HB0
  refine hK _ _ ?_
  clear hK K
  refine wpList_plain rfl fun K hK => ?_
  go_simp
  refine hK _ _ ?_
  clear hK K
  refine wpList_plain rfl fun K hK => ?_
  go_simp
  refine hK _ _ ?_
  clear hK K
  refine wpList_plain rfl fun K hK => ?_
  go_simp
  refine hK _ _ ?_
  clear hK K
  have hthR := HX1.out.there 4 rfl
  refine wpList_store_mid rfl 27 (.tmp 1) (.tmp 9) rfl (w.heap.size) 0 #[.slice a1 m1.length d1, .slice a3 m3.length d3, .slice a5 b.bs.length d5, .int .u64 (b.fe : Nat)] rfl rfl hthR rfl (all_oneCell_toArray (List.all_eq_true.1 (show List.all ([.slice a1 m1.length d1, .slice a3 m3.length d3, .slice a5 b.bs.length d5, .int .u64 (b.fe : Nat)] : List Value) (fun v => v.oneCell') = true from rfl))) ?_
  rw [show (#[.slice a1 m1.length d1, .slice a3 m3.length d3, .slice a5 b.bs.length d5, .int .u64 (b.fe : Nat)] : Array Value).toList = [.slice a1 m1.length d1, .slice a3 m3.length d3, .slice a5 b.bs.length d5, .int .u64 (b.fe : Nat)] from rfl]
  have HX2 : Hid (Hd.Bxn (w1.setCells w.heap.size 0 [.slice a1 m1.length d1, .slice a3 m3.length d3, .slice a5 b.bs.length d5, .int .u64 (b.fe : Nat)]) w.heap.size [.slice a1 m1.length d1, .slice a3 m3.length d3, .slice a5 b.bs.length d5, .int .u64 (b.fe : Nat)]) := HX1.out.all [.slice a1 m1.length d1, .slice a3 m3.length d3, .slice a5 b.bs.length d5, .int .u64 (b.fe : Nat)] rfl
  have HB2 : Hid (Below w.heap.size w (w1.setCells w.heap.size 0 [.slice a1 m1.length d1, .slice a3 m3.length d3, .slice a5 b.bs.length d5, .int .u64 (b.fe : Nat)])) := below_setCells HB1.out (Nat.le_refl _) _ _
  have HO2 : Hid (OwnL (w1.setCells w.heap.size 0 [.slice a1 m1.length d1, .slice a3 m3.length d3, .slice a5 b.bs.length d5, .int .u64 (b.fe : Nat)]) (w.heap.size + 1) (.slice a1 m1.length d1) (.slice a3 m3.length d3) (.slice a5 b.bs.length d5) m1 m3 b.bs) := ownl_set HO1.out (by omega)
  clear hthR HX1 HB1 HO1 HZ0
  generalize w1.setCells w.heap.size 0 [.slice a1 m1.length d1, .slice a3 m3.length d3, .slice a5 b.bs.length d5, .int .u64 (b.fe : Nat)] = z1 at *
  refine wpList_plain rfl fun K hK => ?_
  go_simp
  refine hK _ _ ?_
  clear hK K
  refine wpList_nil ?_
  have HBK : Hid (Books z1 z1.heap.size (.slice a1 m1.length d1) (.slice a3 m3.length d3) (.slice a5 b.bs.length d5) b) := HO2.out.books HE1.out HE3.out HFI.out
  have HL3 : Hid (m3.length ≤ 4096) := by have h1 := HFI.out.lt; rw [HE3.out, List.length_map] at h1; exact h1
  have HWA : Hid (Calls Tryz.prog 36 #[.agg #[.slice a1 m1.length d1, .slice a3 m3.length d3, .slice a5 b.bs.length d5, .int .u64 (b.fe : Nat)]] z1 fun e w' => ∃ C s, e = .returned (.chan (some C)) ∧ z1.heap.size ≤ C ∧ w'.heap[C]? = some (.chan m3.length ((wtM m3 b.bs).map tkV).toArray false s 0 false) ∧ Below z1.heap.size z1 w') :=
    waiting_any b _ _ _ m3 z1 HBK.out (HO2.out.ht.sl (by have := HL3.out; omega)) HL3.out
  have HLW : Hid ((wtM m3 b.bs).length ≤ 4096) := Nat.le_trans (wtM_len _ _) HL3.out
  have HTD : Hid ((wtM m3 b.bs).map (·.td) = wtL b.ts b.bs) := by show _ = _; rw [wtM_td, HE3.out]
  have HMM : Hid (∀ x ∈ wtM m3 b.bs, x ∈ m3) := fun x hx => (List.mem_filter.1 hx).1
  clear hB hc HE1 HE3 HBK
  generalize wtM m3 b.bs = S at *
  go_upto_region 4 with fail
  refine wp_region_list ?_
  refine wpList_load_mid rfl 27 (.tmp 1) rfl (w.heap.size) (0) rfl [.slice a1 m1.length d1, .slice a3 m3.length d3, .slice a5 b.bs.length d5, .int .u64 (b.fe : Nat)] _ (HX2.out.range 0) Tryz.underlying27 rfl rfl ?_
  refine wpList_plain rfl fun K hK => ?_
  go_wp2_with fail
  refine HWA.out.mono ?_
  rintro e w2 ⟨C, s, rfl, hC, hch, hb⟩
  have HTA := Lib.hid (taken_any C m3.length s S w2 hch HLW.out)
  have HU2 : Hid (Below z1.heap.size z1 w2) := hb
  have HCC := Lib.hid hC
  clear hb hC hch HWA HX2
  refine hK _ _ ?_
  clear hK K
  refine wpList_plain rfl fun K hK => ?_
  go_wp2_with fail
  refine HTA.out.mono ?_
  rintro e w3 ⟨v, rfl, hown, hgr⟩
  have HU3 : Hid (Below z1.heap.size z1 w3) := HU2.out.grown hgr HU2.out.size (fun g hg => by cases hg; exact HCC.out)
  have HOS := Lib.hid hown
  obtain ⟨av, cv, rfl⟩ := hown.slice
  clear hown hgr HTA
  refine hK _ _ ?_
  clear hK K
  refine wpList_plain rfl fun K hK => ?_
  go_simp
  refine hK _ _ ?_
  clear hK K
  refine wpList_nil ?_
  have HSO := Lib.hid (sort_own (.slice av S.length cv) S w2.heap.size w3 HOS.out (by rw [HTD.out]; exact wtL_nodup HRB.out) HLW.out)
  generalize S.length = ns at *
  go_wp2_with fail
  refine HSO.out.mono ?_
  rintro e w4 ⟨rfl, m', ho, hm, hp, hg⟩
  have HU4 : Hid (Below z1.heap.size z1 w4) := HU3.out.grown hg HU3.out.size (fun g hg => Nat.le_trans HU2.out.size (HOS.out.lt g hg).1)
  have HO4 : Hid (Own w4 w.heap.size 42 (.slice av ns cv) m') := ho.le (Nat.le_trans HB2.out.size HU2.out.size)
  have HM4 : Hid (m'.map (·.td) = wtV b) := by rw [HTD.out] at hm; exact hm
  have HD4 : Hid (∀ x ∈ m', OwnT w4 w.heap.size x) := fun x hx => ((HO2.out.dt x (HMM.out x (hp.mem_iff.1 hx))).keep HU4.out).le (by omega)
  have HB4 : Hid (Below w.heap.size w w4) := HB2.out.trans (HU4.out.mono HB2.out.size)
  clear ho hm hp hg HSO
  go_wp2
  go_ret2
  exact HR.out _ m' _ HO4.out HM4.out HD4.out HB4.out
theorem waitq_any (b : Bk) (vn vt vb : Value) (w : World) (hB : Books w w.heap.size vn vt vb b) : Calls Tryz.prog 12 #[.agg #[vn, vt, vb, .int .u64 (b.fe : Nat)]] w (WaitIs b w) := by
  cases hc : chkB b
  · exact waitq_no b vn vt vb w hB hc
  · exact waitq_ok b vn vt vb w hB hc
end Bo
end Go.Proofs.YthbmnkeigmbbdaaGreat
