/-
  Merged: QrP, QrA, QrF, QrL, QrW, QAsks.
-/
import Derived.Test.YthbmnkeigmbbdaaGreatBqW
import Derived.Test.YthbmnkeigmbbdaaGreatQqA
import Derived.Test.YthbmnkeigmbbdaaGreatQeF
import Derived.Deep.LoopGhost
import Derived.Test.YthbmnkeigmbbdaaGreatBgP
import Derived.Deep.RegionWith
import Derived.Deep.RegionHeld3
import Derived.Test.YthbmnkeigmbbdaaGreatBdSlc
import Derived.Test.YthbmnkeigmbbdaaGreatQeLives
import Derived.Test.YthbmnkeigmbbdaaGreatBookSame
import Derived.Test.YthbmnkeigmbbdaaGreatBgA
/- THE DOCUMENT's QUEUE, as plain data. -/
namespace Go.Proofs.YthbmnkeigmbbdaaGreat
open Go.RowKit Go.Lib
namespace Bo
open Rw
set_option linter.unusedVariables false
/-- The node of one that is bound has a name. -/
theorem on_neN {b : Bk} (h : RB b) {k : ByteArray} (hk : hasK (b.bs.map (·.k)) k = true) : ¬ onF b.bs k = ⟨#[]⟩ := by
  have hlt := (fi_has _ _).1 hk
  rw [List.length_map] at hlt
  unfold onF
  rw [List.getElem?_eq_getElem hlt]
  have h1 := (h.on _ (List.getElem_mem hlt)).2.1
  generalize b.bs[fiK (b.bs.map (·.k)) k] = o at *
  intro e
  have e : o.v = ⟨#[]⟩ := e
  obtain ⟨n, hn, hne⟩ := has_mem (f := fun n : Hd.Nd => n.n) h1
  have h2 : Rg.nodeE n.n n.z0 n.z1 n.z2 n.ls n.ts = 0 := of_decide_eq_true (h.kn n hn)
  have hne : n.n = o.v := hne
  rw [hne, e] at h2
  unfold Rg.nodeE at h2
  have h3 : Rg.nameB ⟨#[]⟩ = false := by decide
  rw [h3, if_neg (by decide)] at h2
  cases h2
theorem on_nil {b : Bk} {k : ByteArray} (hk : hasK (b.bs.map (·.k)) k = false) : onF b.bs k = ⟨#[]⟩ := by
  refine on_no ?_
  rcases Nat.lt_or_ge (fiK (b.bs.map (·.k)) k) (b.bs.map (·.k)).length with h | h
  · rw [(fi_has _ _).2 h] at hk; cases hk
  · rwa [List.length_map] at h
theorem ba_neQ {s : ByteArray} (h : ¬ s = ⟨#[]⟩) : ¬ s.toList = [] ∧ s.toList.isEmpty = false := by
  have h1 : ¬ s.toList = [] := fun e => h (Hd.ba_ext (e.trans (by rw [ByteArray.toList_eq])))
  refine ⟨h1, ?_⟩
  cases hs : s.toList with
  | nil => exact absurd hs h1
  | cons _ _ => rfl
/-- Where a task goes among those that wait. -/
def posT (x : Hd.Td) : List Hd.Td → Nat
  | [] => 0
  | y :: r => if ahB y x = true then posT x r + 1 else 0
theorem pos_le (x : Hd.Td) : ∀ l : List Hd.Td, posT x l ≤ l.length
  | [] => Nat.le_refl _
  | y :: r => by
    have := pos_le x r
    unfold posT
    split
    · simp only [List.length_cons]; omega
    · exact Nat.zero_le _
theorem insT_pos (x : Hd.Td) : ∀ l : List Hd.Td, insT x l = l.take (posT x l) ++ x :: l.drop (posT x l)
  | [] => rfl
  | y :: r => by
    unfold insT posT
    split
    · rw [insT_pos x r, List.take_succ_cons, List.drop_succ_cons]; rfl
    · rfl
theorem pos_ah (x : Hd.Td) : ∀ (l : List Hd.Td) (i : Nat) (h : i < l.length), i < posT x l → ahB l[i] x = true
  | y :: r, 0, h, hi => by
    unfold posT at hi
    split at hi
    · assumption
    · omega
  | y :: r, i + 1, h, hi => by
    unfold posT at hi
    split at hi
    · exact pos_ah x r i (by simpa using h) (by omega)
    · omega
theorem pos_no (x : Hd.Td) : ∀ (l : List Hd.Td) (h : posT x l < l.length), ahB l[posT x l] x = false
  | [], h => absurd h (Nat.not_lt_zero _)
  | y :: r, h => by
    by_cases hy : ahB y x = true
    · have e : posT x (y :: r) = posT x r + 1 := by rw [posT, if_pos hy]
      simp only [e, List.getElem_cons_succ]
      exact pos_no x r (by rw [e] at h; simpa using h)
    · have e : posT x (y :: r) = 0 := by rw [posT, if_neg hy]
      simp only [e, List.getElem_cons_zero]
      exact Bool.eq_false_iff.2 hy
/-- A step further, and the end. -/
theorem pos_step {x : Hd.Td} {l : List Hd.Td} {j : Nat} (h : j < l.length) (hj : j ≤ posT x l) (ha : ahB l[j] x = true) : j + 1 ≤ posT x l := by
  rcases Nat.lt_or_ge j (posT x l) with h1 | h1
  · exact h1
  · obtain rfl : j = posT x l := by omega
    rw [pos_no x l h] at ha
    cases ha
theorem pos_stop {x : Hd.Td} {l : List Hd.Td} {j : Nat} (h : j < l.length) (hj : j ≤ posT x l) (ha : ahB l[j] x = false) : j = posT x l := by
  rcases Nat.lt_or_ge j (posT x l) with h1 | h1
  · rw [pos_ah x l j h h1] at ha
    cases ha
  · omega
theorem srt_snoc (l : List Hd.Td) (t : Hd.Td) : srtT (l ++ [t]) = insT t (srtT l) := by
  unfold srtT
  rw [List.foldl_append]
  rfl
theorem wt_yes {ts : List Hd.Td} {bs : List Rg.Pr} {k : Nat} (h : k < ts.length) (hw : hasK (bs.map (·.k)) ts[k].n = false) : srtT (wtL (ts.take (k + 1)) bs) = insT ts[k] (srtT (wtL (ts.take k) bs)) := by
  unfold wtL
  rw [List.take_succ_eq_append_getElem h, List.filter_append, List.filter_cons_of_pos (by rw [hw]; rfl), List.filter_nil, srt_snoc]
theorem wt_no {ts : List Hd.Td} {bs : List Rg.Pr} {k : Nat} (h : k < ts.length) (hw : hasK (bs.map (·.k)) ts[k].n = true) : srtT (wtL (ts.take (k + 1)) bs) = srtT (wtL (ts.take k) bs) := by
  unfold wtL
  rw [List.take_succ_eq_append_getElem h, List.filter_append, List.filter_cons_of_neg (by rw [hw]; decide), List.filter_nil, List.append_nil]
theorem srt_len (l : List Hd.Td) : (srtT l).length = l.length := by
  have : ∀ (l o : List Hd.Td), (l.foldl (fun o t => insT t o) o).length = o.length + l.length := by
    intro l
    induction l with
    | nil => intro o; rfl
    | cons t r ih => intro o; rw [List.foldl_cons, ih, (insT_perm t o).length_eq]; simp; omega
  have h := this l []
  simpa [srtT] using h
end Bo
end Go.Proofs.YthbmnkeigmbbdaaGreat

/- WHO WAITS AHEAD, by the document: gafferref11.Ahead. -/
namespace Go.Proofs.YthbmnkeigmbbdaaGreat
open Go.RowKit Go.Lib
namespace Bo
open Rw
set_option linter.unusedVariables false
set_option maxRecDepth 100000 in
set_option maxHeartbeats 4000000 in
theorem ahead_ref (x y : TdM) (w : World) : Calls Tryz.prog 41 #[.agg #[.string x.td.n, .int .i64 x.td.z0, .int .i64 x.td.z1, .int .i64 x.td.z2, .slice x.a4 x.td.ws.length x.c4, .slice x.a5 x.td.bs.length x.c5, .string x.td.g, .string x.td.a, .int .i64 x.td.r], .agg #[.string y.td.n, .int .i64 y.td.z0, .int .i64 y.td.z1, .int .i64 y.td.z2, .slice y.a4 y.td.ws.length y.c4, .slice y.a5 y.td.bs.length y.c5, .string y.td.g, .string y.td.a, .int .i64 y.td.r]] w fun e w' => e = .returned (.bool (ahB x.td y.td)) ∧ Below w.heap.size w w' := by
  obtain ⟨W0, hW0⟩ : ∃ W0, W0 = (w.alloc (.cells #[.string x.td.n, .int .i64 x.td.z0, .int .i64 x.td.z1, .int .i64 x.td.z2, .slice x.a4 x.td.ws.length x.c4, .slice x.a5 x.td.bs.length x.c5, .string x.td.g, .string x.td.a, .int .i64 x.td.r] 42)).alloc (.cells #[.string y.td.n, .int .i64 y.td.z0, .int .i64 y.td.z1, .int .i64 y.td.z2, .slice y.a4 y.td.ws.length y.c4, .slice y.a5 y.td.bs.length y.c5, .string y.td.g, .string y.td.a, .int .i64 y.td.r] 42) := ⟨_, rfl⟩
  have hf0 : Fr2 w W0 [.string x.td.n, .int .i64 x.td.z0, .int .i64 x.td.z1, .int .i64 x.td.z2, .slice x.a4 x.td.ws.length x.c4, .slice x.a5 x.td.bs.length x.c5, .string x.td.g, .string x.td.a, .int .i64 x.td.r] [.string y.td.n, .int .i64 y.td.z0, .int .i64 y.td.z1, .int .i64 y.td.z2, .slice y.a4 y.td.ws.length y.c4, .slice y.a5 y.td.bs.length y.c5, .string y.td.g, .string y.td.a, .int .i64 y.td.r] := by rw [hW0]; exact Fr2.made w _ _ _ _
  have HB := Lib.hid hf0.b
  have n0 : W0.cell? ⟨w.heap.size, 0, none⟩ = some (.string x.td.n) := hf0.p.cell 0
  have n1 : W0.cell? ⟨w.heap.size + 1, 0, none⟩ = some (.string y.td.n) := hf0.r.cell 0
  have r0 : W0.cell? ⟨w.heap.size, 8, none⟩ = some (.int .i64 x.td.r) := hf0.p.cell 8
  have r1 : W0.cell? ⟨w.heap.size + 1, 8, none⟩ = some (.int .i64 y.td.r) := hf0.r.cell 8
  have HW := Lib.hid hW0
  have HA : Hid (ahB x.td y.td = (decide (y.td.r < x.td.r) || (decide (x.td.r = y.td.r) && Op.bytesLess x.td.n.toList y.td.n.toList))) := rfl
  clear hW0 hf0
  rw [HA.out]
  clear HA
  generalize x.td.n = xn at *
  generalize y.td.n = yn at *
  generalize x.td.r = xr at *
  generalize y.td.r = yr at *
  by_cases h1 : yr < xr
  · have h1b : decide (yr < xr) = true := decide_eq_true h1
    rw [h1b]
    go_enter Tryz.func41, Tryz.ntmps41
    go_upto_region 1 with fail
    rw [← HW.out]
    go_wp2
    go_ret
    exact ⟨by simp, HB.out⟩
  · have h1b : decide (yr < xr) = false := decide_eq_false h1
    rw [h1b]
    by_cases h2 : xr = yr
    · subst h2
      have h2b : (xr == xr) = true := by simp
      cases h3 : Op.bytesLess xn.toList yn.toList
      all_goals
        go_enter Tryz.func41, Tryz.ntmps41
        go_upto_region 1 with fail
        rw [← HW.out]
        go_wp2
        go_ret
        exact ⟨by simp, HB.out⟩
    · have h2b : (xr == yr) = false := by simpa using h2
      have h2c : decide (xr = yr) = false := decide_eq_false h2
      rw [h2c]
      go_enter Tryz.func41, Tryz.ntmps41
      go_upto_region 1 with fail
      rw [← HW.out]
      go_wp2
      go_ret
      exact ⟨by simp, HB.out⟩
end Bo
end Go.Proofs.YthbmnkeigmbbdaaGreat

/- WHERE A TASK CAN BE, by the document: gafferref11.Free. -/
namespace Go.Proofs.YthbmnkeigmbbdaaGreat
open Go.RowKit Go.Lib
namespace Bo
open Rw
set_option linter.unusedVariables false
set_option maxRecDepth 100000 in
set_option maxHeartbeats 4000000 in
theorem frf_no (b : Bk) (vn vt vb : Value) (k : ByteArray) (w : World) (hB : Books w w.heap.size vn vt vb b) (hc : chkB b = false) : Calls Tryz.prog 17 #[.agg #[vn, vt, vb, .int .u64 (b.fe : Nat)], .string k] w (FreeIs b k w) := by
  have hf : frE b k = 10 ∧ frV b k = [] := by
    have h : frE b k = 10 := by unfold frE; rw [hc, if_neg (by decide)]
    exact ⟨h, by unfold frV; rw [h]; rfl⟩
  have HR : Hid (∀ w', Below w.heap.size w w' → FreeIs b k w (.returned (.tuple #[.slice none 0 0, .int .i64 10])) w') := fun w' h => ⟨.slice none 0 0, by rw [hf.1]; rfl, by rw [hf.2]; exact Own.nil _ _ _, h⟩
  obtain ⟨W0, hW0⟩ : ∃ W0, W0 = w.alloc (.cells #[vn, vt, vb, .int .u64 (b.fe : Nat)] 27) := ⟨_, rfl⟩
  have hb0 : Below w.heap.size w W0 := by rw [hW0]; exact al w _
  have hx0 : Hd.Bxn W0 w.heap.size [vn, vt, vb, .int .u64 (b.fe : Nat)] := by rw [hW0]; exact Hd.Bxn.made w _ _
  have HCK : Hid (∀ z, Below w.heap.size w z → Calls Tryz.prog 39 #[.agg #[vn, vt, vb, .int .u64 (b.fe : Nat)]] z fun e w' => e = .returned (.int .i64 10) ∧ Below z.heap.size z w') := fun z hz => by
    have h := check_ref8 b vn vt vb z (hB.on hz)
    rw [hc] at h
    exact h
  obtain ⟨an, cn, hvn⟩ := hB.hn.slice
  obtain ⟨at', ct, hvt⟩ := hB.ht.slice
  obtain ⟨ab, cb, hvb⟩ := hB.hb.slice
  subst hvn hvt hvb
  have HW := Lib.hid hW0
  have HX0 : Hid (Hd.Bxn W0 w.heap.size [.slice an b.ns.length cn, .slice at' b.ts.length ct, .slice ab b.bs.length cb, .int .u64 (b.fe : Nat)]) := hx0
  have HB0 := Lib.hid hb0
  clear hW0 hb0 hx0
  clear hf hc
  go_enter Tryz.func17, Tryz.ntmps17
  go_upto_region 1 with fail
  rw [← HW.out]
  have b0 : W0.cell? ⟨w.heap.size, 0, none⟩ = some (.slice an b.ns.length cn) := HX0.out.cell 0
  have b1 : W0.cell? ⟨w.heap.size, 1, none⟩ = some (.slice at' b.ts.length ct) := HX0.out.cell 1
  have b2 : W0.cell? ⟨w.heap.size, 2, none⟩ = some (.slice ab b.bs.length cb) := HX0.out.cell 2
  have b3 : W0.cell? ⟨w.heap.size, 3, none⟩ = some (.int .u64 (b.fe : Nat)) := HX0.out.cell 3
  go_wp2_with fail
  refine (HCK.out W0 HB0.out).mono ?_
  rintro e w1 ⟨rfl, hb⟩
  have H1 : Hid (Below w.heap.size w w1) := HB0.out.trans (hb.mono HB0.out.size)
  have HX1 := Lib.hid (HX0.out.below hb)
  clear hb b0 b1 b2 b3 HX0 HCK HW HB0
  clear hB
  go_wp2
  go_ret2
  exact HR.out _ H1.out
set_option maxRecDepth 100000 in
set_option maxHeartbeats 4000000 in
theorem frf_none (b : Bk) (vn vt vb : Value) (k : ByteArray) (w : World) (hB : Books w w.heap.size vn vt vb b) (hc : chkB b = true) (hh : hasK (b.ts.map (·.n)) k = false) : Calls Tryz.prog 17 #[.agg #[vn, vt, vb, .int .u64 (b.fe : Nat)], .string k] w (FreeIs b k w) := by
  have hf : frE b k = 6 ∧ frV b k = [] := by
    have h : frE b k = 6 := by unfold frE; rw [hc, if_pos rfl, hh, if_neg (by decide)]
    exact ⟨h, by unfold frV; rw [h]; rfl⟩
  have HR : Hid (∀ w', Below w.heap.size w w' → FreeIs b k w (.returned (.tuple #[.slice none 0 0, .int .i64 6])) w') := fun w' h => ⟨.slice none 0 0, by rw [hf.1]; rfl, by rw [hf.2]; exact Own.nil _ _ _, h⟩
  obtain ⟨W0, hW0⟩ : ∃ W0, W0 = w.alloc (.cells #[vn, vt, vb, .int .u64 (b.fe : Nat)] 27) := ⟨_, rfl⟩
  have hb0 : Below w.heap.size w W0 := by rw [hW0]; exact al w _
  have hx0 : Hd.Bxn W0 w.heap.size [vn, vt, vb, .int .u64 (b.fe : Nat)] := by rw [hW0]; exact Hd.Bxn.made w _ _
  have HCK : Hid (∀ z, Below w.heap.size w z → Calls Tryz.prog 39 #[.agg #[vn, vt, vb, .int .u64 (b.fe : Nat)]] z fun e w' => e = .returned (.int .i64 0) ∧ Below z.heap.size z w') := fun z hz => by
    have h := check_ref8 b vn vt vb z (hB.on hz)
    rw [hc] at h
    exact h
  have HTX : Hid (∀ z, Below w.heap.size w z → Calls Tryz.prog 48 #[.agg #[vn, vt, vb, .int .u64 (b.fe : Nat)], .string k] z fun e w' => e = .returned (.int .i64 (-1)) ∧ Below z.heap.size z w') := fun z hz => by
    have h := Task_ix b vn vt vb k z (hB.on hz)
    unfold ixK at h
    rw [hh, if_neg (by decide)] at h
    exact h
  obtain ⟨an, cn, hvn⟩ := hB.hn.slice
  obtain ⟨at', ct, hvt⟩ := hB.ht.slice
  obtain ⟨ab, cb, hvb⟩ := hB.hb.slice
  subst hvn hvt hvb
  have HW := Lib.hid hW0
  have HX0 : Hid (Hd.Bxn W0 w.heap.size [.slice an b.ns.length cn, .slice at' b.ts.length ct, .slice ab b.bs.length cb, .int .u64 (b.fe : Nat)]) := hx0
  have HB0 := Lib.hid hb0
  clear hW0 hb0 hx0
  clear hf hc hh
  go_enter Tryz.func17, Tryz.ntmps17
  go_upto_region 1 with fail
  rw [← HW.out]
  have b0 : W0.cell? ⟨w.heap.size, 0, none⟩ = some (.slice an b.ns.length cn) := HX0.out.cell 0
  have b1 : W0.cell? ⟨w.heap.size, 1, none⟩ = some (.slice at' b.ts.length ct) := HX0.out.cell 1
  have b2 : W0.cell? ⟨w.heap.size, 2, none⟩ = some (.slice ab b.bs.length cb) := HX0.out.cell 2
  have b3 : W0.cell? ⟨w.heap.size, 3, none⟩ = some (.int .u64 (b.fe : Nat)) := HX0.out.cell 3
  go_wp2_with fail
  refine (HCK.out W0 HB0.out).mono ?_
  rintro e w1 ⟨rfl, hb⟩
  have H1 : Hid (Below w.heap.size w w1) := HB0.out.trans (hb.mono HB0.out.size)
  have HX1 := Lib.hid (HX0.out.below hb)
  clear hb b0 b1 b2 b3 HX0 HCK HW HB0
  have b0 : w1.cell? ⟨w.heap.size, 0, none⟩ = some (.slice an b.ns.length cn) := HX1.out.cell 0
  have b1 : w1.cell? ⟨w.heap.size, 1, none⟩ = some (.slice at' b.ts.length ct) := HX1.out.cell 1
  have b2 : w1.cell? ⟨w.heap.size, 2, none⟩ = some (.slice ab b.bs.length cb) := HX1.out.cell 2
  have b3 : w1.cell? ⟨w.heap.size, 3, none⟩ = some (.int .u64 (b.fe : Nat)) := HX1.out.cell 3
  go_wp2_with fail
  refine (HTX.out w1 H1.out).mono ?_
  rintro e w2 ⟨rfl, hb⟩
  have H2 : Hid (Below w.heap.size w w2) := H1.out.trans (hb.mono H1.out.size)
  have HX2 := Lib.hid (HX1.out.below hb)
  clear hb b0 b1 b2 b3 HX1 HTX H1
  clear hB
  go_wp2
  go_ret2
  exact HR.out _ H2.out
set_option maxRecDepth 100000 in
set_option maxHeartbeats 4000000 in
theorem frf_on (b : Bk) (vn vt vb : Value) (k : ByteArray) (w : World) (hB : Books w w.heap.size vn vt vb b) (hc : chkB b = true) (hh : hasK (b.ts.map (·.n)) k = true) (ho : hasK (b.bs.map (·.k)) k = true) : Calls Tryz.prog 17 #[.agg #[vn, vt, vb, .int .u64 (b.fe : Nat)], .string k] w (FreeIs b k w) := by
  have hf : frE b k = 7 ∧ frV b k = [] := by
    have h : frE b k = 7 := by unfold frE; rw [hc, if_pos rfl, hh, if_pos rfl, ho, if_pos rfl]
    exact ⟨h, by unfold frV; rw [h]; rfl⟩
  have HR : Hid (∀ w', Below w.heap.size w w' → FreeIs b k w (.returned (.tuple #[.slice none 0 0, .int .i64 7])) w') := fun w' h => ⟨.slice none 0 0, by rw [hf.1]; rfl, by rw [hf.2]; exact Own.nil _ _ _, h⟩
  have hne := on_neN (rb_of_chk hc) ho
  obtain ⟨ix, hix⟩ : ∃ ix, ix = fiK (b.ts.map (·.n)) k := ⟨_, rfl⟩
  obtain ⟨W0, hW0⟩ : ∃ W0, W0 = w.alloc (.cells #[vn, vt, vb, .int .u64 (b.fe : Nat)] 27) := ⟨_, rfl⟩
  have hb0 : Below w.heap.size w W0 := by rw [hW0]; exact al w _
  have hx0 : Hd.Bxn W0 w.heap.size [vn, vt, vb, .int .u64 (b.fe : Nat)] := by rw [hW0]; exact Hd.Bxn.made w _ _
  have HCK : Hid (∀ z, Below w.heap.size w z → Calls Tryz.prog 39 #[.agg #[vn, vt, vb, .int .u64 (b.fe : Nat)]] z fun e w' => e = .returned (.int .i64 0) ∧ Below z.heap.size z w') := fun z hz => by
    have h := check_ref8 b vn vt vb z (hB.on hz)
    rw [hc] at h
    exact h
  have HTX : Hid (∀ z, Below w.heap.size w z → Calls Tryz.prog 48 #[.agg #[vn, vt, vb, .int .u64 (b.fe : Nat)], .string k] z fun e w' => e = .returned (.int .i64 (ix : Nat)) ∧ Below z.heap.size z w') := fun z hz => by
    have h := Task_ix b vn vt vb k z (hB.on hz)
    unfold ixK at h
    rw [hh, if_pos rfl, ← hix] at h
    exact h
  have HON : Hid (∀ z, Below w.heap.size w z → Calls Tryz.prog 40 #[.agg #[vn, vt, vb, .int .u64 (b.fe : Nat)], .string k] z fun e w' => e = .returned (.string (onF b.bs k)) ∧ Below z.heap.size z w') := fun z hz => by
    have h := On_ix b vn vt vb k z (hB.on hz)
    exact h
  obtain ⟨an, cn, hvn⟩ := hB.hn.slice
  obtain ⟨at', ct, hvt⟩ := hB.ht.slice
  obtain ⟨ab, cb, hvb⟩ := hB.hb.slice
  subst hvn hvt hvb
  have HW := Lib.hid hW0
  have HX0 : Hid (Hd.Bxn W0 w.heap.size [.slice an b.ns.length cn, .slice at' b.ts.length ct, .slice ab b.bs.length cb, .int .u64 (b.fe : Nat)]) := hx0
  have HB0 := Lib.hid hb0
  clear hW0 hb0 hx0
  clear hf hc hh ho hix
  generalize onF b.bs k = on at *
  obtain ⟨he3, he4⟩ := ba_neQ hne
  have he2 : (on.toList == []) = false := by simpa using he3
  clear hne
  have hn0 : ¬ ((ix : Nat) : Int) < 0 := by omega
  have hn1 : decide (((ix : Nat) : Int) < 0) = false := decide_eq_false hn0
  go_enter Tryz.func17, Tryz.ntmps17
  go_upto_region 1 with fail
  rw [← HW.out]
  have b0 : W0.cell? ⟨w.heap.size, 0, none⟩ = some (.slice an b.ns.length cn) := HX0.out.cell 0
  have b1 : W0.cell? ⟨w.heap.size, 1, none⟩ = some (.slice at' b.ts.length ct) := HX0.out.cell 1
  have b2 : W0.cell? ⟨w.heap.size, 2, none⟩ = some (.slice ab b.bs.length cb) := HX0.out.cell 2
  have b3 : W0.cell? ⟨w.heap.size, 3, none⟩ = some (.int .u64 (b.fe : Nat)) := HX0.out.cell 3
  go_wp2_with fail
  refine (HCK.out W0 HB0.out).mono ?_
  rintro e w1 ⟨rfl, hb⟩
  have H1 : Hid (Below w.heap.size w w1) := HB0.out.trans (hb.mono HB0.out.size)
  have HX1 := Lib.hid (HX0.out.below hb)
  clear hb b0 b1 b2 b3 HX0 HCK HW HB0
  have b0 : w1.cell? ⟨w.heap.size, 0, none⟩ = some (.slice an b.ns.length cn) := HX1.out.cell 0
  have b1 : w1.cell? ⟨w.heap.size, 1, none⟩ = some (.slice at' b.ts.length ct) := HX1.out.cell 1
  have b2 : w1.cell? ⟨w.heap.size, 2, none⟩ = some (.slice ab b.bs.length cb) := HX1.out.cell 2
  have b3 : w1.cell? ⟨w.heap.size, 3, none⟩ = some (.int .u64 (b.fe : Nat)) := HX1.out.cell 3
  go_wp2_with fail
  refine (HTX.out w1 H1.out).mono ?_
  rintro e w2 ⟨rfl, hb⟩
  have H2 : Hid (Below w.heap.size w w2) := H1.out.trans (hb.mono H1.out.size)
  have HX2 := Lib.hid (HX1.out.below hb)
  clear hb b0 b1 b2 b3 HX1 HTX H1
  have b0 : w2.cell? ⟨w.heap.size, 0, none⟩ = some (.slice an b.ns.length cn) := HX2.out.cell 0
  have b1 : w2.cell? ⟨w.heap.size, 1, none⟩ = some (.slice at' b.ts.length ct) := HX2.out.cell 1
  have b2 : w2.cell? ⟨w.heap.size, 2, none⟩ = some (.slice ab b.bs.length cb) := HX2.out.cell 2
  have b3 : w2.cell? ⟨w.heap.size, 3, none⟩ = some (.int .u64 (b.fe : Nat)) := HX2.out.cell 3
  go_wp2_with fail
  refine (HON.out w2 H2.out).mono ?_
  rintro e w3 ⟨rfl, hb⟩
  have H3 : Hid (Below w.heap.size w w3) := H2.out.trans (hb.mono H2.out.size)
  have HX3 := Lib.hid (HX2.out.below hb)
  clear hb b0 b1 b2 b3 HX2 HON H2
  clear hB
  go_wp2
  go_ret2
  exact HR.out _ H3.out
set_option maxRecDepth 100000 in
set_option maxHeartbeats 4000000 in
theorem frf_ok (b : Bk) (vn vt vb : Value) (k : ByteArray) (w : World) (hB : Books w w.heap.size vn vt vb b) (hc : chkB b = true) (hh : hasK (b.ts.map (·.n)) k = true) (ho : hasK (b.bs.map (·.k)) k = false) : Calls Tryz.prog 17 #[.agg #[vn, vt, vb, .int .u64 (b.fe : Nat)], .string k] w (FreeIs b k w) := by
  obtain ⟨i0, hi, hq0, hq1, hq2⟩ := info_parts info_str
  have hf : frE b k = 0 := by unfold frE; rw [hc, if_pos rfl, hh, if_pos rfl, ho, if_neg (by decide)]
  have HR : Hid (∀ (v : Value) (w' : World), Own w' w.heap.size 9 v (frL b k (b.ns.map (·.n))) → Below w.heap.size w w' → FreeIs b k w (.returned (.tuple #[v, .int .i64 0])) w') := fun v w' h1 h => ⟨v, by rw [hf]; rfl, by unfold frV; rw [hf, if_pos rfl]; exact h1, h⟩
  have HFI := Lib.hid (hB.fine hc)
  obtain ⟨ix, hix⟩ : ∃ ix, ix = fiK (b.ts.map (·.n)) k := ⟨_, rfl⟩
  obtain ⟨W0, hW0⟩ : ∃ W0, W0 = w.alloc (.cells #[vn, vt, vb, .int .u64 (b.fe : Nat)] 27) := ⟨_, rfl⟩
  have hb0 : Below w.heap.size w W0 := by rw [hW0]; exact al w _
  have hx0 : Hd.Bxn W0 w.heap.size [vn, vt, vb, .int .u64 (b.fe : Nat)] := by rw [hW0]; exact Hd.Bxn.made w _ _
  have HCK : Hid (∀ z, Below w.heap.size w z → Calls Tryz.prog 39 #[.agg #[vn, vt, vb, .int .u64 (b.fe : Nat)]] z fun e w' => e = .returned (.int .i64 0) ∧ Below z.heap.size z w') := fun z hz => by
    have h := check_ref8 b vn vt vb z (hB.on hz)
    rw [hc] at h
    exact h
  have HTX : Hid (∀ z, Below w.heap.size w z → Calls Tryz.prog 48 #[.agg #[vn, vt, vb, .int .u64 (b.fe : Nat)], .string k] z fun e w' => e = .returned (.int .i64 (ix : Nat)) ∧ Below z.heap.size z w') := fun z hz => by
    have h := Task_ix b vn vt vb k z (hB.on hz)
    unfold ixK at h
    rw [hh, if_pos rfl, ← hix] at h
    exact h
  have HON : Hid (∀ z, Below w.heap.size w z → Calls Tryz.prog 40 #[.agg #[vn, vt, vb, .int .u64 (b.fe : Nat)], .string k] z fun e w' => e = .returned (.string ⟨#[]⟩) ∧ Below z.heap.size z w') := fun z hz => by
    have h := On_ix b vn vt vb k z (hB.on hz)
    rw [on_nil ho] at h
    exact h
  have HCA : Hid (∀ z v, Below w.heap.size w z → Calls Tryz.prog 49 #[.agg #[vn, vt, vb, .int .u64 (b.fe : Nat)], .string k, .string v] z fun e w' => e = .returned (.int .i64 (canE b k v : Nat)) ∧ Below z.heap.size z w') := fun z v hz => by
    have h := cano_any b vn vt vb k v z (hB.on hz)
    unfold canF at h
    rw [hc, if_pos rfl] at h
    exact h
  obtain ⟨an, cn, hvn⟩ := hB.hn.slice
  obtain ⟨at', ct, hvt⟩ := hB.ht.slice
  obtain ⟨ab, cb, hvb⟩ := hB.hb.slice
  subst hvn hvt hvb
  have HW := Lib.hid hW0
  have HX0 : Hid (Hd.Bxn W0 w.heap.size [.slice an b.ns.length cn, .slice at' b.ts.length ct, .slice ab b.bs.length cb, .int .u64 (b.fe : Nat)]) := hx0
  have HB0 := Lib.hid hb0
  clear hW0 hb0 hx0
  clear hf hc hh ho hix
  have hn0 : ¬ ((ix : Nat) : Int) < 0 := by omega
  have hn1 : decide (((ix : Nat) : Int) < 0) = false := decide_eq_false hn0
  go_enter Tryz.func17, Tryz.ntmps17
  go_upto_region 1 with fail
  rw [← HW.out]
  have b0 : W0.cell? ⟨w.heap.size, 0, none⟩ = some (.slice an b.ns.length cn) := HX0.out.cell 0
  have b1 : W0.cell? ⟨w.heap.size, 1, none⟩ = some (.slice at' b.ts.length ct) := HX0.out.cell 1
  have b2 : W0.cell? ⟨w.heap.size, 2, none⟩ = some (.slice ab b.bs.length cb) := HX0.out.cell 2
  have b3 : W0.cell? ⟨w.heap.size, 3, none⟩ = some (.int .u64 (b.fe : Nat)) := HX0.out.cell 3
  go_wp2_with fail
  refine (HCK.out W0 HB0.out).mono ?_
  rintro e w1 ⟨rfl, hb⟩
  have H1 : Hid (Below w.heap.size w w1) := HB0.out.trans (hb.mono HB0.out.size)
  have HX1 := Lib.hid (HX0.out.below hb)
  clear hb b0 b1 b2 b3 HX0 HCK HW HB0
  have b0 : w1.cell? ⟨w.heap.size, 0, none⟩ = some (.slice an b.ns.length cn) := HX1.out.cell 0
  have b1 : w1.cell? ⟨w.heap.size, 1, none⟩ = some (.slice at' b.ts.length ct) := HX1.out.cell 1
  have b2 : w1.cell? ⟨w.heap.size, 2, none⟩ = some (.slice ab b.bs.length cb) := HX1.out.cell 2
  have b3 : w1.cell? ⟨w.heap.size, 3, none⟩ = some (.int .u64 (b.fe : Nat)) := HX1.out.cell 3
  go_wp2_with fail
  refine (HTX.out w1 H1.out).mono ?_
  rintro e w2 ⟨rfl, hb⟩
  have H2 : Hid (Below w.heap.size w w2) := H1.out.trans (hb.mono H1.out.size)
  have HX2 := Lib.hid (HX1.out.below hb)
  clear hb b0 b1 b2 b3 HX1 HTX H1
  have b0 : w2.cell? ⟨w.heap.size, 0, none⟩ = some (.slice an b.ns.length cn) := HX2.out.cell 0
  have b1 : w2.cell? ⟨w.heap.size, 1, none⟩ = some (.slice at' b.ts.length ct) := HX2.out.cell 1
  have b2 : w2.cell? ⟨w.heap.size, 2, none⟩ = some (.slice ab b.bs.length cb) := HX2.out.cell 2
  have b3 : w2.cell? ⟨w.heap.size, 3, none⟩ = some (.int .u64 (b.fe : Nat)) := HX2.out.cell 3
  go_wp2_with fail
  refine (HON.out w2 H2.out).mono ?_
  rintro e w3 ⟨rfl, hb⟩
  have H3 : Hid (Below w.heap.size w w3) := H2.out.trans (hb.mono H2.out.size)
  have HX3 := Lib.hid (HX2.out.below hb)
  clear hb b0 b1 b2 b3 HX2 HON H2
  have b0 : w3.cell? ⟨w.heap.size, 0, none⟩ = some (.slice an b.ns.length cn) := HX3.out.cell 0
  obtain ⟨mn, hmn, hsn, -⟩ := hB.hn
  have hlen : b.ns.length = mn.length := by rw [hmn, List.length_map]
  have HLN : Hid (mn.length ≤ 4096) := by have h1 := HFI.out.ln; rw [hlen] at h1; exact h1
  have HNM : Hid (frL b k (b.ns.map (·.n)) = frL b k (mn.map (·.nd.n))) := by show _ = _; rw [hmn, List.map_map]; rfl
  have hsn3 := hsn.on H3.out
  obtain ⟨av, cv, hav, hcap, -, hlenb, hcells⟩ := hsn3
  simp only [Value.slice.injEq] at hav
  obtain ⟨rfl, -, rfl⟩ := hav
  have HC := Lib.hid hcells
  clear hB hmn hsn hcap hlenb hcells HFI
  rw [hlen] at b0 HX3 HCA
  clear hlen
  go_wp2
  clear b0
  go_loopg [6, 26] mn.length (fun gg sv i wx => ∃ q : Nat, q + gg = mn.length ∧ i = .int .i64 q ∧ Aside (Own wx w3.heap.size 9 sv (frL b k ((mn.take q).map (·.nd.n)))) ∧ Aside (Below w3.heap.size w3 wx))
  case atStart => exact ⟨0, by omega, rfl, Own.nil _ _ _, Below.refl _ _⟩
  case round =>
    obtain ⟨q, hkg, rfl, HA, HB⟩ := hrel
    cases gk with
    | zero =>
      obtain rfl : q = mn.length := by omega
      have HO : Hid (Own wr w.heap.size 9 u6 (frL b k (b.ns.map (·.n)))) := by have := HA.out; rw [List.take_length, ← HNM.out] at this; exact this.le H3.out.size
      have HBE : Hid (Below w.heap.size w wr) := H3.out.trans (HB.out.mono H3.out.size)
      clear hkg HA
      go_wp2
      go_ret2
      exact HR.out _ _ HO.out HBE.out
    | succ gg =>
      have hlk : q < mn.length := by omega
      have t2 : (q : Int) < (mn.length : Int) := by omega
      have t3 : IntKind.i64.wrap ((q : Int) + 1) = (q : Int) + 1 := by rw [IntKind.wrap_i64]; have := HLN.out; omega
      obtain ⟨g, off, rfl, -, hgl, hat⟩ := HC.out (by omega)
      have hatk : At w3 g (off + q * 6) mn[q] := hat q hlk
      obtain ⟨d0', d1', d2', d3', d4', d5'⟩ := at_nd hatk
      have e0 := (HB.out.cell (by exact hgl)).trans d0'
      have e1 := (HB.out.cell (by exact hgl)).trans d1'
      have e2 := (HB.out.cell (by exact hgl)).trans d2'
      have e3 := (HB.out.cell (by exact hgl)).trans d3'
      have e4 := (HB.out.cell (by exact hgl)).trans d4'
      have e5 := (HB.out.cell (by exact hgl)).trans d5'
      have HXR := Lib.hid (HX3.out.below HB.out)
      have HTK : Hid (frL b k ((mn.take (q + 1)).map (·.nd.n)) = frL b k ((mn.take q).map (·.nd.n)) ++ frL b k [mn[q].nd.n]) := by
        show _ = _
        unfold frL
        rw [List.take_succ_eq_append_getElem hlk, List.map_append, List.filter_append]
        rfl
      have hlt : (frL b k ((mn.take q).map (·.nd.n))).length + 1 ≤ 4096 := by
        have h1 := List.length_filter_le (fun v => decide (canE b k v = 0)) ((mn.take q).map (·.nd.n))
        rw [List.length_map, List.length_take] at h1
        have h2 := HLN.out
        unfold frL
        omega
      have HMX : Hid ((frL b k ((mn.take q).map (·.nd.n))).length + 1 ≤ maxLen) := by show _ ≤ _; unfold maxLen; omega
      have HBY : Hid (((frL b k ((mn.take q).map (·.nd.n))).length + 1) * 16 ≤ 140737488355328) := by show _ ≤ _; omega
      have HKG := Lib.hid hkg
      clear d0' d1' d2' d3' d4' d5' hatk hat hgl hlt hkg
      generalize mn[q] = x at *
      have HAO : Hid (Own wr w3.heap.size 9 u6 (frL b k ((mn.take q).map (·.nd.n)))) := HA.out
      clear HA
      generalize frL b k ((mn.take q).map (·.nd.n)) = ls at *
      generalize x.nd.ls.length = n1 at *
      generalize x.nd.ts.length = n2 at *
      obtain ⟨wy, hwy⟩ : ∃ wy, wy = wr.alloc (.cells #[.string x.nd.n, .int .i64 x.nd.z0, .int .i64 x.nd.z1, .int .i64 x.nd.z2, .slice x.a2 n1 x.c2, .slice x.a3 n2 x.c3] 45) := ⟨_, rfl⟩
      have HNX : Hid (Hd.Bxn wy wr.heap.size [.string x.nd.n, .int .i64 x.nd.z0, .int .i64 x.nd.z1, .int .i64 x.nd.z2, .slice x.a2 n1 x.c2, .slice x.a3 n2 x.c3]) := by rw [hwy]; exact Hd.Bxn.made wr _ _
      have HYB : Hid (Below wr.heap.size wr wy) := by rw [hwy]; exact al _ _
      have HWY := Lib.hid hwy
      clear hwy
      go_upto_region 11 with fail
      rw [← HWY.out]
      clear e0 e1 e2 e3 e4 e5
      have HXY := Lib.hid (HXR.out.below HYB.out)
      have HB3 : Hid (Below w3.heap.size w3 wy) := HB.out.trans (HYB.out.mono HB.out.size)
      have HB3W : Hid (Below w.heap.size w wy) := H3.out.trans (HB3.out.mono H3.out.size)
      have HOY := Lib.hid (HAO.out.keep HYB.out)
      have q0 : wy.cell? ⟨w.heap.size, 0, none⟩ = some (.slice (some ⟨g, off, none⟩) mn.length cn) := HXY.out.cell 0
      have q1 : wy.cell? ⟨w.heap.size, 1, none⟩ = some (.slice at' b.ts.length ct) := HXY.out.cell 1
      have q2 : wy.cell? ⟨w.heap.size, 2, none⟩ = some (.slice ab b.bs.length cb) := HXY.out.cell 2
      have q3 : wy.cell? ⟨w.heap.size, 3, none⟩ = some (.int .u64 (b.fe : Nat)) := HXY.out.cell 3
      have n0 : wy.cell? ⟨wr.heap.size, 0, none⟩ = some (.string x.nd.n) := HNX.out.cell 0
      have HCX := Lib.hid (HCA.out wy x.nd.n HB3W.out)
      clear HWY HXR HB HAO HYB HB3W
      generalize x.nd.n = nm at *
      by_cases hz : canE b k nm = 0
      · have HTN : Hid (frL b k [nm] = [nm]) := by show _ = _; unfold frL; rw [List.filter_cons_of_pos (by simpa using hz)]; rfl
        rw [hz] at HCX
        clear hz
        go_wp2_with fail
        refine HCX.out.mono ?_
        rintro e w4 ⟨rfl, hb⟩
        have HNZ := Lib.hid (HNX.out.below hb)
        have HB4 : Hid (Below w3.heap.size w3 w4) := HB3.out.trans (hb.mono HB3.out.size)
        have HOZ := Lib.hid (HOY.out.keep hb)
        clear hb q0 q1 q2 q3 n0 HNX HB3 HOY HXY HCX
        have n0 : w4.cell? ⟨wr.heap.size, 0, none⟩ = some (.string nm) := HNZ.out.cell 0
        have hbx : Below w4.heap.size w4 (w4.alloc (.cells #[.string nm] 9)) := al w4 _
        have HB5 : Hid (Below w3.heap.size w3 (w4.alloc (.cells #[.string nm] 9))) := HB4.out.trans (hbx.mono HB4.out.size)
        have HO5 := Lib.hid (HOZ.out.keep hbx)
        have HOL := Lib.hid HO5.out.lt
        have HN5 : Hid (∀ j u, ([.string nm] : List Value)[j]? = some u → (w4.alloc (.cells #[.string nm] 9)).cell? ((⟨w4.heap.size, 0, none⟩ : Addr).add j) = some u) := Rg.news_new w4 9 [.string nm]
        have HSZ : Hid (w3.heap.size ≤ (w4.alloc (.cells #[.string nm] 9)).heap.size) := HB5.out.size
        have HON1 : Hid (∀ u ∈ ([.string nm] : List Value), u.oneCell' = true) := str_one nm
        have HSN : Hid (∀ (w5 : World) (v4 : Value), w5.ownsRow w3.heap.size 9 1 v4 (ls.length + 1) (flat ls ++ [.string nm]) → Own w5 w3.heap.size 9 v4 (ls ++ [nm])) := fun w5 v4 h => Own.snoc (x := nm) h
        clear hbx HNZ HOZ
        go_wp2_with (at_builtin; (refine wpList_append_own_at _ rfl _ _ 34 rfl w3.heap.size 9 i0 _ 1 16 Tryz.underlying34 hi hq0 hq1 hq2 rfl (by omega) _ _ _ rfl HO5.out ⟨w4.heap.size, 0, none⟩ 1 1 [.string nm] rfl rfl HN5.out HON1.out HMX.out HBY.out HSZ.out ?_); intro v4 w5 hown hg5 hnil hob; have HO6 := Lib.hid (HSN.out _ _ hown); have HB6 : Hid (Below w3.heap.size w3 w5) := (HB5.out.grown hg5 HB5.out.size (fun g hg => (HOL.out g hg).1)); clear hown hg5 hnil hob)
        go_wp2
        go_roundg gg
        case measure => omega
        case rel => exact ⟨q + 1, by have := HKG.out; omega, by simp, by rw [HTK.out, HTN.out]; exact HO6.out, HB6.out⟩
      · have HTN : Hid (frL b k [nm] = []) := by show _ = _; unfold frL; rw [List.filter_cons_of_neg (by simpa using hz)]; rfl
        have hz1 : ¬ ((canE b k nm : Nat) : Int) = 0 := by omega
        have hz2 : decide (((canE b k nm : Nat) : Int) = 0) = false := decide_eq_false hz1
        clear hz
        go_wp2_with fail
        refine HCX.out.mono ?_
        rintro e w4 ⟨rfl, hb⟩
        have HB4 : Hid (Below w3.heap.size w3 w4) := HB3.out.trans (hb.mono HB3.out.size)
        have HOZ := Lib.hid (HOY.out.keep hb)
        clear hb q0 q1 q2 q3 n0 HNX HB3 HOY HXY HCX
        generalize ((canE b k nm : Nat) : Int) = r at *
        have hz3 : (r == 0) = false := by simpa using hz1
        go_wp2
        go_roundg gg
        case measure => omega
        case rel => exact ⟨q + 1, by have := HKG.out; omega, by simp, by rw [HTK.out, HTN.out, List.append_nil]; exact HOZ.out, HB4.out⟩
theorem frf_any (b : Bk) (vn vt vb : Value) (k : ByteArray) (w : World) (hB : Books w w.heap.size vn vt vb b) : Calls Tryz.prog 17 #[.agg #[vn, vt, vb, .int .u64 (b.fe : Nat)], .string k] w (FreeIs b k w) := by
  cases hc : chkB b
  · exact frf_no b vn vt vb k w hB hc
  · cases hh : hasK (b.ts.map (·.n)) k
    · exact frf_none b vn vt vb k w hB hc hh
    · cases ho : hasK (b.bs.map (·.k)) k
      · exact frf_ok b vn vt vb k w hB hc hh ho
      · exact frf_on b vn vt vb k w hB hc hh ho
end Bo
end Go.Proofs.YthbmnkeigmbbdaaGreat

/- HOW FULL THE NODES ARE, by the document: gafferref11.Loads. -/
namespace Go.Proofs.YthbmnkeigmbbdaaGreat
open Go.RowKit Go.Lib
namespace Bo
open Rw
set_option linter.unusedVariables false
/-- What is told of how full the nodes are, in rows of one's own. -/
def LrfIs (b : Bk) (w : World) (e : Ending) (w' : World) : Prop := ∃ (v : Value) (l : List LdM), e = .returned (.tuple #[v, .int .i64 (chE (chkB b) : Nat)]) ∧ Own w' w.heap.size 47 v l ∧ l.map (fun L : LdM => (L.x.nd, L.u0, L.u1, L.u2)) = (if chkB b = true then b.ns.map (fun n => (n, us0 b n.n, us1 b n.n, us2 b n.n)) else []) ∧ (∀ L ∈ l, OwnN w' w.heap.size L.x ∧ FitN L.x.nd) ∧ Below w.heap.size w w'
set_option maxRecDepth 100000 in
set_option maxHeartbeats 4000000 in
theorem lrf_no (b : Bk) (vn vt vb : Value) (w : World) (hB : Books w w.heap.size vn vt vb b) (hc : chkB b = false) : Calls Tryz.prog 15 #[.agg #[vn, vt, vb, .int .u64 (b.fe : Nat)]] w (LrfIs b w) := by
  have HR : Hid (∀ w', Below w.heap.size w w' → LrfIs b w (.returned (.tuple #[.slice none 0 0, .int .i64 10])) w') := fun w' h => ⟨.slice none 0 0, [], by rw [hc]; rfl, Own.nil _ _ _, by rw [hc]; rfl, by simp, h⟩
  obtain ⟨W0, hW0⟩ : ∃ W0, W0 = w.alloc (.cells #[vn, vt, vb, .int .u64 (b.fe : Nat)] 27) := ⟨_, rfl⟩
  have hb0 : Below w.heap.size w W0 := by rw [hW0]; exact al w _
  have hx0 : Hd.Bxn W0 w.heap.size [vn, vt, vb, .int .u64 (b.fe : Nat)] := by rw [hW0]; exact Hd.Bxn.made w _ _
  have HCK : Hid (∀ z, Below w.heap.size w z → Calls Tryz.prog 39 #[.agg #[vn, vt, vb, .int .u64 (b.fe : Nat)]] z fun e w' => e = .returned (.int .i64 10) ∧ Below z.heap.size z w') := fun z hz => by
    have h := check_ref8 b vn vt vb z (hB.on hz)
    rw [hc] at h
    exact h
  obtain ⟨an, cn, hvn⟩ := hB.hn.slice
  obtain ⟨at', ct, hvt⟩ := hB.ht.slice
  obtain ⟨ab, cb, hvb⟩ := hB.hb.slice
  subst hvn hvt hvb
  have HW := Lib.hid hW0
  have HX0 : Hid (Hd.Bxn W0 w.heap.size [.slice an b.ns.length cn, .slice at' b.ts.length ct, .slice ab b.bs.length cb, .int .u64 (b.fe : Nat)]) := hx0
  have HB0 := Lib.hid hb0
  clear hW0 hb0 hx0
  clear hc
  go_enter Tryz.func15, Tryz.ntmps15
  go_upto_region 1 with fail
  rw [← HW.out]
  have b0 : W0.cell? ⟨w.heap.size, 0, none⟩ = some (.slice an b.ns.length cn) := HX0.out.cell 0
  have b1 : W0.cell? ⟨w.heap.size, 1, none⟩ = some (.slice at' b.ts.length ct) := HX0.out.cell 1
  have b2 : W0.cell? ⟨w.heap.size, 2, none⟩ = some (.slice ab b.bs.length cb) := HX0.out.cell 2
  have b3 : W0.cell? ⟨w.heap.size, 3, none⟩ = some (.int .u64 (b.fe : Nat)) := HX0.out.cell 3
  go_wp2_with fail
  refine (HCK.out W0 HB0.out).mono ?_
  rintro e w1 ⟨rfl, hb⟩
  have H1 : Hid (Below w.heap.size w w1) := HB0.out.trans (hb.mono HB0.out.size)
  have HX1 := Lib.hid (HX0.out.below hb)
  clear hb b0 b1 b2 b3 HX0 HCK HW HB0
  clear hB
  go_wp2
  go_ret2
  exact HR.out _ H1.out
set_option maxRecDepth 100000 in
set_option maxHeartbeats 4000000 in
theorem lrf_ok (b : Bk) (vn vt vb : Value) (w : World) (hB : Books w w.heap.size vn vt vb b) (hc : chkB b = true) : Calls Tryz.prog 15 #[.agg #[vn, vt, vb, .int .u64 (b.fe : Nat)]] w (LrfIs b w) := by
  have HR : Hid (∀ (v : Value) (l : List LdM) (w' : World), Own w' w.heap.size 47 v l → l.map (fun L : LdM => (L.x.nd, L.u0, L.u1, L.u2)) = b.ns.map (fun n => (n, us0 b n.n, us1 b n.n, us2 b n.n)) → (∀ L ∈ l, OwnN w' w.heap.size L.x ∧ FitN L.x.nd) → Below w.heap.size w w' → LrfIs b w (.returned (.tuple #[v, .int .i64 0])) w') := fun v l w' h1 h2 h3 h4 => ⟨v, l, by rw [hc]; rfl, h1, by rw [hc, if_pos rfl]; exact h2, h3, h4⟩
  have HFI := Lib.hid (hB.fine hc)
  obtain ⟨W0, hW0⟩ : ∃ W0, W0 = w.alloc (.cells #[vn, vt, vb, .int .u64 (b.fe : Nat)] 27) := ⟨_, rfl⟩
  have hb0 : Below w.heap.size w W0 := by rw [hW0]; exact al w _
  have hx0 : Hd.Bxn W0 w.heap.size [vn, vt, vb, .int .u64 (b.fe : Nat)] := by rw [hW0]; exact Hd.Bxn.made w _ _
  have HCK : Hid (∀ z, Below w.heap.size w z → Calls Tryz.prog 39 #[.agg #[vn, vt, vb, .int .u64 (b.fe : Nat)]] z fun e w' => e = .returned (.int .i64 0) ∧ Below z.heap.size z w') := fun z hz => by
    have h := check_ref8 b vn vt vb z (hB.on hz)
    rw [hc] at h
    exact h
  have HUS : Hid (∀ v, hasK (b.ns.map (·.n)) v = true → ∀ z, Below w.heap.size w z → Calls Tryz.prog 43 #[.agg #[vn, vt, vb, .int .u64 (b.fe : Nat)], .string v] z fun e w' => e = .returned (.tuple #[.agg #[.int .i64 (us0 b v), .int .i64 (us1 b v), .int .i64 (us2 b v)], .int .i64 0]) ∧ Below z.heap.size z w') := fun v hv z hz => usedo_ok b vn vt vb v z (hB.on hz) hc hv
  obtain ⟨an, cn, hvn⟩ := hB.hn.slice
  obtain ⟨at', ct, hvt⟩ := hB.ht.slice
  obtain ⟨ab, cb, hvb⟩ := hB.hb.slice
  subst hvn hvt hvb
  have HW := Lib.hid hW0
  have HX0 : Hid (Hd.Bxn W0 w.heap.size [.slice an b.ns.length cn, .slice at' b.ts.length ct, .slice ab b.bs.length cb, .int .u64 (b.fe : Nat)]) := hx0
  have HB0 := Lib.hid hb0
  clear hW0 hb0 hx0
  clear hc
  go_enter Tryz.func15, Tryz.ntmps15
  go_upto_region 1 with fail
  rw [← HW.out]
  have b0 : W0.cell? ⟨w.heap.size, 0, none⟩ = some (.slice an b.ns.length cn) := HX0.out.cell 0
  have b1 : W0.cell? ⟨w.heap.size, 1, none⟩ = some (.slice at' b.ts.length ct) := HX0.out.cell 1
  have b2 : W0.cell? ⟨w.heap.size, 2, none⟩ = some (.slice ab b.bs.length cb) := HX0.out.cell 2
  have b3 : W0.cell? ⟨w.heap.size, 3, none⟩ = some (.int .u64 (b.fe : Nat)) := HX0.out.cell 3
  go_wp2_with fail
  refine (HCK.out W0 HB0.out).mono ?_
  rintro e w1 ⟨rfl, hb⟩
  have H1 : Hid (Below w.heap.size w w1) := HB0.out.trans (hb.mono HB0.out.size)
  have HX1 := Lib.hid (HX0.out.below hb)
  clear hb b0 b1 b2 b3 HX0 HCK HW HB0
  obtain ⟨mn, hmn, hsn, hdn, -⟩ := hB.hn
  have hlen : b.ns.length = mn.length := by rw [hmn, List.length_map]
  have HLN : Hid (mn.length ≤ 4096) := by have h1 := HFI.out.ln; rw [hlen] at h1; exact h1
  have HDN : Hid (∀ x ∈ mn, DeepN w w.heap.size x ∧ FitN x.nd) := hdn
  have HNS : Hid (b.ns = mn.map (·.nd)) := hmn
  have hsn3 := hsn.on H1.out
  obtain ⟨av, cv, hav, hcap, -, hlenb, hcells⟩ := hsn3
  simp only [Value.slice.injEq] at hav
  obtain ⟨rfl, -, rfl⟩ := hav
  have HC := Lib.hid hcells
  clear hB hmn hsn hdn hcap hlenb hcells HFI
  rw [hlen] at HX1 HUS
  have b0 : w1.cell? ⟨w.heap.size, 0, none⟩ = some (.slice an mn.length cn) := HX1.out.cell 0
  clear hlen
  go_wp2
  clear b0
  go_loopg [4, 15] mn.length (fun gg sv i wx => ∃ (q : Nat) (ls : List LdM), q + gg = mn.length ∧ i = .int .i64 q ∧ Aside (Own wx w1.heap.size 47 sv ls) ∧ Aside (ls.map (fun L : LdM => (L.x.nd, L.u0, L.u1, L.u2)) = (mn.take q).map (fun m : NdM => (m.nd, us0 b m.nd.n, us1 b m.nd.n, us2 b m.nd.n))) ∧ Aside (∀ L ∈ ls, OwnN wx w1.heap.size L.x ∧ FitN L.x.nd) ∧ Aside (Below w1.heap.size w1 wx))
  case atStart => exact ⟨0, [], by omega, rfl, Own.nil _ _ _, rfl, (by unfold Aside; simp), Below.refl _ _⟩
  case round =>
    obtain ⟨q, ls, hkg, rfl, HA, HM0, HE0, HB⟩ := hrel
    have HML : Hid (ls.map (fun L : LdM => (L.x.nd, L.u0, L.u1, L.u2)) = (mn.take q).map (fun m : NdM => (m.nd, us0 b m.nd.n, us1 b m.nd.n, us2 b m.nd.n))) := HM0.out
    have HER : Hid (∀ L ∈ ls, OwnN wr w1.heap.size L.x ∧ FitN L.x.nd) := HE0.out
    clear HM0 HE0
    cases gk with
    | zero =>
      obtain rfl : q = mn.length := by omega
      have HF := Lib.hid (HR.out u4 ls wr (HA.out.le H1.out.size) (by have h := HML.out; rw [List.take_length] at h; rw [h, HNS.out, List.map_map]; rfl) (fun L hL => ⟨(HER.out L hL).1.le H1.out.size, (HER.out L hL).2⟩) (H1.out.trans (HB.out.mono H1.out.size)))
      clear hkg HA
      go_wp2
      go_ret2
      exact HF.out
    | succ gg =>
      have hlk : q < mn.length := by omega
      have t2 : (q : Int) < (mn.length : Int) := by omega
      have t3 : IntKind.i64.wrap ((q : Int) + 1) = (q : Int) + 1 := by rw [IntKind.wrap_i64]; have := HLN.out; omega
      obtain ⟨g, off, rfl, -, hgl, hat⟩ := HC.out (by omega)
      have hatk : At w1 g (off + q * 6) mn[q] := hat q hlk
      obtain ⟨d0', d1', d2', d3', d4', d5'⟩ := at_nd hatk
      have e0 := (HB.out.cell (by exact hgl)).trans d0'
      have e1 := (HB.out.cell (by exact hgl)).trans d1'
      have e2 := (HB.out.cell (by exact hgl)).trans d2'
      have e3 := (HB.out.cell (by exact hgl)).trans d3'
      have e4 := (HB.out.cell (by exact hgl)).trans d4'
      have e5 := (HB.out.cell (by exact hgl)).trans d5'
      have HXR := Lib.hid (HX1.out.below HB.out)
      have HTK : Hid ((mn.take (q + 1)).map (fun m : NdM => (m.nd, us0 b m.nd.n, us1 b m.nd.n, us2 b m.nd.n)) = (mn.take q).map (fun m : NdM => (m.nd, us0 b m.nd.n, us1 b m.nd.n, us2 b m.nd.n)) ++ [(mn[q].nd, us0 b mn[q].nd.n, us1 b mn[q].nd.n, us2 b mn[q].nd.n)]) := by show _ = _; rw [List.take_succ_eq_append_getElem hlk, List.map_append]; rfl
      have HLL : Hid (ls.length ≤ 4096) := by show _ ≤ _; have h1 := congrArg List.length HML.out; rw [List.length_map, List.length_map, List.length_take] at h1; have := HLN.out; omega
      have HDX := Lib.hid (HDN.out mn[q] (List.getElem_mem hlk))
      have HUX := Lib.hid (HUS.out mn[q].nd.n (by rw [HNS.out, List.map_map]; exact has_iff.2 (List.mem_map_of_mem (List.getElem_mem hlk))))
      have HKG := Lib.hid hkg
      have HAO : Hid (Own wr w1.heap.size 47 u4 ls) := HA.out
      have HVA : Hid (∀ p, Value.ownBlock u4 = some p → w1.heap.size ≤ p ∧ p < wr.heap.size) := fun p e => HA.out.lt p e
      clear d0' d1' d2' d3' d4' d5' hatk hat hgl hkg HA
      generalize mn[q] = x at *
      clear hlk
      obtain ⟨wy, hwy⟩ : ∃ wy, wy = wr.alloc (.cells #[.string x.nd.n, .int .i64 x.nd.z0, .int .i64 x.nd.z1, .int .i64 x.nd.z2, .slice x.a2 x.nd.ls.length x.c2, .slice x.a3 x.nd.ts.length x.c3] 45) := ⟨_, rfl⟩
      have HNX : Hid (Hd.Bxn wy wr.heap.size [.string x.nd.n, .int .i64 x.nd.z0, .int .i64 x.nd.z1, .int .i64 x.nd.z2, .slice x.a2 x.nd.ls.length x.c2, .slice x.a3 x.nd.ts.length x.c3]) := by rw [hwy]; exact Hd.Bxn.made wr _ _
      have HYB : Hid (Below wr.heap.size wr wy) := by rw [hwy]; exact al _ _
      have HWY := Lib.hid hwy
      clear hwy
      go_upto_region 7 with fail
      rw [← HWY.out]
      clear e0 e1 e2 e3 e4 e5
      have HXY := Lib.hid (HXR.out.below HYB.out)
      have HB3 : Hid (Below w1.heap.size w1 wy) := HB.out.trans (HYB.out.mono HB.out.size)
      have HOY := Lib.hid (HAO.out.keep HYB.out)
      have HEY : Hid (∀ L ∈ ls, OwnN wy w1.heap.size L.x ∧ FitN L.x.nd) := fun L hL => ⟨(HER.out L hL).1.keep HYB.out, (HER.out L hL).2⟩
      have HSY : Hid (wr.heap.size ≤ wy.heap.size) := HYB.out.size
      have q0 : wy.cell? ⟨w.heap.size, 0, none⟩ = some (.slice (some ⟨g, off, none⟩) mn.length cn) := HXY.out.cell 0
      have q1 : wy.cell? ⟨w.heap.size, 1, none⟩ = some (.slice at' b.ts.length ct) := HXY.out.cell 1
      have q2 : wy.cell? ⟨w.heap.size, 2, none⟩ = some (.slice ab b.bs.length cb) := HXY.out.cell 2
      have q3 : wy.cell? ⟨w.heap.size, 3, none⟩ = some (.int .u64 (b.fe : Nat)) := HXY.out.cell 3
      have n0 : wy.cell? ⟨wr.heap.size, 0, none⟩ = some (.string x.nd.n) := HNX.out.cell 0
      clear HWY HXR HB HAO HYB HER
      go_wp2_with fail
      refine (HUX.out wy (H1.out.trans (HB3.out.mono H1.out.size))).mono ?_
      rintro e w2 ⟨rfl, hb⟩
      have HNZ := Lib.hid (HNX.out.below hb)
      have HB4 : Hid (Below w1.heap.size w1 w2) := HB3.out.trans (hb.mono HB3.out.size)
      have HOZ := Lib.hid (HOY.out.keep hb)
      have HEZ : Hid (∀ L ∈ ls, OwnN w2 w1.heap.size L.x ∧ FitN L.x.nd) := fun L hL => ⟨(HEY.out L hL).1.keep hb, (HEY.out L hL).2⟩
      have HS2 : Hid (wr.heap.size ≤ w2.heap.size) := Nat.le_trans HSY.out hb.size
      clear hb q0 q1 q2 q3 n0 HNX HB3 HOY HXY HUX HEY HSY
      obtain ⟨u0, hu0⟩ : ∃ u, u = us0 b x.nd.n := ⟨_, rfl⟩
      obtain ⟨u1, hu1⟩ : ∃ u, u = us1 b x.nd.n := ⟨_, rfl⟩
      obtain ⟨u2, hu2⟩ : ∃ u, u = us2 b x.nd.n := ⟨_, rfl⟩
      have HUE : Hid ((x.nd, us0 b x.nd.n, us1 b x.nd.n, us2 b x.nd.n) = (x.nd, u0, u1, u2)) := by rw [hu0, hu1, hu2]; rfl
      rw [← hu0, ← hu1, ← hu2]
      clear hu0 hu1 hu2
      go_upto_region 8 with fail
      obtain ⟨wz, hwz⟩ : ∃ wz, wz = w2.alloc (.cells #[.int .i64 u0, .int .i64 u1, .int .i64 u2] 39) := ⟨_, rfl⟩
      have hbz : Below w2.heap.size w2 wz := by rw [hwz]; exact al _ _
      have HUd : Hid (Hd.Bxn wz.drew w2.heap.size [.int .i64 u0, .int .i64 u1, .int .i64 u2]) := by rw [hwz]; obtain ⟨T, h⟩ := Hd.Bxn.made w2 [.int .i64 u0, .int .i64 u1, .int .i64 u2] 39; exact ⟨T, h⟩
      rw [← hwz]
      have hbd : Below w2.heap.size w2 wz.drew := below_drew hbz
      have HBd : Hid (Below w1.heap.size w1 wz.drew) := HB4.out.trans (hbd.mono HB4.out.size)
      have HNd : Hid (Hd.Bxn wz.drew wr.heap.size [.string x.nd.n, .int .i64 x.nd.z0, .int .i64 x.nd.z1, .int .i64 x.nd.z2, .slice x.a2 x.nd.ls.length x.c2, .slice x.a3 x.nd.ts.length x.c3]) := HNZ.out.below hbd
      have HOd : Hid (Own wz.drew w1.heap.size 47 u4 ls) := HOZ.out.keep hbd
      have HEd : Hid (∀ L ∈ ls, OwnN wz.drew w1.heap.size L.x ∧ FitN L.x.nd) := fun L hL => ⟨(HEZ.out L hL).1.keep hbd, (HEZ.out L hL).2⟩
      have HXd : Hid (DeepN wz.drew wz.drew.heap.size x) := HDX.out.1.on (H1.out.trans (HBd.out.mono H1.out.size))
      have HZ2 : Hid (wr.heap.size ≤ w2.heap.size ∧ w2.heap.size < wz.drew.heap.size) := ⟨HS2.out, HUd.out.lt⟩
      have HP : Hid (∀ z, Hd.Bxn z wr.heap.size [.string x.nd.n, .int .i64 x.nd.z0, .int .i64 x.nd.z1, .int .i64 x.nd.z2, .slice x.a2 x.nd.ls.length x.c2, .slice x.a3 x.nd.ts.length x.c3] → Hd.Bxn z w2.heap.size [.int .i64 u0, .int .i64 u1, .int .i64 u2] → (z.cell? ⟨wr.heap.size, 0, none⟩ = some (.string x.nd.n) ∧ z.cell? ⟨wr.heap.size, 1, none⟩ = some (.int .i64 x.nd.z0) ∧ z.cell? ⟨wr.heap.size, 2, none⟩ = some (.int .i64 x.nd.z1) ∧ z.cell? ⟨wr.heap.size, 3, none⟩ = some (.int .i64 x.nd.z2) ∧ z.cell? ⟨wr.heap.size, 4, none⟩ = some (.slice x.a2 x.nd.ls.length x.c2) ∧ z.cell? ⟨wr.heap.size, 5, none⟩ = some (.slice x.a3 x.nd.ts.length x.c3) ∧ z.cell? ⟨w2.heap.size, 0, none⟩ = some (.int .i64 u0) ∧ z.cell? ⟨w2.heap.size, 1, none⟩ = some (.int .i64 u1) ∧ z.cell? ⟨w2.heap.size, 2, none⟩ = some (.int .i64 u2))) := fun z h1 h2 => ⟨h1.cell 0, h1.cell 1, h1.cell 2, h1.cell 3, h1.cell 4, h1.cell 5, h2.cell 0, h2.cell 1, h2.cell 2⟩
      clear hwz hbz hbd HB4 HNZ HOZ HEZ HS2
      refine wp_region_held_drew (S := fun z => z.cell? ⟨wr.heap.size, 0, none⟩ = some (.string x.nd.n) ∧ z.cell? ⟨wr.heap.size, 1, none⟩ = some (.int .i64 x.nd.z0) ∧ z.cell? ⟨wr.heap.size, 2, none⟩ = some (.int .i64 x.nd.z1) ∧ z.cell? ⟨wr.heap.size, 3, none⟩ = some (.int .i64 x.nd.z2) ∧ z.cell? ⟨wr.heap.size, 4, none⟩ = some (.slice x.a2 x.nd.ls.length x.c2) ∧ z.cell? ⟨wr.heap.size, 5, none⟩ = some (.slice x.a3 x.nd.ts.length x.c3) ∧ z.cell? ⟨w2.heap.size, 0, none⟩ = some (.int .i64 u0) ∧ z.cell? ⟨w2.heap.size, 1, none⟩ = some (.int .i64 u1) ∧ z.cell? ⟨w2.heap.size, 2, none⟩ = some (.int .i64 u2)) (by kernel_rfl) (HP.out _ HNd.out HUd.out) (fun hHeld => ?_)
      generalize wz.drew = wd at *
      refine wpAnyH_take (i := 0) (v := ?_) rfl (by kernel_rfl) (by kernel_rfl) (by kernel_rfl) (fun _ _ _ h => h) (Or.inl ⟨by rfl, ?_⟩) (by assumption) ?_
      rotate_left
      · intro z hSz
        obtain ⟨c0, c1, c2, c3, c4, c5, c6, c7, c8⟩ := hSz
        go_simp
        try with_reducible rfl
      try simp only [Act.put, List.setIfInBounds_toArray, List.set_cons_zero, List.set_cons_succ, List.getElem_toArray, List.getElem_cons_zero]
      refine wpAnyH_take (i := 1) (v := ?_) rfl (by kernel_rfl) (by kernel_rfl) (by kernel_rfl) (fun _ _ _ h => h) (Or.inl ⟨by rfl, ?_⟩) (by assumption) ?_
      rotate_left
      · intro z hSz
        obtain ⟨c0, c1, c2, c3, c4, c5, c6, c7, c8⟩ := hSz
        go_simp
        try with_reducible rfl
      try simp only [Act.put, List.setIfInBounds_toArray, List.set_cons_zero, List.set_cons_succ, List.getElem_toArray, List.getElem_cons_succ, List.getElem_cons_zero]
      refine wpAnyH_take (i := 3) (v := ?_) rfl (by kernel_rfl) (by kernel_rfl) (by kernel_rfl) (fun _ _ _ h => h) (Or.inl ⟨by rfl, ?_⟩) (by assumption) ?_
      rotate_left
      · intro z hSz
        obtain ⟨c0, c1, c2, c3, c4, c5, c6, c7, c8⟩ := hSz
        go_simp
        try with_reducible rfl
      try simp only [Act.put, List.setIfInBounds_toArray, List.set_cons_zero, List.set_cons_succ, List.getElem_toArray, List.getElem_cons_succ, List.getElem_cons_zero]
      refine wpAnyH_ready (rs := [2]) (by kernel_rfl) (by simp) ?_
      refine AllReadyH.cons rfl (fun K hK => ?_) AllReadyH.nil
      go_simp
      refine (copy_n x wd HXd.out HDX.out.2).mono ?_
      rintro e w5 ⟨y, hy, rfl, hoy, hb⟩
      have HB6 : Hid (Below w1.heap.size w1 w5) := HBd.out.trans (hb.mono HBd.out.size)
      have HN6 := Lib.hid (HNd.out.below hb)
      have HU6 := Lib.hid (HUd.out.below hb)
      have HO6 := Lib.hid (HOd.out.keep hb)
      have HE6 : Hid (∀ L ∈ ls, OwnN w5 w1.heap.size L.x ∧ FitN L.x.nd) := fun L hL => ⟨(HEd.out L hL).1.keep hb, (HEd.out L hL).2⟩
      have HOY := Lib.hid (hoy.le HBd.out.size)
      have HYN : Hid (y.nd = x.nd) := hy
      clear hb hoy hy HBd HNd HUd HOd HXd HEd
      refine hK.out _ _ (HP.out _ HN6.out HU6.out) (fun hHeld2 => ?_)
      clear hK K hHeld
      have hHeld := hHeld2
      clear hHeld2
      try simp only [Act.put, List.setIfInBounds_toArray, List.set_cons_zero, List.set_cons_succ, List.getElem_toArray, List.getElem_cons_succ, List.getElem_cons_zero]
      refine wpAnyH_take (i := 4) (v := ?_) rfl (by kernel_rfl) (by kernel_rfl) (by kernel_rfl) (fun _ _ _ h => h) (Or.inl ⟨by rfl, ?_⟩) (by assumption) ?_
      rotate_left
      · intro z hSz
        obtain ⟨c0, c1, c2, c3, c4, c5, c6, c7, c8⟩ := hSz
        go_simp
        try with_reducible rfl
      try simp only [Act.put, List.setIfInBounds_toArray, List.set_cons_zero, List.set_cons_succ, List.getElem_toArray, List.getElem_cons_succ, List.getElem_cons_zero]
      refine wpAnyH_ready (rs := [5]) (by kernel_rfl) (by simp) ?_
      refine AllReadyH.cons rfl (fun K hK => ?_) AllReadyH.nil
      go_simp
      have ha : Below w5.heap.size w5 (w5.alloc (.cells #[.string y.nd.n, .int .i64 y.nd.z0, .int .i64 y.nd.z1, .int .i64 y.nd.z2, .slice y.a2 y.nd.ls.length y.c2, .slice y.a3 y.nd.ts.length y.c3, .int .i64 u0, .int .i64 u1, .int .i64 u2] 47)) := al _ _
      have HB7 : Hid (Below w1.heap.size w1 (w5.alloc (.cells #[.string y.nd.n, .int .i64 y.nd.z0, .int .i64 y.nd.z1, .int .i64 y.nd.z2, .slice y.a2 y.nd.ls.length y.c2, .slice y.a3 y.nd.ts.length y.c3, .int .i64 u0, .int .i64 u1, .int .i64 u2] 47))) := HB6.out.trans (ha.mono HB6.out.size)
      have HN7 := Lib.hid (HN6.out.below ha)
      have HU7 := Lib.hid (HU6.out.below ha)
      have HO7 := Lib.hid (HO6.out.keep ha)
      have HE7 : Hid (∀ L ∈ ls, OwnN (w5.alloc (.cells #[.string y.nd.n, .int .i64 y.nd.z0, .int .i64 y.nd.z1, .int .i64 y.nd.z2, .slice y.a2 y.nd.ls.length y.c2, .slice y.a3 y.nd.ts.length y.c3, .int .i64 u0, .int .i64 u1, .int .i64 u2] 47)) w1.heap.size L.x ∧ FitN L.x.nd) := fun L hL => ⟨(HE6.out L hL).1.keep ha, (HE6.out L hL).2⟩
      have HOZ := Lib.hid (HOY.out.keep ha)
      have HSL : Hid (Sl (w5.alloc (.cells #[.string y.nd.n, .int .i64 y.nd.z0, .int .i64 y.nd.z1, .int .i64 y.nd.z2, .slice y.a2 y.nd.ls.length y.c2, .slice y.a3 y.nd.ts.length y.c3, .int .i64 u0, .int .i64 u1, .int .i64 u2] 47)) w5.heap.size (w5.alloc (.cells #[.string y.nd.n, .int .i64 y.nd.z0, .int .i64 y.nd.z1, .int .i64 y.nd.z2, .slice y.a2 y.nd.ls.length y.c2, .slice y.a3 y.nd.ts.length y.c3, .int .i64 u0, .int .i64 u1, .int .i64 u2] 47)).heap.size (.slice (some ⟨w5.heap.size, 0, none⟩) 1 1) [(⟨y, u0, u1, u2⟩ : LdM)]) := sl_one w5 (⟨y, u0, u1, u2⟩ : LdM) _
      clear ha HB6 HN6 HU6 HO6 HOY HE6
      refine hK.out _ _ (HP.out _ HN7.out HU7.out) (fun hHeld2 => ?_)
      clear hK K hHeld
      have hHeld := hHeld2
      clear hHeld2
      try simp only [Act.put, List.setIfInBounds_toArray, List.set_cons_zero, List.set_cons_succ, List.getElem_toArray, List.getElem_cons_succ, List.getElem_cons_zero]
      refine wpAnyH_ready (rs := [6]) (by kernel_rfl) (by simp) ?_
      refine AllReadyH.cons rfl (fun K hK => ?_) AllReadyH.nil
      obtain ⟨i0, hi0, hz0, hz1, hz2⟩ := info_parts info_ld
      have hbs6 : w1.heap.size ≤ (w5.alloc (.cells #[.string y.nd.n, .int .i64 y.nd.z0, .int .i64 y.nd.z1, .int .i64 y.nd.z2, .slice y.a2 y.nd.ls.length y.c2, .slice y.a3 y.nd.ts.length y.c3, .int .i64 u0, .int .i64 u1, .int .i64 u2] 47)).heap.size := HB7.out.size
      obtain ⟨v7, w7, hr, ho7, hg7, -⟩ := run_app (P := Tryz.prog) (ty := 31) Tryz.underlying31 hi0 hz0 hz1 hz2 rfl HO7.out HSL.out (by have := HLL.out; simp; omega) (by have := HLL.out; simp; omega) hbs6
      refine step_app rfl (.tmp 26) (.tmp 31) 31 rfl _ _ _ rfl rfl hr ?_
      clear hr
      have HB8 : Hid (Below w1.heap.size w1 w7) := HB7.out.grown hg7 HB7.out.size (fun q e => (HO7.out.lt q e).1)
      have HN8 := Lib.hid (bxn_grown HN7.out hg7 (fun e => by have := (HVA.out _ e).2; omega))
      have HU8 := Lib.hid (bxn_grown HU7.out hg7 (fun e => by have := (HVA.out _ e).2; have := HZ2.out; omega))
      have HE8 : Hid (∀ L ∈ ls ++ [(⟨y, u0, u1, u2⟩ : LdM)], OwnN w7 w1.heap.size L.x ∧ FitN L.x.nd) := fun L hL => by
        rcases List.mem_append.1 hL with h | h
        · exact ⟨(HE7.out L h).1.off HO7.out (by decide) hg7, (HE7.out L h).2⟩
        · rw [List.mem_singleton.1 h]; exact ⟨HOZ.out.off HO7.out (by decide) hg7, by show FitN y.nd; rw [HYN.out]; exact HDX.out.2⟩
      have HO8 := Lib.hid ho7
      clear ho7 hg7 hbs6 HB7 HN7 HU7 HO7 HOZ HSL HE7
      refine hK.out _ _ (HP.out _ HN8.out HU8.out) (fun hHeld2 => ?_)
      clear hK K hHeld
      have hHeld := hHeld2
      clear hHeld2
      try simp only [Act.put, List.setIfInBounds_toArray, List.set_cons_zero, List.set_cons_succ, List.getElem_toArray, List.getElem_cons_succ, List.getElem_cons_zero]
      refine wpAnyH_take (i := 7) (v := ?_) rfl (by kernel_rfl) (by kernel_rfl) (by kernel_rfl) (fun _ _ _ h => h) (Or.inl ⟨by rfl, ?_⟩) (by assumption) ?_
      rotate_left
      · intro z hSz
        obtain ⟨c0, c1, c2, c3, c4, c5, c6, c7, c8⟩ := hSz
        go_simp
        try with_reducible rfl
      try simp only [Act.put, List.setIfInBounds_toArray, List.set_cons_zero, List.set_cons_succ, List.getElem_toArray, List.getElem_cons_succ, List.getElem_cons_zero]
      refine wpAnyH_done (by kernel_rfl) ?_ _
      clear hHeld
      go_wp2
      go_roundg gg
      case measure => omega
      case rel => exact ⟨q + 1, ls ++ [(⟨y, u0, u1, u2⟩ : LdM)], by have := HKG.out; omega, by simp, HO8.out, by rw [HTK.out, List.map_append, HML.out, List.map_singleton, HUE.out, ← HYN.out]; exact rfl, HE8.out, HB8.out⟩
theorem lrf_any (b : Bk) (vn vt vb : Value) (w : World) (hB : Books w w.heap.size vn vt vb b) : Calls Tryz.prog 15 #[.agg #[vn, vt, vb, .int .u64 (b.fe : Nat)]] w (LrfIs b w) := by
  cases hc : chkB b
  · exact lrf_no b vn vt vb w hB hc
  · exact lrf_ok b vn vt vb w hB hc
end Bo
end Go.Proofs.YthbmnkeigmbbdaaGreat

/- WHO WAITS, by the document: gafferref11.Waiting. -/
namespace Go.Proofs.YthbmnkeigmbbdaaGreat
open Go.RowKit Go.Lib
namespace Bo
open Rw
set_option linter.unusedVariables false
set_option maxRecDepth 100000 in
set_option maxHeartbeats 4000000 in
theorem wrf_no (b : Bk) (vn vt vb : Value) (w : World) (hB : Books w w.heap.size vn vt vb b) (hc : chkB b = false) : Calls Tryz.prog 13 #[.agg #[vn, vt, vb, .int .u64 (b.fe : Nat)]] w (WaitIs b w) := by
  have HR : Hid (∀ w', Below w.heap.size w w' → WaitIs b w (.returned (.tuple #[.slice none 0 0, .int .i64 10])) w') := fun w' h => ⟨.slice none 0 0, [], by rw [hc]; rfl, Own.nil _ _ _, by rw [hc]; rfl, by simp, h⟩
  obtain ⟨W0, hW0⟩ : ∃ W0, W0 = w.alloc (.cells #[vn, vt, vb, .int .u64 (b.fe : Nat)] 27) := ⟨_, rfl⟩
  have hb0 : Below w.heap.size w W0 := by rw [hW0]; exact al w _
  have hx0 : Hd.Bxn W0 w.heap.size [vn, vt, vb, .int .u64 (b.fe : Nat)] := by rw [hW0]; exact Hd.Bxn.made w _ _
  have HCK : Hid (∀ z, Below w.heap.size w z → Calls Tryz.prog 39 #[.agg #[vn, vt, vb, .int .u64 (b.fe : Nat)]] z fun e w' => e = .returned (.int .i64 10) ∧ Below z.heap.size z w') := fun z hz => by
    have h := check_ref8 b vn vt vb z (hB.on hz)
    rw [hc] at h
    exact h
  obtain ⟨an, cn, hvn⟩ := hB.hn.slice
  obtain ⟨at', ct, hvt⟩ := hB.ht.slice
  obtain ⟨ab, cb, hvb⟩ := hB.hb.slice
  subst hvn hvt hvb
  have HW := Lib.hid hW0
  have HX0 : Hid (Hd.Bxn W0 w.heap.size [.slice an b.ns.length cn, .slice at' b.ts.length ct, .slice ab b.bs.length cb, .int .u64 (b.fe : Nat)]) := hx0
  have HB0 := Lib.hid hb0
  clear hW0 hb0 hx0
  clear hc
  go_enter Tryz.func13, Tryz.ntmps13
  go_upto_region 1 with fail
  rw [← HW.out]
  have b0 : W0.cell? ⟨w.heap.size, 0, none⟩ = some (.slice an b.ns.length cn) := HX0.out.cell 0
  have b1 : W0.cell? ⟨w.heap.size, 1, none⟩ = some (.slice at' b.ts.length ct) := HX0.out.cell 1
  have b2 : W0.cell? ⟨w.heap.size, 2, none⟩ = some (.slice ab b.bs.length cb) := HX0.out.cell 2
  have b3 : W0.cell? ⟨w.heap.size, 3, none⟩ = some (.int .u64 (b.fe : Nat)) := HX0.out.cell 3
  go_wp2_with fail
  refine (HCK.out W0 HB0.out).mono ?_
  rintro e w1 ⟨rfl, hb⟩
  have H1 : Hid (Below w.heap.size w w1) := HB0.out.trans (hb.mono HB0.out.size)
  have HX1 := Lib.hid (HX0.out.below hb)
  clear hb b0 b1 b2 b3 HX0 HCK HW HB0
  clear hB
  go_wp2
  go_ret2
  exact HR.out _ H1.out
set_option maxRecDepth 100000 in
set_option maxHeartbeats 4000000 in
theorem wrf_ok (b : Bk) (vn vt vb : Value) (w : World) (hB : Books w w.heap.size vn vt vb b) (hc : chkB b = true) : Calls Tryz.prog 13 #[.agg #[vn, vt, vb, .int .u64 (b.fe : Nat)]] w (WaitIs b w) := by
  have HR : Hid (∀ (v : Value) (m : List TdM) (w' : World), Own w' w.heap.size 42 v m → m.map (·.td) = wtV b → (∀ y ∈ m, OwnT w' w.heap.size y) → Below w.heap.size w w' → WaitIs b w (.returned (.tuple #[v, .int .i64 0])) w') := fun v m w' h1 h2 h3 h4 => ⟨v, m, by rw [hc]; rfl, h1, by rw [hc, if_pos rfl]; exact h2, h3, h4⟩
  have HRB := Lib.hid (rb_of_chk hc)
  obtain ⟨W0, hW0⟩ : ∃ W0, W0 = w.alloc (.cells #[vn, vt, vb, .int .u64 (b.fe : Nat)] 27) := ⟨_, rfl⟩
  have hb0 : Below w.heap.size w W0 := by rw [hW0]; exact al w _
  have hx0 : Hd.Bxn W0 w.heap.size [vn, vt, vb, .int .u64 (b.fe : Nat)] := by rw [hW0]; exact Hd.Bxn.made w _ _
  have HCK : Hid (∀ z, Below w.heap.size w z → Calls Tryz.prog 39 #[.agg #[vn, vt, vb, .int .u64 (b.fe : Nat)]] z fun e w' => e = .returned (.int .i64 0) ∧ Below z.heap.size z w') := fun z hz => by
    have h := check_ref8 b vn vt vb z (hB.on hz)
    rw [hc] at h
    exact h
  have HON : Hid (∀ k z, Below w.heap.size w z → Calls Tryz.prog 40 #[.agg #[vn, vt, vb, .int .u64 (b.fe : Nat)], .string k] z fun e w' => e = .returned (.string (onF b.bs k)) ∧ Below z.heap.size z w') := fun k z hz => On_ix b vn vt vb k z (hB.on hz)
  obtain ⟨an, cn, hvn⟩ := hB.hn.slice
  obtain ⟨at', ct, hvt⟩ := hB.ht.slice
  obtain ⟨ab, cb, hvb⟩ := hB.hb.slice
  subst hvn hvt hvb
  have HW := Lib.hid hW0
  have HX0 : Hid (Hd.Bxn W0 w.heap.size [.slice an b.ns.length cn, .slice at' b.ts.length ct, .slice ab b.bs.length cb, .int .u64 (b.fe : Nat)]) := hx0
  have HB0 := Lib.hid hb0
  clear hW0 hb0 hx0
  clear hc
  go_enter Tryz.func13, Tryz.ntmps13
  go_upto_region 1 with fail
  rw [← HW.out]
  have b0 : W0.cell? ⟨w.heap.size, 0, none⟩ = some (.slice an b.ns.length cn) := HX0.out.cell 0
  have b1 : W0.cell? ⟨w.heap.size, 1, none⟩ = some (.slice at' b.ts.length ct) := HX0.out.cell 1
  have b2 : W0.cell? ⟨w.heap.size, 2, none⟩ = some (.slice ab b.bs.length cb) := HX0.out.cell 2
  have b3 : W0.cell? ⟨w.heap.size, 3, none⟩ = some (.int .u64 (b.fe : Nat)) := HX0.out.cell 3
  go_wp2_with fail
  refine (HCK.out W0 HB0.out).mono ?_
  rintro e w1 ⟨rfl, hb⟩
  have H1 : Hid (Below w.heap.size w w1) := HB0.out.trans (hb.mono HB0.out.size)
  have HX1 := Lib.hid (HX0.out.below hb)
  clear hb b0 b1 b2 b3 HX0 HCK HW HB0
  obtain ⟨mt, hmt, hst, hdt, -⟩ := hB.ht
  have hlen : b.ts.length = mt.length := by rw [hmt, List.length_map]
  have HLN : Hid (mt.length ≤ 32) := by have h1 := HRB.out.lt; rw [hlen] at h1; exact h1
  have HDT : Hid (∀ x ∈ mt, DeepT w w.heap.size x ∧ FitT x.td) := hdt
  have HTS : Hid (b.ts = mt.map (·.td)) := hmt
  have hst3 := hst.on H1.out
  obtain ⟨av, cv, hav, hcap, -, hlenb, hcells⟩ := hst3
  simp only [Value.slice.injEq] at hav
  obtain ⟨rfl, -, rfl⟩ := hav
  have HC := Lib.hid hcells
  clear hB hmt hst hdt hcap hlenb hcells
  rw [hlen] at HX1 HON
  have b1 : w1.cell? ⟨w.heap.size, 1, none⟩ = some (.slice at' mt.length ct) := HX1.out.cell 1
  clear hlen
  go_wp2
  clear b1
  go_loopg [4, 14] mt.length (fun gg sv i wx => ∃ (q : Nat) (m : List TdM), q + gg = mt.length ∧ i = .int .i64 q ∧ Aside (Own wx w1.heap.size 42 sv m) ∧ Aside (m.map (·.td) = srtT (wtL ((mt.map (·.td)).take q) b.bs)) ∧ Aside (∀ y ∈ m, OwnT wx w1.heap.size y ∧ FitT y.td) ∧ Aside (Below w1.heap.size w1 wx))
  case atStart => exact ⟨0, [], by omega, rfl, Own.nil _ _ _, rfl, (by unfold Aside; simp), Below.refl _ _⟩
  case round =>
    obtain ⟨q, m, hkg, rfl, HA, HM0, HE0, HB⟩ := hrel
    obtain ⟨wr0, rfl⟩ : ∃ z, z = wr := ⟨wr, rfl⟩
    have HMR : Hid (m.map (·.td) = srtT (wtL ((mt.map (·.td)).take q) b.bs)) := HM0.out
    have HER : Hid (∀ y ∈ m, OwnT wr0 w1.heap.size y ∧ FitT y.td) := HE0.out
    clear HM0 HE0
    cases gk with
    | zero =>
      obtain rfl : q = mt.length := by omega
      have HF := Lib.hid (HR.out u4 m wr0 (HA.out.le H1.out.size) (by have h := HMR.out; rw [List.take_of_length_le (by rw [List.length_map]; omega), ← HTS.out] at h; exact h) (fun y hy => (HER.out y hy).1.le H1.out.size) (H1.out.trans (HB.out.mono H1.out.size)))
      clear hkg HA
      go_wp2
      go_ret2
      exact HF.out
    | succ gg =>
      have hlk : q < mt.length := by omega
      have t2 : (q : Int) < (mt.length : Int) := by omega
      have t3 : IntKind.i64.wrap ((q : Int) + 1) = (q : Int) + 1 := by rw [IntKind.wrap_i64]; have := HLN.out; omega
      obtain ⟨g, off, rfl, -, hgl, hat⟩ := HC.out (by omega)
      have hatk : At w1 g (off + q * 9) mt[q] := hat q hlk
      obtain ⟨d0', d1', d2', d3', d4', d5', d6', d7', d8'⟩ := at_td hatk
      have e0 := (HB.out.cell (by exact hgl)).trans d0'
      have e1 := (HB.out.cell (by exact hgl)).trans d1'
      have e2 := (HB.out.cell (by exact hgl)).trans d2'
      have e3 := (HB.out.cell (by exact hgl)).trans d3'
      have e4 := (HB.out.cell (by exact hgl)).trans d4'
      have e5 := (HB.out.cell (by exact hgl)).trans d5'
      have e6 := (HB.out.cell (by exact hgl)).trans d6'
      have e7 := (HB.out.cell (by exact hgl)).trans d7'
      have e8 := (HB.out.cell (by exact hgl)).trans d8'
      have HXR := Lib.hid (HX1.out.below HB.out)
      have HDX := Lib.hid (HDT.out mt[q] (List.getElem_mem hlk))
      have hlq : q < (mt.map (·.td)).length := by rw [List.length_map]; exact hlk
      have hgq : (mt.map (·.td))[q] = mt[q].td := List.getElem_map _
      have HYES : Hid (hasK (b.bs.map (·.k)) mt[q].td.n = false → srtT (wtL ((mt.map (·.td)).take (q + 1)) b.bs) = insT mt[q].td (srtT (wtL ((mt.map (·.td)).take q) b.bs))) := fun h => by have h2 := wt_yes (bs := b.bs) hlq (by rw [hgq]; exact h); rw [hgq] at h2; exact h2
      have HNOT : Hid (hasK (b.bs.map (·.k)) mt[q].td.n = true → srtT (wtL ((mt.map (·.td)).take (q + 1)) b.bs) = srtT (wtL ((mt.map (·.td)).take q) b.bs)) := fun h => wt_no hlq (by rw [hgq]; exact h)
      have HLL : Hid (m.length ≤ 32) := by
        show _ ≤ _
        have h1 := congrArg List.length HMR.out
        rw [List.length_map, srt_len] at h1
        have h2 := List.length_filter_le (fun t : Hd.Td => !hasK (b.bs.map (·.k)) t.n) ((mt.map (·.td)).take q)
        unfold wtL at h1
        rw [List.length_take, List.length_map] at h2
        have := HLN.out
        omega
      have HKG := Lib.hid hkg
      have HAO : Hid (Own wr0 w1.heap.size 42 u4 m) := HA.out
      clear d0' d1' d2' d3' d4' d5' d6' d7' d8' hatk hat hgl hkg HA hlq hgq
      generalize mt[q] = x at *
      clear hlk
      obtain ⟨wy, hwy⟩ : ∃ wy, wy = wr0.alloc (.cells #[.string x.td.n, .int .i64 x.td.z0, .int .i64 x.td.z1, .int .i64 x.td.z2, .slice x.a4 x.td.ws.length x.c4, .slice x.a5 x.td.bs.length x.c5, .string x.td.g, .string x.td.a, .int .i64 x.td.r] 42) := ⟨_, rfl⟩
      have HBX0 : Hid (Hd.Bxn wy wr0.heap.size [.string x.td.n, .int .i64 x.td.z0, .int .i64 x.td.z1, .int .i64 x.td.z2, .slice x.a4 x.td.ws.length x.c4, .slice x.a5 x.td.bs.length x.c5, .string x.td.g, .string x.td.a, .int .i64 x.td.r]) := by rw [hwy]; exact Hd.Bxn.made wr0 _ _
      have HYB : Hid (Below wr0.heap.size wr0 wy) := by rw [hwy]; exact al _ _
      have HWY := Lib.hid hwy
      clear hwy
      go_upto_region 7 with fail
      rw [← HWY.out]
      clear e0 e1 e2 e3 e4 e5 e6 e7 e8
      have HXY := Lib.hid (HXR.out.below HYB.out)
      have HBY : Hid (Below w1.heap.size w1 wy) := HB.out.trans (HYB.out.mono HB.out.size)
      have HOY := Lib.hid (HAO.out.keep HYB.out)
      have HEY : Hid (∀ y ∈ m, OwnT wy w1.heap.size y ∧ FitT y.td) := fun y hy => ⟨(HER.out y hy).1.keep HYB.out, (HER.out y hy).2⟩
      have q0 : wy.cell? ⟨w.heap.size, 0, none⟩ = some (.slice an b.ns.length cn) := HXY.out.cell 0
      have q1 : wy.cell? ⟨w.heap.size, 1, none⟩ = some (.slice (some ⟨g, off, none⟩) mt.length ct) := HXY.out.cell 1
      have q2 : wy.cell? ⟨w.heap.size, 2, none⟩ = some (.slice ab b.bs.length cb) := HXY.out.cell 2
      have q3 : wy.cell? ⟨w.heap.size, 3, none⟩ = some (.int .u64 (b.fe : Nat)) := HXY.out.cell 3
      have n0 : wy.cell? ⟨wr0.heap.size, 0, none⟩ = some (.string x.td.n) := HBX0.out.cell 0
      clear HWY HXR HB HAO HYB HER
      go_wp2_with fail
      refine (HON.out x.td.n wy (H1.out.trans (HBY.out.mono H1.out.size))).mono ?_
      rintro e w3 ⟨rfl, hb⟩
      have HBX := Lib.hid (HBX0.out.below hb)
      have HB3 : Hid (Below w1.heap.size w1 w3) := HBY.out.trans (hb.mono HBY.out.size)
      have HOM := Lib.hid (HOY.out.keep hb)
      have HEM : Hid (∀ y ∈ m, OwnT w3 w1.heap.size y ∧ FitT y.td) := fun y hy => ⟨(HEY.out y hy).1.keep hb, (HEY.out y hy).2⟩
      clear hb q0 q1 q2 q3 n0 HBX0 HBY HOY HXY HEY
      cases hon : hasK (b.bs.map (·.k)) x.td.n
      · have HWT := Lib.hid (HYES.out hon)
        have HMT : Hid (m.map (·.td) = srtT (wtL ((mt.map (·.td)).take q) b.bs)) := HMR.out
        rw [on_nil hon]
        clear hon HYES HNOT HMR
        have H3 : Hid (Below w.heap.size w w3) := H1.out.trans (HB3.out.mono H1.out.size)
        obtain ⟨qa, qc, hsv⟩ := HOM.out.slice
        subst hsv
        go_wp2
        go_loopg [7] m.length (fun gj i wx => ∃ j : Nat, j + gj = m.length ∧ i = .int .i64 j ∧ Aside (j ≤ posT x.td (m.map (·.td))) ∧ Aside (Below w3.heap.size w3 wx))
        case atStart => exact ⟨0, by omega, rfl, Nat.zero_le _, Below.refl _ _⟩
        case round =>
          obtain ⟨j, hjg, rfl, HJ0, HVJ0⟩ := hrel
          obtain ⟨wj, rfl⟩ : ∃ z, z = wr := ⟨wr, rfl⟩
          have HVJ : Hid (Below w3.heap.size w3 wj) := HVJ0.out
          have HJL : Hid (j ≤ posT x.td (m.map (·.td))) := HJ0.out
          clear HJ0 HVJ0
          by_cases hjl : j < m.length
          · have u2 : (j : Int) < (m.length : Int) := by omega
            have u2b : decide ((j : Int) < (m.length : Int)) = true := decide_eq_true u2
            have u3 : IntKind.i64.wrap ((j : Int) + 1) = (j : Int) + 1 := by rw [IntKind.wrap_i64]; have := HLL.out; omega
            have u4' : (0 : Int) ≤ (j : Int) := by omega
            obtain ⟨gj, rfl⟩ : ∃ g, gk = g + 1 := ⟨gk - 1, by omega⟩
            have HJG := Lib.hid hjg
            clear hjg
            obtain ⟨gy, cy, hv, -, hgl, hat, -⟩ := HOM.out.form (by omega)
            simp only [Value.slice.injEq] at hv
            obtain ⟨rfl, -, rfl⟩ := hv
            have hmj : (m.map (·.td))[j]'(by rw [List.length_map]; exact hjl) = m[j].td := List.getElem_map _
            have haj : At w3 gy (j * 9) m[j] := hat j hjl
            have HST : Hid (ahB m[j].td x.td = true → j + 1 ≤ posT x.td (m.map (·.td))) := fun h => pos_step (by rw [List.length_map]; exact hjl) HJL.out (by rw [hmj]; exact h)
            have HSP0 : Hid (ahB m[j].td x.td = false → j = posT x.td (m.map (·.td))) := fun h => pos_stop (by rw [List.length_map]; exact hjl) HJL.out (by rw [hmj]; exact h)
            have HJM : Hid (j ≤ m.length) := by show _ ≤ _; omega
            generalize m[j] = y at *
            have HSK : Hid (∀ z, Below w3.heap.size w3 z → (z.cell? ⟨gy, j * 9, none⟩ = some (.string y.td.n) ∧ z.cell? ⟨gy, j * 9 + 1, none⟩ = some (.int .i64 y.td.z0) ∧ z.cell? ⟨gy, j * 9 + 2, none⟩ = some (.int .i64 y.td.z1) ∧ z.cell? ⟨gy, j * 9 + 3, none⟩ = some (.int .i64 y.td.z2) ∧ z.cell? ⟨gy, j * 9 + 4, none⟩ = some (.slice y.a4 y.td.ws.length y.c4) ∧ z.cell? ⟨gy, j * 9 + 5, none⟩ = some (.slice y.a5 y.td.bs.length y.c5) ∧ z.cell? ⟨gy, j * 9 + 6, none⟩ = some (.string y.td.g) ∧ z.cell? ⟨gy, j * 9 + 7, none⟩ = some (.string y.td.a) ∧ z.cell? ⟨gy, j * 9 + 8, none⟩ = some (.int .i64 y.td.r) ∧ z.cell? ⟨wr0.heap.size, 0, none⟩ = some (.string x.td.n) ∧ z.cell? ⟨wr0.heap.size, 1, none⟩ = some (.int .i64 x.td.z0) ∧ z.cell? ⟨wr0.heap.size, 2, none⟩ = some (.int .i64 x.td.z1) ∧ z.cell? ⟨wr0.heap.size, 3, none⟩ = some (.int .i64 x.td.z2) ∧ z.cell? ⟨wr0.heap.size, 4, none⟩ = some (.slice x.a4 x.td.ws.length x.c4) ∧ z.cell? ⟨wr0.heap.size, 5, none⟩ = some (.slice x.a5 x.td.bs.length x.c5) ∧ z.cell? ⟨wr0.heap.size, 6, none⟩ = some (.string x.td.g) ∧ z.cell? ⟨wr0.heap.size, 7, none⟩ = some (.string x.td.a) ∧ z.cell? ⟨wr0.heap.size, 8, none⟩ = some (.int .i64 x.td.r))) := fun z hz => ⟨(hz.cell (by exact hgl)).trans (haj 0 _ rfl), (hz.cell (by exact hgl)).trans (haj 1 _ rfl), (hz.cell (by exact hgl)).trans (haj 2 _ rfl), (hz.cell (by exact hgl)).trans (haj 3 _ rfl), (hz.cell (by exact hgl)).trans (haj 4 _ rfl), (hz.cell (by exact hgl)).trans (haj 5 _ rfl), (hz.cell (by exact hgl)).trans (haj 6 _ rfl), (hz.cell (by exact hgl)).trans (haj 7 _ rfl), (hz.cell (by exact hgl)).trans (haj 8 _ rfl), (HBX.out.below hz).cell 0, (HBX.out.below hz).cell 1, (HBX.out.below hz).cell 2, (HBX.out.below hz).cell 3, (HBX.out.below hz).cell 4, (HBX.out.below hz).cell 5, (HBX.out.below hz).cell 6, (HBX.out.below hz).cell 7, (HBX.out.below hz).cell 8⟩
            have HSP := Lib.hid (HSK.out wj.drew (below_drew HVJ.out))
            clear hat haj hgl hmj
            go_upto_region 9 with fail
            cases hah : ahB y.td x.td
            case' false =>
              have HAJ : Hid (ahB y.td x.td = false) := hah
              have HJP : Hid (j = posT x.td (m.map (·.td))) := HSP0.out hah
            case' true =>
              have HAJ : Hid (ahB y.td x.td = true) := hah
              have HJN : Hid (j + 1 ≤ posT x.td (m.map (·.td))) := HST.out hah
            all_goals
              clear hah HST HSP0 hjl
              refine wp_region_held_drew (S := fun z => z.cell? ⟨gy, j * 9, none⟩ = some (.string y.td.n) ∧ z.cell? ⟨gy, j * 9 + 1, none⟩ = some (.int .i64 y.td.z0) ∧ z.cell? ⟨gy, j * 9 + 2, none⟩ = some (.int .i64 y.td.z1) ∧ z.cell? ⟨gy, j * 9 + 3, none⟩ = some (.int .i64 y.td.z2) ∧ z.cell? ⟨gy, j * 9 + 4, none⟩ = some (.slice y.a4 y.td.ws.length y.c4) ∧ z.cell? ⟨gy, j * 9 + 5, none⟩ = some (.slice y.a5 y.td.bs.length y.c5) ∧ z.cell? ⟨gy, j * 9 + 6, none⟩ = some (.string y.td.g) ∧ z.cell? ⟨gy, j * 9 + 7, none⟩ = some (.string y.td.a) ∧ z.cell? ⟨gy, j * 9 + 8, none⟩ = some (.int .i64 y.td.r) ∧ z.cell? ⟨wr0.heap.size, 0, none⟩ = some (.string x.td.n) ∧ z.cell? ⟨wr0.heap.size, 1, none⟩ = some (.int .i64 x.td.z0) ∧ z.cell? ⟨wr0.heap.size, 2, none⟩ = some (.int .i64 x.td.z1) ∧ z.cell? ⟨wr0.heap.size, 3, none⟩ = some (.int .i64 x.td.z2) ∧ z.cell? ⟨wr0.heap.size, 4, none⟩ = some (.slice x.a4 x.td.ws.length x.c4) ∧ z.cell? ⟨wr0.heap.size, 5, none⟩ = some (.slice x.a5 x.td.bs.length x.c5) ∧ z.cell? ⟨wr0.heap.size, 6, none⟩ = some (.string x.td.g) ∧ z.cell? ⟨wr0.heap.size, 7, none⟩ = some (.string x.td.a) ∧ z.cell? ⟨wr0.heap.size, 8, none⟩ = some (.int .i64 x.td.r)) (by kernel_rfl) HSP.out (fun hHeld => ?_)
              refine wpAnyH_take (i := 0) (v := ?_) rfl (by kernel_rfl) (by kernel_rfl) (by kernel_rfl) (fun _ _ _ h => h) (Or.inl ⟨by rfl, ?_⟩) (by assumption) ?_
              rotate_left
              · intro z hSz
                obtain ⟨c0, c1, c2, c3, c4, c5, c6, c7, c8, c9, c10, c11, c12, c13, c14, c15, c16, c17⟩ := hSz
                go_simp
                try with_reducible rfl
              try simp only [Act.put, List.setIfInBounds_toArray, List.set_cons_zero, List.set_cons_succ, List.getElem_toArray, List.getElem_cons_zero]
              refine wpAnyH_take (i := 1) (v := ?_) rfl (by kernel_rfl) (by kernel_rfl) (by kernel_rfl) (fun _ _ _ h => h) (Or.inl ⟨by rfl, ?_⟩) (by assumption) ?_
              rotate_left
              · intro z hSz
                obtain ⟨c0, c1, c2, c3, c4, c5, c6, c7, c8, c9, c10, c11, c12, c13, c14, c15, c16, c17⟩ := hSz
                go_simp
                try with_reducible rfl
              try simp only [Act.put, List.setIfInBounds_toArray, List.set_cons_zero, List.set_cons_succ, List.getElem_toArray, List.getElem_cons_succ, List.getElem_cons_zero]
              refine wpAnyH_take (i := 2) (v := ?_) rfl (by kernel_rfl) (by kernel_rfl) (by kernel_rfl) (fun _ _ _ h => h) (Or.inl ⟨by rfl, ?_⟩) (by assumption) ?_
              rotate_left
              · intro z hSz
                obtain ⟨c0, c1, c2, c3, c4, c5, c6, c7, c8, c9, c10, c11, c12, c13, c14, c15, c16, c17⟩ := hSz
                go_simp
                try with_reducible rfl
              try simp only [Act.put, List.setIfInBounds_toArray, List.set_cons_zero, List.set_cons_succ, List.getElem_toArray, List.getElem_cons_succ, List.getElem_cons_zero]
              refine wpAnyH_take (i := 3) (v := ?_) rfl (by kernel_rfl) (by kernel_rfl) (by kernel_rfl) (fun _ _ _ h => h) (Or.inl ⟨by rfl, ?_⟩) (by assumption) ?_
              rotate_left
              · intro z hSz
                obtain ⟨c0, c1, c2, c3, c4, c5, c6, c7, c8, c9, c10, c11, c12, c13, c14, c15, c16, c17⟩ := hSz
                go_simp
                try with_reducible rfl
              try simp only [Act.put, List.setIfInBounds_toArray, List.set_cons_zero, List.set_cons_succ, List.getElem_toArray, List.getElem_cons_succ, List.getElem_cons_zero]
              refine wpAnyH_take (i := 4) (v := ?_) rfl (by kernel_rfl) (by kernel_rfl) (by kernel_rfl) (fun _ _ _ h => h) (Or.inl ⟨by rfl, ?_⟩) (by assumption) ?_
              rotate_left
              · intro z hSz
                obtain ⟨c0, c1, c2, c3, c4, c5, c6, c7, c8, c9, c10, c11, c12, c13, c14, c15, c16, c17⟩ := hSz
                go_simp
                try with_reducible rfl
              try simp only [Act.put, List.setIfInBounds_toArray, List.set_cons_zero, List.set_cons_succ, List.getElem_toArray, List.getElem_cons_succ, List.getElem_cons_zero]
              refine wpAnyH_take (i := 5) (v := ?_) rfl (by kernel_rfl) (by kernel_rfl) (by kernel_rfl) (fun _ _ _ h => h) (Or.inl ⟨by rfl, ?_⟩) (by assumption) ?_
              rotate_left
              · intro z hSz
                obtain ⟨c0, c1, c2, c3, c4, c5, c6, c7, c8, c9, c10, c11, c12, c13, c14, c15, c16, c17⟩ := hSz
                go_simp
                try with_reducible rfl
              try simp only [Act.put, List.setIfInBounds_toArray, List.set_cons_zero, List.set_cons_succ, List.getElem_toArray, List.getElem_cons_succ, List.getElem_cons_zero]
              refine wpAnyH_take (i := 6) (v := ?_) rfl (by kernel_rfl) (by kernel_rfl) (by kernel_rfl) (fun _ _ _ h => h) (Or.inl ⟨by rfl, ?_⟩) (by assumption) ?_
              rotate_left
              · intro z hSz
                obtain ⟨c0, c1, c2, c3, c4, c5, c6, c7, c8, c9, c10, c11, c12, c13, c14, c15, c16, c17⟩ := hSz
                go_simp
                try with_reducible rfl
              try simp only [Act.put, List.setIfInBounds_toArray, List.set_cons_zero, List.set_cons_succ, List.getElem_toArray, List.getElem_cons_succ, List.getElem_cons_zero]
              refine wpAnyH_take (i := 7) (v := ?_) rfl (by kernel_rfl) (by kernel_rfl) (by kernel_rfl) (fun _ _ _ h => h) (Or.inl ⟨by rfl, ?_⟩) (by assumption) ?_
              rotate_left
              · intro z hSz
                obtain ⟨c0, c1, c2, c3, c4, c5, c6, c7, c8, c9, c10, c11, c12, c13, c14, c15, c16, c17⟩ := hSz
                go_simp
                try with_reducible rfl
              try simp only [Act.put, List.setIfInBounds_toArray, List.set_cons_zero, List.set_cons_succ, List.getElem_toArray, List.getElem_cons_succ, List.getElem_cons_zero]
              refine wpAnyH_take (i := 8) (v := ?_) rfl (by kernel_rfl) (by kernel_rfl) (by kernel_rfl) (fun _ _ _ h => h) (Or.inl ⟨by rfl, ?_⟩) (by assumption) ?_
              rotate_left
              · intro z hSz
                obtain ⟨c0, c1, c2, c3, c4, c5, c6, c7, c8, c9, c10, c11, c12, c13, c14, c15, c16, c17⟩ := hSz
                go_simp
                try with_reducible rfl
              try simp only [Act.put, List.setIfInBounds_toArray, List.set_cons_zero, List.set_cons_succ, List.getElem_toArray, List.getElem_cons_succ, List.getElem_cons_zero]
              refine wpAnyH_take (i := 9) (v := ?_) rfl (by kernel_rfl) (by kernel_rfl) (by kernel_rfl) (fun _ _ _ h => h) (Or.inl ⟨by rfl, ?_⟩) (by assumption) ?_
              rotate_left
              · intro z hSz
                obtain ⟨c0, c1, c2, c3, c4, c5, c6, c7, c8, c9, c10, c11, c12, c13, c14, c15, c16, c17⟩ := hSz
                go_simp
                try with_reducible rfl
              try simp only [Act.put, List.setIfInBounds_toArray, List.set_cons_zero, List.set_cons_succ, List.getElem_toArray, List.getElem_cons_succ, List.getElem_cons_zero]
              refine wpAnyH_ready (rs := [10]) (by kernel_rfl) (by simp) ?_
              refine AllReadyH.cons rfl (fun K hK => ?_) AllReadyH.nil
              go_simp
              refine (ahead_ref y x _).mono ?_
              rintro e w5 ⟨rfl, hb⟩
              rw [HAJ.out]
              have HV5 : Hid (Below w3.heap.size w3 w5) := (below_drew HVJ.out).trans (hb.mono HVJ.out.size)
              refine hK.out _ _ (HSK.out w5 HV5.out) (fun hHeld2 => ?_)
              clear hK K hHeld
              have hHeld := hHeld2
              clear hHeld2
              try simp only [Act.put, List.setIfInBounds_toArray, List.set_cons_zero, List.set_cons_succ, List.getElem_toArray, List.getElem_cons_succ, List.getElem_cons_zero]
              clear hb
              refine wpAnyH_take (i := 11) (v := ?_) rfl (by kernel_rfl) (by kernel_rfl) (by kernel_rfl) (fun _ _ _ h => h) (Or.inl ⟨by rfl, ?_⟩) (by assumption) ?_
              rotate_left
              · intro z hSz
                obtain ⟨c0, c1, c2, c3, c4, c5, c6, c7, c8, c9, c10, c11, c12, c13, c14, c15, c16, c17⟩ := hSz
                go_simp
                try with_reducible rfl
              try simp only [Act.put, List.setIfInBounds_toArray, List.set_cons_zero, List.set_cons_succ, List.getElem_toArray, List.getElem_cons_succ, List.getElem_cons_zero]
              refine wpAnyH_done (by kernel_rfl) ?_ _
              clear hHeld
            · go_wp2
              go_roundg gj
              case measure => omega
              case rel => exact ⟨j + 1, by have := HJG.out; omega, by simp, HJN.out, HV5.out⟩
            · clear HSK HSP HAJ HVJ
              go_wp2
              go_upto_region 11 with fail
              have HBd : Hid (Below w3.heap.size w3 w5.drew) := below_drew HV5.out
              have HXd : Hid (Hd.Bxn w5.drew wr0.heap.size [.string x.td.n, .int .i64 x.td.z0, .int .i64 x.td.z1, .int .i64 x.td.z2, .slice x.a4 x.td.ws.length x.c4, .slice x.a5 x.td.bs.length x.c5, .string x.td.g, .string x.td.a, .int .i64 x.td.r]) := HBX.out.below HBd.out
              have HSO : Hid (Sl w5.drew 0 w5.drew.heap.size (.slice (some ⟨gy, 0, none⟩) m.length qc) m) := ((HOM.out.keep HBd.out).sl (by have := HLL.out; omega)).more (Nat.le_refl _) (Nat.zero_le _)
              have HEd : Hid (∀ y ∈ m, OwnT w5.drew w1.heap.size y ∧ FitT y.td) := fun y hy => ⟨(HEM.out y hy).1.keep HBd.out, (HEM.out y hy).2⟩
              have HDd : Hid (DeepT w5.drew w5.drew.heap.size x) := HDX.out.1.on (H3.out.trans (HBd.out.mono H3.out.size))
              have HWd : Hid (Below w1.heap.size w1 w5.drew) := HB3.out.trans (HBd.out.mono HB3.out.size)
              have hqc : m.length ≤ qc := by obtain ⟨a', c', he, h1, -⟩ := HSO.out; simp only [Value.slice.injEq] at he; omega
              have hjm : j ≤ m.length := by have := HJM.out; omega
              have HQC : Hid (m.length ≤ qc ∧ j ≤ m.length) := ⟨hqc, hjm⟩
              clear hqc hjm
              refine wp_region_held_drew (S := fun z => z.cell? ⟨wr0.heap.size, 0, none⟩ = some (.string x.td.n) ∧ z.cell? ⟨wr0.heap.size, 1, none⟩ = some (.int .i64 x.td.z0) ∧ z.cell? ⟨wr0.heap.size, 2, none⟩ = some (.int .i64 x.td.z1) ∧ z.cell? ⟨wr0.heap.size, 3, none⟩ = some (.int .i64 x.td.z2) ∧ z.cell? ⟨wr0.heap.size, 4, none⟩ = some (.slice x.a4 x.td.ws.length x.c4) ∧ z.cell? ⟨wr0.heap.size, 5, none⟩ = some (.slice x.a5 x.td.bs.length x.c5) ∧ z.cell? ⟨wr0.heap.size, 6, none⟩ = some (.string x.td.g) ∧ z.cell? ⟨wr0.heap.size, 7, none⟩ = some (.string x.td.a) ∧ z.cell? ⟨wr0.heap.size, 8, none⟩ = some (.int .i64 x.td.r)) (by kernel_rfl) ⟨HXd.out.cell 0, HXd.out.cell 1, HXd.out.cell 2, HXd.out.cell 3, HXd.out.cell 4, HXd.out.cell 5, HXd.out.cell 6, HXd.out.cell 7, HXd.out.cell 8⟩ (fun hHeld => ?_)
              clear HV5 HBX HOM HEM
              generalize w5.drew = wd at *
              refine wpAnyH_take (i := 1) (v := ?_) rfl (by kernel_rfl) (by kernel_rfl) (by kernel_rfl) (fun _ _ _ h => h) (Or.inl ⟨by rfl, ?_⟩) (by assumption) ?_
              rotate_left
              · intro z hSz
                obtain ⟨c0, c1, c2, c3, c4, c5, c6, c7, c8⟩ := hSz
                go_simp
                try with_reducible rfl
              try simp only [Act.put, List.setIfInBounds_toArray, List.set_cons_zero, List.set_cons_succ, List.getElem_toArray, List.getElem_cons_succ, List.getElem_cons_zero]
              refine wpAnyH_take (i := 2) (v := ?_) rfl (by kernel_rfl) (by kernel_rfl) (by kernel_rfl) (fun _ _ _ h => h) (Or.inl ⟨by rfl, ?_⟩) (by assumption) ?_
              rotate_left
              · intro z hSz
                obtain ⟨c0, c1, c2, c3, c4, c5, c6, c7, c8⟩ := hSz
                go_simp
                try with_reducible rfl
              try simp only [Act.put, List.setIfInBounds_toArray, List.set_cons_zero, List.set_cons_succ, List.getElem_toArray, List.getElem_cons_succ, List.getElem_cons_zero]
              refine wpAnyH_take (i := 3) (v := sliced (some ⟨gy, 0, none⟩) 0 j qc 9) rfl (by kernel_rfl) (by kernel_rfl) (by kernel_rfl) (fun _ _ _ h => h) (yieldsIf_slice_h (by rfl) 23 (.tmp 38) (.tmp 39) rfl (some ⟨gy, 0, none⟩) m.length qc rfl j rfl Tryz.underlying23 9 (fun w => by rfl) (by have := HQC.out; omega)) (by assumption) ?_
              try simp only [Act.put, List.setIfInBounds_toArray, List.set_cons_zero, List.set_cons_succ, List.getElem_toArray, List.getElem_cons_succ, List.getElem_cons_zero]
              refine wpAnyH_take (i := 5) (v := ?_) rfl (by kernel_rfl) (by kernel_rfl) (by kernel_rfl) (fun _ _ _ h => h) (Or.inl ⟨by rfl, ?_⟩) (by assumption) ?_
              rotate_left
              · intro z hSz
                obtain ⟨c0, c1, c2, c3, c4, c5, c6, c7, c8⟩ := hSz
                go_simp
                try with_reducible rfl
              try simp only [Act.put, List.setIfInBounds_toArray, List.set_cons_zero, List.set_cons_succ, List.getElem_toArray, List.getElem_cons_succ, List.getElem_cons_zero]
              refine wpAnyH_take (i := 9) (v := ?_) rfl (by kernel_rfl) (by kernel_rfl) (by kernel_rfl) (fun _ _ _ h => h) (Or.inl ⟨by rfl, ?_⟩) (by assumption) ?_
              rotate_left
              · intro z hSz
                obtain ⟨c0, c1, c2, c3, c4, c5, c6, c7, c8⟩ := hSz
                go_simp
                try with_reducible rfl
              try simp only [Act.put, List.setIfInBounds_toArray, List.set_cons_zero, List.set_cons_succ, List.getElem_toArray, List.getElem_cons_succ, List.getElem_cons_zero]
              refine wpAnyH_take (i := 10) (v := ?_) rfl (by kernel_rfl) (by kernel_rfl) (by kernel_rfl) (fun _ _ _ h => h) (Or.inl ⟨by rfl, ?_⟩) (by assumption) ?_
              rotate_left
              · intro z hSz
                obtain ⟨c0, c1, c2, c3, c4, c5, c6, c7, c8⟩ := hSz
                go_simp
                try with_reducible rfl
              try simp only [Act.put, List.setIfInBounds_toArray, List.set_cons_zero, List.set_cons_succ, List.getElem_toArray, List.getElem_cons_succ, List.getElem_cons_zero]
              refine wpAnyH_take (i := 11) (v := sliced (some ⟨gy, 0, none⟩) j m.length qc 9) rfl (by kernel_rfl) (by kernel_rfl) (by kernel_rfl) (fun _ _ _ h => h) (yieldsIf_slice_l (by rfl) 23 (.tmp 46) (.tmp 47) rfl (some ⟨gy, 0, none⟩) m.length qc rfl j rfl Tryz.underlying23 9 (fun w => by rfl) (by have := HQC.out; omega)) (by assumption) ?_
              try simp only [Act.put, List.setIfInBounds_toArray, List.set_cons_zero, List.set_cons_succ, List.getElem_toArray, List.getElem_cons_succ, List.getElem_cons_zero]
              have HVP : Hid (Sl wd 0 wd.heap.size (sliced (some ⟨gy, 0, none⟩) 0 j qc 9) (m.take j)) := sl_pre HSO.out j HQC.out.2
              have HVQ : Hid (Sl wd 0 wd.heap.size (sliced (some ⟨gy, 0, none⟩) j m.length qc 9) (m.drop j)) := sl_suf HSO.out j HQC.out.2
              generalize sliced (some ⟨gy, 0, none⟩) 0 j qc 9 = vp at *
              generalize sliced (some ⟨gy, 0, none⟩) j m.length qc 9 = vq at *
              refine wpAnyH_ready (rs := [0]) (by kernel_rfl) (by simp) ?_
              refine AllReadyH.cons rfl (fun K hK => ?_) AllReadyH.nil
              go_simp
              have HB0 : Hid (Below wd.heap.size wd (wd.alloc (.cells #[] 42))) := al _ _
              have HX0 := Lib.hid (HXd.out.below HB0.out)
              have HO0 : Hid (Own (wd.alloc (.cells #[] 42)) wd.heap.size 42 (.slice (some ⟨wd.heap.size, 0, none⟩) 0 0) ([] : List TdM)) := Own.made wd _
              refine hK.out _ _ (⟨HX0.out.cell 0, HX0.out.cell 1, HX0.out.cell 2, HX0.out.cell 3, HX0.out.cell 4, HX0.out.cell 5, HX0.out.cell 6, HX0.out.cell 7, HX0.out.cell 8⟩) (fun hHeld2 => ?_)
              clear hK K hHeld
              have hHeld := hHeld2
              clear hHeld2
              try simp only [Act.put, List.setIfInBounds_toArray, List.set_cons_zero, List.set_cons_succ, List.getElem_toArray, List.getElem_cons_succ, List.getElem_cons_zero]
              generalize (wd.alloc (.cells #[] 42)) = z0 at *
              refine wpAnyH_ready (rs := [4]) (by kernel_rfl) (by simp) ?_
              refine AllReadyH.cons rfl (fun K hK => ?_) AllReadyH.nil
              obtain ⟨i4, hi0, hz0, hz1, hz2⟩ := info_parts info_task2
              have hbs : wd.heap.size ≤ z0.heap.size := HB0.out.size
              obtain ⟨v4, z4, hr, ho, hg, -⟩ := run_app (P := Tryz.prog) (ty := 23) Tryz.underlying23 hi0 hz0 hz1 hz2 rfl HO0.out (HVP.out.keep HB0.out) (by have := HLL.out; have := HQC.out; simp; omega) (by have := HLL.out; have := HQC.out; simp; omega) hbs
              obtain ⟨ga4, na4, hv⟩ := ho.slice
              obtain ⟨LA4, hLA⟩ : ∃ n, n = ([] ++ m.take j).length := ⟨_, rfl⟩
              rw [← hLA] at hv
              clear hLA
              subst hv
              refine step_app rfl (.tmp 37) (.tmp 40) 23 rfl _ _ _ rfl rfl hr ?_
              clear hr hbs hi0 hz0 hz1 hz2 i4
              have HB4 : Hid (Below wd.heap.size wd z4) := HB0.out.grown hg HB0.out.size (fun q e => (HO0.out.lt q e).1)
              have HX4 := Lib.hid (HXd.out.below HB4.out)
              have HO4 := Lib.hid ho
              clear ho hg HO0 HB0 HX0
              refine hK.out _ _ (⟨HX4.out.cell 0, HX4.out.cell 1, HX4.out.cell 2, HX4.out.cell 3, HX4.out.cell 4, HX4.out.cell 5, HX4.out.cell 6, HX4.out.cell 7, HX4.out.cell 8⟩) (fun hHeld2 => ?_)
              clear hK K hHeld
              have hHeld := hHeld2
              clear hHeld2
              try simp only [Act.put, List.setIfInBounds_toArray, List.set_cons_zero, List.set_cons_succ, List.getElem_toArray, List.getElem_cons_succ, List.getElem_cons_zero]
              refine wpAnyH_ready (rs := [6]) (by kernel_rfl) (by simp) ?_
              refine AllReadyH.cons rfl (fun K hK => ?_) AllReadyH.nil
              go_simp
              refine (copy_t x z4 (HDd.out.on HB4.out) HDX.out.2).mono ?_
              rintro e w5 ⟨y, hy, rfl, hoy, hb⟩
              have HB5 : Hid (Below wd.heap.size wd w5) := HB4.out.trans (hb.mono HB4.out.size)
              have HX5 := Lib.hid (HXd.out.below HB5.out)
              have HO5 := Lib.hid (HO4.out.keep hb)
              have HOY := Lib.hid (hoy.le (Nat.le_trans HWd.out.size HB4.out.size))
              have HYT : Hid (y.td = x.td) := hy
              clear hb hoy hy HO4 HB4 HX4
              refine hK.out _ _ (⟨HX5.out.cell 0, HX5.out.cell 1, HX5.out.cell 2, HX5.out.cell 3, HX5.out.cell 4, HX5.out.cell 5, HX5.out.cell 6, HX5.out.cell 7, HX5.out.cell 8⟩) (fun hHeld2 => ?_)
              clear hK K hHeld
              have hHeld := hHeld2
              clear hHeld2
              try simp only [Act.put, List.setIfInBounds_toArray, List.set_cons_zero, List.set_cons_succ, List.getElem_toArray, List.getElem_cons_succ, List.getElem_cons_zero]
              refine wpAnyH_ready (rs := [7]) (by kernel_rfl) (by simp) ?_
              refine AllReadyH.cons rfl (fun K hK => ?_) AllReadyH.nil
              go_simp
              have ha : Below w5.heap.size w5 (w5.alloc (.cells #[.string y.td.n, .int .i64 y.td.z0, .int .i64 y.td.z1, .int .i64 y.td.z2, .slice y.a4 y.td.ws.length y.c4, .slice y.a5 y.td.bs.length y.c5, .string y.td.g, .string y.td.a, .int .i64 y.td.r] 42)) := al _ _
              have HB7 : Hid (Below wd.heap.size wd (w5.alloc (.cells #[.string y.td.n, .int .i64 y.td.z0, .int .i64 y.td.z1, .int .i64 y.td.z2, .slice y.a4 y.td.ws.length y.c4, .slice y.a5 y.td.bs.length y.c5, .string y.td.g, .string y.td.a, .int .i64 y.td.r] 42))) := HB5.out.trans (ha.mono HB5.out.size)
              have HX7 := Lib.hid (HXd.out.below HB7.out)
              have HO7 := Lib.hid (HO5.out.keep ha)
              have HOZ := Lib.hid (HOY.out.keep ha)
              have HSL : Hid (Sl (w5.alloc (.cells #[.string y.td.n, .int .i64 y.td.z0, .int .i64 y.td.z1, .int .i64 y.td.z2, .slice y.a4 y.td.ws.length y.c4, .slice y.a5 y.td.bs.length y.c5, .string y.td.g, .string y.td.a, .int .i64 y.td.r] 42)) w5.heap.size (w5.alloc (.cells #[.string y.td.n, .int .i64 y.td.z0, .int .i64 y.td.z1, .int .i64 y.td.z2, .slice y.a4 y.td.ws.length y.c4, .slice y.a5 y.td.bs.length y.c5, .string y.td.g, .string y.td.a, .int .i64 y.td.r] 42)).heap.size (.slice (some ⟨w5.heap.size, 0, none⟩) 1 1) [y]) := sl_one w5 y _
              clear ha HO5 HB5 HX5 HOY
              refine hK.out _ _ (⟨HX7.out.cell 0, HX7.out.cell 1, HX7.out.cell 2, HX7.out.cell 3, HX7.out.cell 4, HX7.out.cell 5, HX7.out.cell 6, HX7.out.cell 7, HX7.out.cell 8⟩) (fun hHeld2 => ?_)
              clear hK K hHeld
              have hHeld := hHeld2
              clear hHeld2
              try simp only [Act.put, List.setIfInBounds_toArray, List.set_cons_zero, List.set_cons_succ, List.getElem_toArray, List.getElem_cons_succ, List.getElem_cons_zero]
              generalize (w5.alloc (.cells #[.string y.td.n, .int .i64 y.td.z0, .int .i64 y.td.z1, .int .i64 y.td.z2, .slice y.a4 y.td.ws.length y.c4, .slice y.a5 y.td.bs.length y.c5, .string y.td.g, .string y.td.a, .int .i64 y.td.r] 42)) = z7 at *
              refine wpAnyH_ready (rs := [8]) (by kernel_rfl) (by simp) ?_
              refine AllReadyH.cons rfl (fun K hK => ?_) AllReadyH.nil
              obtain ⟨i8, hi0, hz0, hz1, hz2⟩ := info_parts info_task2
              have hbs : wd.heap.size ≤ z7.heap.size := HB7.out.size
              obtain ⟨v8, z8, hr, ho, hg, -⟩ := run_app (P := Tryz.prog) (ty := 23) Tryz.underlying23 hi0 hz0 hz1 hz2 rfl HO7.out HSL.out (by have := HLL.out; have := HQC.out; simp; omega) (by have := HLL.out; have := HQC.out; simp; omega) hbs
              obtain ⟨ga8, na8, hv⟩ := ho.slice
              obtain ⟨LA8, hLA⟩ : ∃ n, n = ([] ++ m.take j ++ [y]).length := ⟨_, rfl⟩
              rw [← hLA] at hv
              clear hLA
              subst hv
              refine step_app rfl (.tmp 41) (.tmp 44) 23 rfl _ _ _ rfl rfl hr ?_
              clear hr hbs hi0 hz0 hz1 hz2 i8
              have HB8 : Hid (Below wd.heap.size wd z8) := HB7.out.grown hg HB7.out.size (fun q e => (HO7.out.lt q e).1)
              have HX8 := Lib.hid (HXd.out.below HB8.out)
              have HO8 := Lib.hid ho
              have HOW := Lib.hid (HOZ.out.off HO7.out (by decide) hg)
              clear ho hg HO7 HB7 HX7 HSL HOZ
              refine hK.out _ _ (⟨HX8.out.cell 0, HX8.out.cell 1, HX8.out.cell 2, HX8.out.cell 3, HX8.out.cell 4, HX8.out.cell 5, HX8.out.cell 6, HX8.out.cell 7, HX8.out.cell 8⟩) (fun hHeld2 => ?_)
              clear hK K hHeld
              have hHeld := hHeld2
              clear hHeld2
              try simp only [Act.put, List.setIfInBounds_toArray, List.set_cons_zero, List.set_cons_succ, List.getElem_toArray, List.getElem_cons_succ, List.getElem_cons_zero]
              refine wpAnyH_ready (rs := [12]) (by kernel_rfl) (by simp) ?_
              refine AllReadyH.cons rfl (fun K hK => ?_) AllReadyH.nil
              obtain ⟨i9, hi0, hz0, hz1, hz2⟩ := info_parts info_task2
              have hbs : wd.heap.size ≤ z8.heap.size := HB8.out.size
              obtain ⟨v9, z9, hr, ho, hg, -⟩ := run_app (P := Tryz.prog) (ty := 23) Tryz.underlying23 hi0 hz0 hz1 hz2 rfl HO8.out (HVQ.out.keep HB8.out) (by have := HLL.out; have := HQC.out; simp; omega) (by have := HLL.out; have := HQC.out; simp; omega) hbs
              obtain ⟨ga9, na9, hv⟩ := ho.slice
              obtain ⟨LA9, hLA⟩ : ∃ n, n = ([] ++ m.take j ++ [y] ++ m.drop j).length := ⟨_, rfl⟩
              rw [← hLA] at hv
              clear hLA
              subst hv
              refine step_app rfl (.tmp 45) (.tmp 48) 23 rfl _ _ _ rfl rfl hr ?_
              clear hr hbs hi0 hz0 hz1 hz2 i9
              have HB9 : Hid (Below wd.heap.size wd z9) := HB8.out.grown hg HB8.out.size (fun q e => (HO8.out.lt q e).1)
              have HX9 := Lib.hid (HXd.out.below HB9.out)
              have HO9 := Lib.hid ho
              have HOV := Lib.hid (HOW.out.off HO8.out (by decide) hg)
              clear ho hg HO8 HB8 HX8 HOW
              refine hK.out _ _ (⟨HX9.out.cell 0, HX9.out.cell 1, HX9.out.cell 2, HX9.out.cell 3, HX9.out.cell 4, HX9.out.cell 5, HX9.out.cell 6, HX9.out.cell 7, HX9.out.cell 8⟩) (fun hHeld2 => ?_)
              clear hK K hHeld
              have hHeld := hHeld2
              clear hHeld2
              try simp only [Act.put, List.setIfInBounds_toArray, List.set_cons_zero, List.set_cons_succ, List.getElem_toArray, List.getElem_cons_succ, List.getElem_cons_zero]
              refine wpAnyH_take (i := 13) (v := ?_) rfl (by kernel_rfl) (by kernel_rfl) (by kernel_rfl) (fun _ _ _ h => h) (Or.inl ⟨by rfl, ?_⟩) (by assumption) ?_
              rotate_left
              · intro z hSz
                obtain ⟨c0, c1, c2, c3, c4, c5, c6, c7, c8⟩ := hSz
                go_simp
                try with_reducible rfl
              try simp only [Act.put, List.setIfInBounds_toArray, List.set_cons_zero, List.set_cons_succ, List.getElem_toArray, List.getElem_cons_succ, List.getElem_cons_zero]
              refine wpAnyH_done (by kernel_rfl) ?_ _
              clear hHeld
              go_wp2
              go_roundg gg
              case measure => omega
              case rel =>
                refine ⟨q + 1, [] ++ m.take j ++ [y] ++ m.drop j, by have := HKG.out; omega, by simp, HO9.out.le HWd.out.size, ?_, fun u hu => ?_, HWd.out.trans (HB9.out.mono HWd.out.size)⟩
                · rw [HWT.out, insT_pos, ← HMT.out, ← HJP.out, List.nil_append, List.map_append, List.map_append, List.map_take, List.map_drop, List.map_singleton, HYT.out, List.append_assoc]; exact rfl
                · rw [List.nil_append] at hu
                  rcases List.mem_append.1 hu with h | h
                  · rcases List.mem_append.1 h with h | h
                    · exact ⟨(HEd.out u (List.mem_of_mem_take h)).1.keep HB9.out, (HEd.out u (List.mem_of_mem_take h)).2⟩
                    · rw [List.mem_singleton.1 h]; exact ⟨HOV.out, by rw [HYT.out]; exact HDX.out.2⟩
                  · exact ⟨(HEd.out u (List.mem_of_mem_drop h)).1.keep HB9.out, (HEd.out u (List.mem_of_mem_drop h)).2⟩
          · have u2 : ¬ (j : Int) < (m.length : Int) := by omega
            have u2b : decide ((j : Int) < (m.length : Int)) = false := decide_eq_false u2
            have HJM : Hid (j ≤ m.length) := by show _ ≤ _; omega
            have HJP : Hid (j = posT x.td (m.map (·.td))) := by show _ = _; have h1 := pos_le x.td (m.map (·.td)); rw [List.length_map] at h1; have := HJL.out; omega
            clear hjg hjl
            go_upto_region 9 with fail
            refine wp_region_held_drew (S := fun z => True) (by kernel_rfl) trivial (fun hHeld => ?_)
            refine wpAnyH_take (i := 0) (v := ?_) rfl (by kernel_rfl) (by kernel_rfl) (by kernel_rfl) (fun _ _ _ h => h) (Or.inl ⟨by rfl, ?_⟩) (by assumption) ?_
            rotate_left
            · intro z hSz
              go_simp
              try with_reducible rfl
            try simp only [Act.put, List.setIfInBounds_toArray, List.set_cons_zero, List.set_cons_succ, List.getElem_toArray, List.getElem_cons_zero]
            refine wpAnyH_take (i := 1) (v := ?_) rfl (by kernel_rfl) (by kernel_rfl) (by kernel_rfl) (fun _ _ _ h => h) (Or.inl ⟨by rfl, ?_⟩) (by assumption) ?_
            rotate_left
            · intro z hSz
              go_simp
              try with_reducible rfl
            try simp only [Act.put, List.setIfInBounds_toArray, List.set_cons_zero, List.set_cons_succ, List.getElem_toArray, List.getElem_cons_succ, List.getElem_cons_zero]
            refine wpAnyH_take (i := 2) (v := ?_) rfl (by kernel_rfl) (by kernel_rfl) (by kernel_rfl) (fun _ _ _ h => h) (Or.inl ⟨by rfl, ?_⟩) (by assumption) ?_
            rotate_left
            · intro z hSz
              go_simp
              try with_reducible rfl
            try simp only [Act.put, List.setIfInBounds_toArray, List.set_cons_zero, List.set_cons_succ, List.getElem_toArray, List.getElem_cons_succ, List.getElem_cons_zero]
            refine wpAnyH_take (i := 3) (v := ?_) rfl (by kernel_rfl) (by kernel_rfl) (by kernel_rfl) (fun _ _ _ h => h) (Or.inl ⟨by rfl, ?_⟩) (by assumption) ?_
            rotate_left
            · intro z hSz
              go_simp
              try with_reducible rfl
            try simp only [Act.put, List.setIfInBounds_toArray, List.set_cons_zero, List.set_cons_succ, List.getElem_toArray, List.getElem_cons_succ, List.getElem_cons_zero]
            refine wpAnyH_take (i := 4) (v := ?_) rfl (by kernel_rfl) (by kernel_rfl) (by kernel_rfl) (fun _ _ _ h => h) (Or.inl ⟨by rfl, ?_⟩) (by assumption) ?_
            rotate_left
            · intro z hSz
              go_simp
              try with_reducible rfl
            try simp only [Act.put, List.setIfInBounds_toArray, List.set_cons_zero, List.set_cons_succ, List.getElem_toArray, List.getElem_cons_succ, List.getElem_cons_zero]
            refine wpAnyH_take (i := 5) (v := undef) rfl (by kernel_rfl) (by kernel_rfl) (by kernel_rfl) (fun _ _ _ h => h) (Or.inr ⟨by rfl, rfl⟩) (by assumption) ?_
            try simp only [Act.put, List.setIfInBounds_toArray, List.set_cons_zero, List.set_cons_succ, List.getElem_toArray, List.getElem_cons_succ, List.getElem_cons_zero]
            refine wpAnyH_take (i := 6) (v := undef) rfl (by kernel_rfl) (by kernel_rfl) (by kernel_rfl) (fun _ _ _ h => h) (Or.inr ⟨by rfl, rfl⟩) (by assumption) ?_
            try simp only [Act.put, List.setIfInBounds_toArray, List.set_cons_zero, List.set_cons_succ, List.getElem_toArray, List.getElem_cons_succ, List.getElem_cons_zero]
            refine wpAnyH_take (i := 7) (v := undef) rfl (by kernel_rfl) (by kernel_rfl) (by kernel_rfl) (fun _ _ _ h => h) (Or.inr ⟨by rfl, rfl⟩) (by assumption) ?_
            try simp only [Act.put, List.setIfInBounds_toArray, List.set_cons_zero, List.set_cons_succ, List.getElem_toArray, List.getElem_cons_succ, List.getElem_cons_zero]
            refine wpAnyH_take (i := 8) (v := undef) rfl (by kernel_rfl) (by kernel_rfl) (by kernel_rfl) (fun _ _ _ h => h) (Or.inr ⟨by rfl, rfl⟩) (by assumption) ?_
            try simp only [Act.put, List.setIfInBounds_toArray, List.set_cons_zero, List.set_cons_succ, List.getElem_toArray, List.getElem_cons_succ, List.getElem_cons_zero]
            refine wpAnyH_take (i := 9) (v := undef) rfl (by kernel_rfl) (by kernel_rfl) (by kernel_rfl) (fun _ _ _ h => h) (Or.inr ⟨by rfl, rfl⟩) (by assumption) ?_
            try simp only [Act.put, List.setIfInBounds_toArray, List.set_cons_zero, List.set_cons_succ, List.getElem_toArray, List.getElem_cons_succ, List.getElem_cons_zero]
            refine wpAnyH_take (i := 10) (v := undef) rfl (by kernel_rfl) (by kernel_rfl) (by kernel_rfl) (fun _ _ _ h => h) (Or.inr ⟨by rfl, rfl⟩) (by assumption) ?_
            try simp only [Act.put, List.setIfInBounds_toArray, List.set_cons_zero, List.set_cons_succ, List.getElem_toArray, List.getElem_cons_succ, List.getElem_cons_zero]
            refine wpAnyH_take (i := 11) (v := ?_) rfl (by kernel_rfl) (by kernel_rfl) (by kernel_rfl) (fun _ _ _ h => h) (Or.inl ⟨by rfl, ?_⟩) (by assumption) ?_
            rotate_left
            · intro z hSz
              go_simp
              try with_reducible rfl
            try simp only [Act.put, List.setIfInBounds_toArray, List.set_cons_zero, List.set_cons_succ, List.getElem_toArray, List.getElem_cons_succ, List.getElem_cons_zero]
            refine wpAnyH_done (by kernel_rfl) ?_ _
            clear hHeld
            have HV5 : Hid (Below w3.heap.size w3 wj.drew) := below_drew HVJ.out
            clear HVJ
            generalize wj.drew = w5 at *
            go_wp2
            go_upto_region 11 with fail
            have HBd : Hid (Below w3.heap.size w3 w5.drew) := below_drew HV5.out
            have HXd : Hid (Hd.Bxn w5.drew wr0.heap.size [.string x.td.n, .int .i64 x.td.z0, .int .i64 x.td.z1, .int .i64 x.td.z2, .slice x.a4 x.td.ws.length x.c4, .slice x.a5 x.td.bs.length x.c5, .string x.td.g, .string x.td.a, .int .i64 x.td.r]) := HBX.out.below HBd.out
            have HSO : Hid (Sl w5.drew 0 w5.drew.heap.size (.slice qa m.length qc) m) := ((HOM.out.keep HBd.out).sl (by have := HLL.out; omega)).more (Nat.le_refl _) (Nat.zero_le _)
            have HEd : Hid (∀ y ∈ m, OwnT w5.drew w1.heap.size y ∧ FitT y.td) := fun y hy => ⟨(HEM.out y hy).1.keep HBd.out, (HEM.out y hy).2⟩
            have HDd : Hid (DeepT w5.drew w5.drew.heap.size x) := HDX.out.1.on (H3.out.trans (HBd.out.mono H3.out.size))
            have HWd : Hid (Below w1.heap.size w1 w5.drew) := HB3.out.trans (HBd.out.mono HB3.out.size)
            have hqc : m.length ≤ qc := by obtain ⟨a', c', he, h1, -⟩ := HSO.out; simp only [Value.slice.injEq] at he; omega
            have hjm : j ≤ m.length := by have := HJM.out; omega
            have HQC : Hid (m.length ≤ qc ∧ j ≤ m.length) := ⟨hqc, hjm⟩
            clear hqc hjm
            refine wp_region_held_drew (S := fun z => z.cell? ⟨wr0.heap.size, 0, none⟩ = some (.string x.td.n) ∧ z.cell? ⟨wr0.heap.size, 1, none⟩ = some (.int .i64 x.td.z0) ∧ z.cell? ⟨wr0.heap.size, 2, none⟩ = some (.int .i64 x.td.z1) ∧ z.cell? ⟨wr0.heap.size, 3, none⟩ = some (.int .i64 x.td.z2) ∧ z.cell? ⟨wr0.heap.size, 4, none⟩ = some (.slice x.a4 x.td.ws.length x.c4) ∧ z.cell? ⟨wr0.heap.size, 5, none⟩ = some (.slice x.a5 x.td.bs.length x.c5) ∧ z.cell? ⟨wr0.heap.size, 6, none⟩ = some (.string x.td.g) ∧ z.cell? ⟨wr0.heap.size, 7, none⟩ = some (.string x.td.a) ∧ z.cell? ⟨wr0.heap.size, 8, none⟩ = some (.int .i64 x.td.r)) (by kernel_rfl) ⟨HXd.out.cell 0, HXd.out.cell 1, HXd.out.cell 2, HXd.out.cell 3, HXd.out.cell 4, HXd.out.cell 5, HXd.out.cell 6, HXd.out.cell 7, HXd.out.cell 8⟩ (fun hHeld => ?_)
            clear HV5 HBX HOM HEM
            generalize w5.drew = wd at *
            refine wpAnyH_take (i := 1) (v := ?_) rfl (by kernel_rfl) (by kernel_rfl) (by kernel_rfl) (fun _ _ _ h => h) (Or.inl ⟨by rfl, ?_⟩) (by assumption) ?_
            rotate_left
            · intro z hSz
              obtain ⟨c0, c1, c2, c3, c4, c5, c6, c7, c8⟩ := hSz
              go_simp
              try with_reducible rfl
            try simp only [Act.put, List.setIfInBounds_toArray, List.set_cons_zero, List.set_cons_succ, List.getElem_toArray, List.getElem_cons_succ, List.getElem_cons_zero]
            refine wpAnyH_take (i := 2) (v := ?_) rfl (by kernel_rfl) (by kernel_rfl) (by kernel_rfl) (fun _ _ _ h => h) (Or.inl ⟨by rfl, ?_⟩) (by assumption) ?_
            rotate_left
            · intro z hSz
              obtain ⟨c0, c1, c2, c3, c4, c5, c6, c7, c8⟩ := hSz
              go_simp
              try with_reducible rfl
            try simp only [Act.put, List.setIfInBounds_toArray, List.set_cons_zero, List.set_cons_succ, List.getElem_toArray, List.getElem_cons_succ, List.getElem_cons_zero]
            refine wpAnyH_take (i := 3) (v := sliced qa 0 j qc 9) rfl (by kernel_rfl) (by kernel_rfl) (by kernel_rfl) (fun _ _ _ h => h) (yieldsIf_slice_h (by rfl) 23 (.tmp 38) (.tmp 39) rfl qa m.length qc rfl j rfl Tryz.underlying23 9 (fun w => by rfl) (by have := HQC.out; omega)) (by assumption) ?_
            try simp only [Act.put, List.setIfInBounds_toArray, List.set_cons_zero, List.set_cons_succ, List.getElem_toArray, List.getElem_cons_succ, List.getElem_cons_zero]
            refine wpAnyH_take (i := 5) (v := ?_) rfl (by kernel_rfl) (by kernel_rfl) (by kernel_rfl) (fun _ _ _ h => h) (Or.inl ⟨by rfl, ?_⟩) (by assumption) ?_
            rotate_left
            · intro z hSz
              obtain ⟨c0, c1, c2, c3, c4, c5, c6, c7, c8⟩ := hSz
              go_simp
              try with_reducible rfl
            try simp only [Act.put, List.setIfInBounds_toArray, List.set_cons_zero, List.set_cons_succ, List.getElem_toArray, List.getElem_cons_succ, List.getElem_cons_zero]
            refine wpAnyH_take (i := 9) (v := ?_) rfl (by kernel_rfl) (by kernel_rfl) (by kernel_rfl) (fun _ _ _ h => h) (Or.inl ⟨by rfl, ?_⟩) (by assumption) ?_
            rotate_left
            · intro z hSz
              obtain ⟨c0, c1, c2, c3, c4, c5, c6, c7, c8⟩ := hSz
              go_simp
              try with_reducible rfl
            try simp only [Act.put, List.setIfInBounds_toArray, List.set_cons_zero, List.set_cons_succ, List.getElem_toArray, List.getElem_cons_succ, List.getElem_cons_zero]
            refine wpAnyH_take (i := 10) (v := ?_) rfl (by kernel_rfl) (by kernel_rfl) (by kernel_rfl) (fun _ _ _ h => h) (Or.inl ⟨by rfl, ?_⟩) (by assumption) ?_
            rotate_left
            · intro z hSz
              obtain ⟨c0, c1, c2, c3, c4, c5, c6, c7, c8⟩ := hSz
              go_simp
              try with_reducible rfl
            try simp only [Act.put, List.setIfInBounds_toArray, List.set_cons_zero, List.set_cons_succ, List.getElem_toArray, List.getElem_cons_succ, List.getElem_cons_zero]
            refine wpAnyH_take (i := 11) (v := sliced qa j m.length qc 9) rfl (by kernel_rfl) (by kernel_rfl) (by kernel_rfl) (fun _ _ _ h => h) (yieldsIf_slice_l (by rfl) 23 (.tmp 46) (.tmp 47) rfl qa m.length qc rfl j rfl Tryz.underlying23 9 (fun w => by rfl) (by have := HQC.out; omega)) (by assumption) ?_
            try simp only [Act.put, List.setIfInBounds_toArray, List.set_cons_zero, List.set_cons_succ, List.getElem_toArray, List.getElem_cons_succ, List.getElem_cons_zero]
            have HVP : Hid (Sl wd 0 wd.heap.size (sliced qa 0 j qc 9) (m.take j)) := sl_pre HSO.out j HQC.out.2
            have HVQ : Hid (Sl wd 0 wd.heap.size (sliced qa j m.length qc 9) (m.drop j)) := sl_suf HSO.out j HQC.out.2
            generalize sliced qa 0 j qc 9 = vp at *
            generalize sliced qa j m.length qc 9 = vq at *
            refine wpAnyH_ready (rs := [0]) (by kernel_rfl) (by simp) ?_
            refine AllReadyH.cons rfl (fun K hK => ?_) AllReadyH.nil
            go_simp
            have HB0 : Hid (Below wd.heap.size wd (wd.alloc (.cells #[] 42))) := al _ _
            have HX0 := Lib.hid (HXd.out.below HB0.out)
            have HO0 : Hid (Own (wd.alloc (.cells #[] 42)) wd.heap.size 42 (.slice (some ⟨wd.heap.size, 0, none⟩) 0 0) ([] : List TdM)) := Own.made wd _
            refine hK.out _ _ (⟨HX0.out.cell 0, HX0.out.cell 1, HX0.out.cell 2, HX0.out.cell 3, HX0.out.cell 4, HX0.out.cell 5, HX0.out.cell 6, HX0.out.cell 7, HX0.out.cell 8⟩) (fun hHeld2 => ?_)
            clear hK K hHeld
            have hHeld := hHeld2
            clear hHeld2
            try simp only [Act.put, List.setIfInBounds_toArray, List.set_cons_zero, List.set_cons_succ, List.getElem_toArray, List.getElem_cons_succ, List.getElem_cons_zero]
            generalize (wd.alloc (.cells #[] 42)) = z0 at *
            refine wpAnyH_ready (rs := [4]) (by kernel_rfl) (by simp) ?_
            refine AllReadyH.cons rfl (fun K hK => ?_) AllReadyH.nil
            obtain ⟨i4, hi0, hz0, hz1, hz2⟩ := info_parts info_task2
            have hbs : wd.heap.size ≤ z0.heap.size := HB0.out.size
            obtain ⟨v4, z4, hr, ho, hg, -⟩ := run_app (P := Tryz.prog) (ty := 23) Tryz.underlying23 hi0 hz0 hz1 hz2 rfl HO0.out (HVP.out.keep HB0.out) (by have := HLL.out; have := HQC.out; simp; omega) (by have := HLL.out; have := HQC.out; simp; omega) hbs
            obtain ⟨ga4, na4, hv⟩ := ho.slice
            obtain ⟨LA4, hLA⟩ : ∃ n, n = ([] ++ m.take j).length := ⟨_, rfl⟩
            rw [← hLA] at hv
            clear hLA
            subst hv
            refine step_app rfl (.tmp 37) (.tmp 40) 23 rfl _ _ _ rfl rfl hr ?_
            clear hr hbs hi0 hz0 hz1 hz2 i4
            have HB4 : Hid (Below wd.heap.size wd z4) := HB0.out.grown hg HB0.out.size (fun q e => (HO0.out.lt q e).1)
            have HX4 := Lib.hid (HXd.out.below HB4.out)
            have HO4 := Lib.hid ho
            clear ho hg HO0 HB0 HX0
            refine hK.out _ _ (⟨HX4.out.cell 0, HX4.out.cell 1, HX4.out.cell 2, HX4.out.cell 3, HX4.out.cell 4, HX4.out.cell 5, HX4.out.cell 6, HX4.out.cell 7, HX4.out.cell 8⟩) (fun hHeld2 => ?_)
            clear hK K hHeld
            have hHeld := hHeld2
            clear hHeld2
            try simp only [Act.put, List.setIfInBounds_toArray, List.set_cons_zero, List.set_cons_succ, List.getElem_toArray, List.getElem_cons_succ, List.getElem_cons_zero]
            refine wpAnyH_ready (rs := [6]) (by kernel_rfl) (by simp) ?_
            refine AllReadyH.cons rfl (fun K hK => ?_) AllReadyH.nil
            go_simp
            refine (copy_t x z4 (HDd.out.on HB4.out) HDX.out.2).mono ?_
            rintro e w5 ⟨y, hy, rfl, hoy, hb⟩
            have HB5 : Hid (Below wd.heap.size wd w5) := HB4.out.trans (hb.mono HB4.out.size)
            have HX5 := Lib.hid (HXd.out.below HB5.out)
            have HO5 := Lib.hid (HO4.out.keep hb)
            have HOY := Lib.hid (hoy.le (Nat.le_trans HWd.out.size HB4.out.size))
            have HYT : Hid (y.td = x.td) := hy
            clear hb hoy hy HO4 HB4 HX4
            refine hK.out _ _ (⟨HX5.out.cell 0, HX5.out.cell 1, HX5.out.cell 2, HX5.out.cell 3, HX5.out.cell 4, HX5.out.cell 5, HX5.out.cell 6, HX5.out.cell 7, HX5.out.cell 8⟩) (fun hHeld2 => ?_)
            clear hK K hHeld
            have hHeld := hHeld2
            clear hHeld2
            try simp only [Act.put, List.setIfInBounds_toArray, List.set_cons_zero, List.set_cons_succ, List.getElem_toArray, List.getElem_cons_succ, List.getElem_cons_zero]
            refine wpAnyH_ready (rs := [7]) (by kernel_rfl) (by simp) ?_
            refine AllReadyH.cons rfl (fun K hK => ?_) AllReadyH.nil
            go_simp
            have ha : Below w5.heap.size w5 (w5.alloc (.cells #[.string y.td.n, .int .i64 y.td.z0, .int .i64 y.td.z1, .int .i64 y.td.z2, .slice y.a4 y.td.ws.length y.c4, .slice y.a5 y.td.bs.length y.c5, .string y.td.g, .string y.td.a, .int .i64 y.td.r] 42)) := al _ _
            have HB7 : Hid (Below wd.heap.size wd (w5.alloc (.cells #[.string y.td.n, .int .i64 y.td.z0, .int .i64 y.td.z1, .int .i64 y.td.z2, .slice y.a4 y.td.ws.length y.c4, .slice y.a5 y.td.bs.length y.c5, .string y.td.g, .string y.td.a, .int .i64 y.td.r] 42))) := HB5.out.trans (ha.mono HB5.out.size)
            have HX7 := Lib.hid (HXd.out.below HB7.out)
            have HO7 := Lib.hid (HO5.out.keep ha)
            have HOZ := Lib.hid (HOY.out.keep ha)
            have HSL : Hid (Sl (w5.alloc (.cells #[.string y.td.n, .int .i64 y.td.z0, .int .i64 y.td.z1, .int .i64 y.td.z2, .slice y.a4 y.td.ws.length y.c4, .slice y.a5 y.td.bs.length y.c5, .string y.td.g, .string y.td.a, .int .i64 y.td.r] 42)) w5.heap.size (w5.alloc (.cells #[.string y.td.n, .int .i64 y.td.z0, .int .i64 y.td.z1, .int .i64 y.td.z2, .slice y.a4 y.td.ws.length y.c4, .slice y.a5 y.td.bs.length y.c5, .string y.td.g, .string y.td.a, .int .i64 y.td.r] 42)).heap.size (.slice (some ⟨w5.heap.size, 0, none⟩) 1 1) [y]) := sl_one w5 y _
            clear ha HO5 HB5 HX5 HOY
            refine hK.out _ _ (⟨HX7.out.cell 0, HX7.out.cell 1, HX7.out.cell 2, HX7.out.cell 3, HX7.out.cell 4, HX7.out.cell 5, HX7.out.cell 6, HX7.out.cell 7, HX7.out.cell 8⟩) (fun hHeld2 => ?_)
            clear hK K hHeld
            have hHeld := hHeld2
            clear hHeld2
            try simp only [Act.put, List.setIfInBounds_toArray, List.set_cons_zero, List.set_cons_succ, List.getElem_toArray, List.getElem_cons_succ, List.getElem_cons_zero]
            generalize (w5.alloc (.cells #[.string y.td.n, .int .i64 y.td.z0, .int .i64 y.td.z1, .int .i64 y.td.z2, .slice y.a4 y.td.ws.length y.c4, .slice y.a5 y.td.bs.length y.c5, .string y.td.g, .string y.td.a, .int .i64 y.td.r] 42)) = z7 at *
            refine wpAnyH_ready (rs := [8]) (by kernel_rfl) (by simp) ?_
            refine AllReadyH.cons rfl (fun K hK => ?_) AllReadyH.nil
            obtain ⟨i8, hi0, hz0, hz1, hz2⟩ := info_parts info_task2
            have hbs : wd.heap.size ≤ z7.heap.size := HB7.out.size
            obtain ⟨v8, z8, hr, ho, hg, -⟩ := run_app (P := Tryz.prog) (ty := 23) Tryz.underlying23 hi0 hz0 hz1 hz2 rfl HO7.out HSL.out (by have := HLL.out; have := HQC.out; simp; omega) (by have := HLL.out; have := HQC.out; simp; omega) hbs
            obtain ⟨ga8, na8, hv⟩ := ho.slice
            obtain ⟨LA8, hLA⟩ : ∃ n, n = ([] ++ m.take j ++ [y]).length := ⟨_, rfl⟩
            rw [← hLA] at hv
            clear hLA
            subst hv
            refine step_app rfl (.tmp 41) (.tmp 44) 23 rfl _ _ _ rfl rfl hr ?_
            clear hr hbs hi0 hz0 hz1 hz2 i8
            have HB8 : Hid (Below wd.heap.size wd z8) := HB7.out.grown hg HB7.out.size (fun q e => (HO7.out.lt q e).1)
            have HX8 := Lib.hid (HXd.out.below HB8.out)
            have HO8 := Lib.hid ho
            have HOW := Lib.hid (HOZ.out.off HO7.out (by decide) hg)
            clear ho hg HO7 HB7 HX7 HSL HOZ
            refine hK.out _ _ (⟨HX8.out.cell 0, HX8.out.cell 1, HX8.out.cell 2, HX8.out.cell 3, HX8.out.cell 4, HX8.out.cell 5, HX8.out.cell 6, HX8.out.cell 7, HX8.out.cell 8⟩) (fun hHeld2 => ?_)
            clear hK K hHeld
            have hHeld := hHeld2
            clear hHeld2
            try simp only [Act.put, List.setIfInBounds_toArray, List.set_cons_zero, List.set_cons_succ, List.getElem_toArray, List.getElem_cons_succ, List.getElem_cons_zero]
            refine wpAnyH_ready (rs := [12]) (by kernel_rfl) (by simp) ?_
            refine AllReadyH.cons rfl (fun K hK => ?_) AllReadyH.nil
            obtain ⟨i9, hi0, hz0, hz1, hz2⟩ := info_parts info_task2
            have hbs : wd.heap.size ≤ z8.heap.size := HB8.out.size
            obtain ⟨v9, z9, hr, ho, hg, -⟩ := run_app (P := Tryz.prog) (ty := 23) Tryz.underlying23 hi0 hz0 hz1 hz2 rfl HO8.out (HVQ.out.keep HB8.out) (by have := HLL.out; have := HQC.out; simp; omega) (by have := HLL.out; have := HQC.out; simp; omega) hbs
            obtain ⟨ga9, na9, hv⟩ := ho.slice
            obtain ⟨LA9, hLA⟩ : ∃ n, n = ([] ++ m.take j ++ [y] ++ m.drop j).length := ⟨_, rfl⟩
            rw [← hLA] at hv
            clear hLA
            subst hv
            refine step_app rfl (.tmp 45) (.tmp 48) 23 rfl _ _ _ rfl rfl hr ?_
            clear hr hbs hi0 hz0 hz1 hz2 i9
            have HB9 : Hid (Below wd.heap.size wd z9) := HB8.out.grown hg HB8.out.size (fun q e => (HO8.out.lt q e).1)
            have HX9 := Lib.hid (HXd.out.below HB9.out)
            have HO9 := Lib.hid ho
            have HOV := Lib.hid (HOW.out.off HO8.out (by decide) hg)
            clear ho hg HO8 HB8 HX8 HOW
            refine hK.out _ _ (⟨HX9.out.cell 0, HX9.out.cell 1, HX9.out.cell 2, HX9.out.cell 3, HX9.out.cell 4, HX9.out.cell 5, HX9.out.cell 6, HX9.out.cell 7, HX9.out.cell 8⟩) (fun hHeld2 => ?_)
            clear hK K hHeld
            have hHeld := hHeld2
            clear hHeld2
            try simp only [Act.put, List.setIfInBounds_toArray, List.set_cons_zero, List.set_cons_succ, List.getElem_toArray, List.getElem_cons_succ, List.getElem_cons_zero]
            refine wpAnyH_take (i := 13) (v := ?_) rfl (by kernel_rfl) (by kernel_rfl) (by kernel_rfl) (fun _ _ _ h => h) (Or.inl ⟨by rfl, ?_⟩) (by assumption) ?_
            rotate_left
            · intro z hSz
              obtain ⟨c0, c1, c2, c3, c4, c5, c6, c7, c8⟩ := hSz
              go_simp
              try with_reducible rfl
            try simp only [Act.put, List.setIfInBounds_toArray, List.set_cons_zero, List.set_cons_succ, List.getElem_toArray, List.getElem_cons_succ, List.getElem_cons_zero]
            refine wpAnyH_done (by kernel_rfl) ?_ _
            clear hHeld
            go_wp2
            go_roundg gg
            case measure => omega
            case rel =>
              refine ⟨q + 1, [] ++ m.take j ++ [y] ++ m.drop j, by have := HKG.out; omega, by simp, HO9.out.le HWd.out.size, ?_, fun u hu => ?_, HWd.out.trans (HB9.out.mono HWd.out.size)⟩
              · rw [HWT.out, insT_pos, ← HMT.out, ← HJP.out, List.nil_append, List.map_append, List.map_append, List.map_take, List.map_drop, List.map_singleton, HYT.out, List.append_assoc]; exact rfl
              · rw [List.nil_append] at hu
                rcases List.mem_append.1 hu with h | h
                · rcases List.mem_append.1 h with h | h
                  · exact ⟨(HEd.out u (List.mem_of_mem_take h)).1.keep HB9.out, (HEd.out u (List.mem_of_mem_take h)).2⟩
                  · rw [List.mem_singleton.1 h]; exact ⟨HOV.out, by rw [HYT.out]; exact HDX.out.2⟩
                · exact ⟨(HEd.out u (List.mem_of_mem_drop h)).1.keep HB9.out, (HEd.out u (List.mem_of_mem_drop h)).2⟩
      · have HWT := Lib.hid (HNOT.out hon)
        have hne := on_neN HRB.out hon
        generalize onF b.bs x.td.n = on at *
        obtain ⟨he3, he4⟩ := ba_neQ hne
        have he2 : (on.toList == []) = false := by simpa using he3
        clear hne hon HYES HNOT HBX
        go_wp2
        go_roundg gg
        case measure => omega
        case rel => exact ⟨q + 1, m, by have := HKG.out; omega, by simp, HOM.out, by rw [HWT.out]; exact HMR.out, HEM.out, HB3.out⟩
theorem wrf_any (b : Bk) (vn vt vb : Value) (w : World) (hB : Books w w.heap.size vn vt vb b) : Calls Tryz.prog 13 #[.agg #[vn, vt, vb, .int .u64 (b.fe : Nat)]] w (WaitIs b w) := by
  cases hc : chkB b
  · exact wrf_no b vn vt vb w hB hc
  · exact wrf_ok b vn vt vb w hB hc
end Bo
end Go.Proofs.YthbmnkeigmbbdaaGreat

/- gafferlaw11.QueueAsks. -/
namespace Go.Proofs.YthbmnkeigmbbdaaGreat
open Go.RowKit Go.Lib
namespace Bo
open Rw
set_option linter.unusedVariables false
theorem wait_form {b : Bk} {z : World} {e : Ending} {w' : World} {L1 : List Hd.Td} (hL : (if chkB b = true then wtV b else []) = L1) (hF : ∀ t ∈ L1, FitT t) (h : WaitIs b z e w') : ∃ (a : Option Addr) (c : Nat) (m : List TdM), e = .returned (.tuple #[.slice a L1.length c, .int .i64 (chE (chkB b) : Nat)]) ∧ Own w' z.heap.size 42 (.slice a L1.length c) m ∧ m.map (·.td) = L1 ∧ (∀ x ∈ m, DeepT w' w'.heap.size x ∧ FitT x.td) ∧ Below z.heap.size z w' := by
  obtain ⟨v, m, he, ho, hm, hd, hb⟩ := h
  obtain ⟨a, c, rfl⟩ := ho.slice
  rw [hL] at hm
  have hl : m.length = L1.length := by rw [← hm, List.length_map]
  rw [hl] at he ho
  exact ⟨a, c, m, he, ho, hm, fun x hx => by have hf := hF x.td (by rw [← hm]; exact List.mem_map_of_mem hx); exact ⟨(hd x hx).deep hf, hf⟩, hb⟩
theorem load_form {b : Bk} {z : World} {e : Ending} {w' : World} {L2 : List Hd.Nd} (hL : (if chkB b = true then b.ns else []) = L2) (hF : ∀ t ∈ L2, FitN t) (h : LoadIs b z e w') : ∃ (a : Option Addr) (c : Nat) (l : List LdM), e = .returned (.tuple #[.slice a L2.length c, .int .i64 (chE (chkB b) : Nat)]) ∧ Own w' z.heap.size 47 (.slice a L2.length c) l ∧ l.map (fun L : LdM => (L.x.nd, L.u0, L.u1, L.u2)) = L2.map (fun n : Hd.Nd => (n, us0 b n.n, us1 b n.n, us2 b n.n)) ∧ (∀ L ∈ l, DeepN w' w'.heap.size L.x ∧ FitN L.x.nd) ∧ Below z.heap.size z w' := by
  obtain ⟨v, m, he, ho, hm, hd, hb⟩ := h
  obtain ⟨a, c, rfl⟩ := ho.slice
  rw [hL] at hm
  have hl : (m.map (mkL b)).length = L2.length := by rw [← hm, List.length_map, List.length_map]
  rw [hl] at he ho
  refine ⟨a, c, m.map (mkL b), he, ho, ?_, fun L hL2 => ?_, hb⟩
  · rw [← hm, List.map_map, List.map_map]; rfl
  · obtain ⟨x, hx, rfl⟩ := List.mem_map.1 hL2
    have hf := hF x.nd (by rw [← hm]; exact List.mem_map_of_mem hx)
    exact ⟨(hd x hx).deep hf, hf⟩
theorem loadr_form {b : Bk} {z : World} {e : Ending} {w' : World} {L2 : List Hd.Nd} (hL : (if chkB b = true then b.ns else []) = L2) (h : LrfIs b z e w') : ∃ (a : Option Addr) (c : Nat) (l : List LdM), e = .returned (.tuple #[.slice a L2.length c, .int .i64 (chE (chkB b) : Nat)]) ∧ Own w' z.heap.size 47 (.slice a L2.length c) l ∧ l.map (fun L : LdM => (L.x.nd, L.u0, L.u1, L.u2)) = L2.map (fun n : Hd.Nd => (n, us0 b n.n, us1 b n.n, us2 b n.n)) ∧ (∀ L ∈ l, DeepN w' w'.heap.size L.x ∧ FitN L.x.nd) ∧ Below z.heap.size z w' := by
  obtain ⟨v, l, he, ho, hm, hd, hb⟩ := h
  obtain ⟨a, c, rfl⟩ := ho.slice
  have hm2 : l.map (fun L : LdM => (L.x.nd, L.u0, L.u1, L.u2)) = L2.map (fun n : Hd.Nd => (n, us0 b n.n, us1 b n.n, us2 b n.n)) := by
    rw [hm, ← hL]
    split <;> rfl
  have hl : l.length = L2.length := by have h1 := congrArg List.length hm2; rwa [List.length_map, List.length_map] at h1
  rw [hl] at he ho
  exact ⟨a, c, l, he, ho, hm2, fun L hL2 => ⟨(hd L hL2).1.deep (hd L hL2).2, (hd L hL2).2⟩, hb⟩
theorem free_form {b : Bk} {k : ByteArray} {z : World} {e : Ending} {w' : World} (h : FreeIs b k z e w') : ∃ (a : Option Addr) (c : Nat), e = .returned (.tuple #[.slice a (frV b k).length c, .int .i64 (frE b k : Nat)]) ∧ Own w' z.heap.size 9 (.slice a (frV b k).length c) (frV b k) ∧ Below z.heap.size z w' := by
  obtain ⟨v, he, ho, hb⟩ := h
  obtain ⟨a, c, rfl⟩ := ho.slice
  exact ⟨a, c, he, ho, hb⟩
theorem neq_arr (a0 a1 a2 : Int) (w : World) : (binOp .neq 39 (.agg #[.int .i64 a0, .int .i64 a1, .int .i64 a2]) (.agg #[.int .i64 a0, .int .i64 a1, .int .i64 a2])).run Tryz.prog w = .ok (.bool false) w := by
  have h := Rg.eql_arr a0 a1 a2 a0 a1 a2 w
  have he : Rg.eqA a0 a1 a2 a0 a1 a2 = true := by simp [Rg.eqA]
  rw [he, run_eql_struct] at h
  rw [run_neq_struct]
  generalize (Op.equalIn 10000 39 (.agg #[.int .i64 a0, .int .i64 a1, .int .i64 a2]) (.agg #[.int .i64 a0, .int .i64 a1, .int .i64 a2])).run Tryz.prog w = r at *
  cases r with
  | ok b w' =>
    simp only [Result.andThen] at h ⊢
    injection h with h1 h2
    injection h1 with h1
    subst h1 h2
    rfl
  | _ => simp [Result.andThen] at h
set_option maxRecDepth 100000 in
set_option maxHeartbeats 20000000 in
theorem qasks_law (b : Bk) (k : ByteArray) (vb0 : Value) (w : World) (hb : BookArg w vb0 b) : Calls Tryz.prog 3 #[vb0, .string k] w fun e w' => e = .returned (.bool true) ∧ Below w.heap.size w w' := by
  obtain ⟨vn, vt, vb, rfl, hB⟩ := hb
  obtain ⟨⟨a0, c0, rfl⟩, ⟨b0, d0, rfl⟩, ⟨e0, f0, rfl⟩⟩ := And.intro hB.hn.slice (And.intro hB.ht.slice hB.hb.slice)
  obtain ⟨W0, hW0⟩ : ∃ W0, W0 = w.alloc (.cells #[.slice a0 (b).ns.length c0, .slice b0 (b).ts.length d0, .slice e0 (b).bs.length f0, .int .u64 ((b).fe : Nat)] 27) := ⟨_, rfl⟩
  have HB0 : Hid (Below w.heap.size w W0) := by rw [hW0]; exact al w _
  have HX0 : Hid (Hd.Bxn W0 w.heap.size [.slice a0 (b).ns.length c0, .slice b0 (b).ts.length d0, .slice e0 (b).bs.length f0, .int .u64 ((b).fe : Nat)]) := by rw [hW0]; exact Hd.Bxn.made w _ _
  obtain ⟨L1, hL1⟩ : ∃ L, (if chkB b = true then wtV b else []) = L := ⟨_, rfl⟩
  obtain ⟨L2, hL2⟩ : ∃ L, (if chkB b = true then b.ns else []) = L := ⟨_, rfl⟩
  obtain ⟨L3, hL3⟩ : ∃ L, frV b k = L := ⟨_, rfl⟩
  obtain ⟨e1, he1⟩ : ∃ e, chE (chkB b) = e := ⟨_, rfl⟩
  obtain ⟨e3, he3⟩ : ∃ e, frE b k = e := ⟨_, rfl⟩
  have hF1 : ∀ t ∈ L1, FitT t := fun t ht => by
    rw [← hL1] at ht
    split at ht
    · rename_i hc; exact (hB.fine hc).ft t ((wt_mem (rb_of_chk hc)).1 ht).1
    · cases ht
  have hF2 : ∀ t ∈ L2, FitN t := fun t ht => by
    rw [← hL2] at ht
    split at ht
    · rename_i hc; exact (hB.fine hc).fn t ht
    · cases ht
  have HLL : Hid (L1.length ≤ 32 ∧ L2.length ≤ 16 ∧ L3.length ≤ 16) := by
    refine ⟨?_, ?_, ?_⟩
    · rw [← hL1]
      split
      · rename_i hc; have h1 := wt_len (rb_of_chk hc); have h2 := (rb_of_chk hc).lt; omega
      · exact Nat.zero_le _
    · rw [← hL2]
      split
      · rename_i hc; exact (rb_of_chk hc).ln
      · exact Nat.zero_le _
    · rw [← hL3]
      unfold frV
      split
      · rename_i hf
        have hc : chkB b = true := by unfold frE at hf; split at hf; assumption; cases hf
        unfold frL
        have h1 := List.length_filter_le (fun v => decide (canE b k v = 0)) (b.ns.map (·.n))
        rw [List.length_map] at h1
        exact Nat.le_trans h1 (rb_of_chk hc).ln
      · exact Nat.zero_le _
  have H1 : Hid (∀ z, Below w.heap.size w z → Calls Tryz.prog 12 #[.agg #[.slice a0 (b).ns.length c0, .slice b0 (b).ts.length d0, .slice e0 (b).bs.length f0, .int .u64 ((b).fe : Nat)]] z fun e w' => ∃ (a : Option Addr) (c : Nat) (m : List TdM), e = .returned (.tuple #[.slice a L1.length c, .int .i64 (e1 : Nat)]) ∧ Own w' z.heap.size 42 (.slice a L1.length c) m ∧ m.map (·.td) = L1 ∧ (∀ x ∈ m, DeepT w' w'.heap.size x ∧ FitT x.td) ∧ Below z.heap.size z w') := fun z hz => by
    have h := (waitq_any b _ _ _ z (hB.on hz)).mono fun e w' h => wait_form hL1 hF1 h
    rw [he1] at h
    exact h
  have H2 : Hid (∀ z, Below w.heap.size w z → Calls Tryz.prog 13 #[.agg #[.slice a0 (b).ns.length c0, .slice b0 (b).ts.length d0, .slice e0 (b).bs.length f0, .int .u64 ((b).fe : Nat)]] z fun e w' => ∃ (a : Option Addr) (c : Nat) (m : List TdM), e = .returned (.tuple #[.slice a L1.length c, .int .i64 (e1 : Nat)]) ∧ Own w' z.heap.size 42 (.slice a L1.length c) m ∧ m.map (·.td) = L1 ∧ (∀ x ∈ m, DeepT w' w'.heap.size x ∧ FitT x.td) ∧ Below z.heap.size z w') := fun z hz => by
    have h := (wrf_any b _ _ _ z (hB.on hz)).mono fun e w' h => wait_form hL1 hF1 h
    rw [he1] at h
    exact h
  have H3 : Hid (∀ z, Below w.heap.size w z → Calls Tryz.prog 14 #[.agg #[.slice a0 (b).ns.length c0, .slice b0 (b).ts.length d0, .slice e0 (b).bs.length f0, .int .u64 ((b).fe : Nat)]] z fun e w' => ∃ (a : Option Addr) (c : Nat) (l : List LdM), e = .returned (.tuple #[.slice a L2.length c, .int .i64 (e1 : Nat)]) ∧ Own w' z.heap.size 47 (.slice a L2.length c) l ∧ l.map (fun L : LdM => (L.x.nd, L.u0, L.u1, L.u2)) = L2.map (fun n : Hd.Nd => (n, us0 b n.n, us1 b n.n, us2 b n.n)) ∧ (∀ L ∈ l, DeepN w' w'.heap.size L.x ∧ FitN L.x.nd) ∧ Below z.heap.size z w') := fun z hz => by
    have h := (loads_any b _ _ _ z (hB.on hz)).mono fun e w' h => load_form hL2 hF2 h
    rw [he1] at h
    exact h
  have H4 : Hid (∀ z, Below w.heap.size w z → Calls Tryz.prog 15 #[.agg #[.slice a0 (b).ns.length c0, .slice b0 (b).ts.length d0, .slice e0 (b).bs.length f0, .int .u64 ((b).fe : Nat)]] z fun e w' => ∃ (a : Option Addr) (c : Nat) (l : List LdM), e = .returned (.tuple #[.slice a L2.length c, .int .i64 (e1 : Nat)]) ∧ Own w' z.heap.size 47 (.slice a L2.length c) l ∧ l.map (fun L : LdM => (L.x.nd, L.u0, L.u1, L.u2)) = L2.map (fun n : Hd.Nd => (n, us0 b n.n, us1 b n.n, us2 b n.n)) ∧ (∀ L ∈ l, DeepN w' w'.heap.size L.x ∧ FitN L.x.nd) ∧ Below z.heap.size z w') := fun z hz => by
    have h := (lrf_any b _ _ _ z (hB.on hz)).mono fun e w' h => loadr_form hL2 h
    rw [he1] at h
    exact h
  have H5 : Hid (∀ z, Below w.heap.size w z → Calls Tryz.prog 16 #[.agg #[.slice a0 (b).ns.length c0, .slice b0 (b).ts.length d0, .slice e0 (b).bs.length f0, .int .u64 ((b).fe : Nat)], .string k] z fun e w' => ∃ (a : Option Addr) (c : Nat), e = .returned (.tuple #[.slice a L3.length c, .int .i64 (e3 : Nat)]) ∧ Own w' z.heap.size 9 (.slice a L3.length c) L3 ∧ Below z.heap.size z w') := fun z hz => by
    have h := (free_any b _ _ _ k z (hB.on hz)).mono fun e w' h => free_form h
    rw [hL3, he3] at h
    exact h
  have H6 : Hid (∀ z, Below w.heap.size w z → Calls Tryz.prog 17 #[.agg #[.slice a0 (b).ns.length c0, .slice b0 (b).ts.length d0, .slice e0 (b).bs.length f0, .int .u64 ((b).fe : Nat)], .string k] z fun e w' => ∃ (a : Option Addr) (c : Nat), e = .returned (.tuple #[.slice a L3.length c, .int .i64 (e3 : Nat)]) ∧ Own w' z.heap.size 9 (.slice a L3.length c) L3 ∧ Below z.heap.size z w') := fun z hz => by
    have h := (frf_any b _ _ _ k z (hB.on hz)).mono fun e w' h => free_form h
    rw [hL3, he3] at h
    exact h
  have HW := Lib.hid hW0
  clear hW0 hB hL1 hL2 hL3 he1 he3 hF1 hF2
  go_enter Tryz.func3, Tryz.ntmps3
  go_upto_region 1 with fail
  rw [← HW.out]
  clear HW
  have y0 : W0.cell? ⟨w.heap.size, 0, none⟩ = some (.slice a0 (b).ns.length c0) := HX0.out.cell 0
  have y1 : W0.cell? ⟨w.heap.size, 1, none⟩ = some (.slice b0 (b).ts.length d0) := HX0.out.cell 1
  have y2 : W0.cell? ⟨w.heap.size, 2, none⟩ = some (.slice e0 (b).bs.length f0) := HX0.out.cell 2
  have y3 : W0.cell? ⟨w.heap.size, 3, none⟩ = some (.int .u64 ((b).fe : Nat)) := HX0.out.cell 3
  go_wp2_with fail
  refine (H1.out W0 HB0.out).mono ?_
  rintro e u1 ⟨r1, s1, m1, rfl, ho, hm, hd, hb⟩
  have HM1 := Lib.hid hm
  have HD1_1 := Lib.hid hd
  have HO1_1 := Lib.hid ho
  have HX1 := Lib.hid (HX0.out.below hb)
  have HB1 : Hid (Below w.heap.size w u1) := HB0.out.trans (hb.mono HB0.out.size)
  clear hb ho hm hd y0 y1 y2 y3 HX0 HB0 H1
  have y0 : u1.cell? ⟨w.heap.size, 0, none⟩ = some (.slice a0 (b).ns.length c0) := HX1.out.cell 0
  have y1 : u1.cell? ⟨w.heap.size, 1, none⟩ = some (.slice b0 (b).ts.length d0) := HX1.out.cell 1
  have y2 : u1.cell? ⟨w.heap.size, 2, none⟩ = some (.slice e0 (b).bs.length f0) := HX1.out.cell 2
  have y3 : u1.cell? ⟨w.heap.size, 3, none⟩ = some (.int .u64 ((b).fe : Nat)) := HX1.out.cell 3
  go_wp2_with fail
  refine (H2.out u1 HB1.out).mono ?_
  rintro e u2 ⟨r2, s2, m2, rfl, ho, hm, hd, hb⟩
  have HM2 := Lib.hid hm
  have HD2_2 := Lib.hid hd
  have HO2_2 := Lib.hid ho
  have HX2 := Lib.hid (HX1.out.below hb)
  have HB2 : Hid (Below w.heap.size w u2) := HB1.out.trans (hb.mono HB1.out.size)
  have HO1_2 := Lib.hid (HO1_1.out.keep hb)
  have HD1_2 : Hid (∀ x ∈ m1, DeepT u2 u2.heap.size x ∧ FitT x.td) := fun x hx => ⟨(HD1_1.out x hx).1.on hb, (HD1_1.out x hx).2⟩
  clear HO1_1 HD1_1
  clear hb ho hm hd y0 y1 y2 y3 HX1 HB1 H2
  have y0 : u2.cell? ⟨w.heap.size, 0, none⟩ = some (.slice a0 (b).ns.length c0) := HX2.out.cell 0
  have y1 : u2.cell? ⟨w.heap.size, 1, none⟩ = some (.slice b0 (b).ts.length d0) := HX2.out.cell 1
  have y2 : u2.cell? ⟨w.heap.size, 2, none⟩ = some (.slice e0 (b).bs.length f0) := HX2.out.cell 2
  have y3 : u2.cell? ⟨w.heap.size, 3, none⟩ = some (.int .u64 ((b).fe : Nat)) := HX2.out.cell 3
  go_wp2_with fail
  refine (H3.out u2 HB2.out).mono ?_
  rintro e u3 ⟨r3, s3, l1, rfl, ho, hm, hd, hb⟩
  have HM3 := Lib.hid hm
  have HD3_3 := Lib.hid hd
  have HO3_3 := Lib.hid ho
  have HX3 := Lib.hid (HX2.out.below hb)
  have HB3 : Hid (Below w.heap.size w u3) := HB2.out.trans (hb.mono HB2.out.size)
  have HO1_3 := Lib.hid (HO1_2.out.keep hb)
  have HD1_3 : Hid (∀ x ∈ m1, DeepT u3 u3.heap.size x ∧ FitT x.td) := fun x hx => ⟨(HD1_2.out x hx).1.on hb, (HD1_2.out x hx).2⟩
  clear HO1_2 HD1_2
  have HO2_3 := Lib.hid (HO2_2.out.keep hb)
  have HD2_3 : Hid (∀ x ∈ m2, DeepT u3 u3.heap.size x ∧ FitT x.td) := fun x hx => ⟨(HD2_2.out x hx).1.on hb, (HD2_2.out x hx).2⟩
  clear HO2_2 HD2_2
  clear hb ho hm hd y0 y1 y2 y3 HX2 HB2 H3
  have y0 : u3.cell? ⟨w.heap.size, 0, none⟩ = some (.slice a0 (b).ns.length c0) := HX3.out.cell 0
  have y1 : u3.cell? ⟨w.heap.size, 1, none⟩ = some (.slice b0 (b).ts.length d0) := HX3.out.cell 1
  have y2 : u3.cell? ⟨w.heap.size, 2, none⟩ = some (.slice e0 (b).bs.length f0) := HX3.out.cell 2
  have y3 : u3.cell? ⟨w.heap.size, 3, none⟩ = some (.int .u64 ((b).fe : Nat)) := HX3.out.cell 3
  go_wp2_with fail
  refine (H4.out u3 HB3.out).mono ?_
  rintro e u4 ⟨r4, s4, l2, rfl, ho, hm, hd, hb⟩
  have HM4 := Lib.hid hm
  have HD4_4 := Lib.hid hd
  have HO4_4 := Lib.hid ho
  have HX4 := Lib.hid (HX3.out.below hb)
  have HB4 : Hid (Below w.heap.size w u4) := HB3.out.trans (hb.mono HB3.out.size)
  have HO1_4 := Lib.hid (HO1_3.out.keep hb)
  have HD1_4 : Hid (∀ x ∈ m1, DeepT u4 u4.heap.size x ∧ FitT x.td) := fun x hx => ⟨(HD1_3.out x hx).1.on hb, (HD1_3.out x hx).2⟩
  clear HO1_3 HD1_3
  have HO2_4 := Lib.hid (HO2_3.out.keep hb)
  have HD2_4 : Hid (∀ x ∈ m2, DeepT u4 u4.heap.size x ∧ FitT x.td) := fun x hx => ⟨(HD2_3.out x hx).1.on hb, (HD2_3.out x hx).2⟩
  clear HO2_3 HD2_3
  have HO3_4 := Lib.hid (HO3_3.out.keep hb)
  have HD3_4 : Hid (∀ L ∈ l1, DeepN u4 u4.heap.size L.x ∧ FitN L.x.nd) := fun x hx => ⟨(HD3_3.out x hx).1.on hb, (HD3_3.out x hx).2⟩
  clear HO3_3 HD3_3
  clear hb ho hm hd y0 y1 y2 y3 HX3 HB3 H4
  have y0 : u4.cell? ⟨w.heap.size, 0, none⟩ = some (.slice a0 (b).ns.length c0) := HX4.out.cell 0
  have y1 : u4.cell? ⟨w.heap.size, 1, none⟩ = some (.slice b0 (b).ts.length d0) := HX4.out.cell 1
  have y2 : u4.cell? ⟨w.heap.size, 2, none⟩ = some (.slice e0 (b).bs.length f0) := HX4.out.cell 2
  have y3 : u4.cell? ⟨w.heap.size, 3, none⟩ = some (.int .u64 ((b).fe : Nat)) := HX4.out.cell 3
  go_wp2_with fail
  refine (H5.out u4 HB4.out).mono ?_
  rintro e u5 ⟨r5, s5, rfl, ho, hb⟩
  have HO5_5 := Lib.hid ho
  have HX5 := Lib.hid (HX4.out.below hb)
  have HB5 : Hid (Below w.heap.size w u5) := HB4.out.trans (hb.mono HB4.out.size)
  have HO1_5 := Lib.hid (HO1_4.out.keep hb)
  have HD1_5 : Hid (∀ x ∈ m1, DeepT u5 u5.heap.size x ∧ FitT x.td) := fun x hx => ⟨(HD1_4.out x hx).1.on hb, (HD1_4.out x hx).2⟩
  clear HO1_4 HD1_4
  have HO2_5 := Lib.hid (HO2_4.out.keep hb)
  have HD2_5 : Hid (∀ x ∈ m2, DeepT u5 u5.heap.size x ∧ FitT x.td) := fun x hx => ⟨(HD2_4.out x hx).1.on hb, (HD2_4.out x hx).2⟩
  clear HO2_4 HD2_4
  have HO3_5 := Lib.hid (HO3_4.out.keep hb)
  have HD3_5 : Hid (∀ L ∈ l1, DeepN u5 u5.heap.size L.x ∧ FitN L.x.nd) := fun x hx => ⟨(HD3_4.out x hx).1.on hb, (HD3_4.out x hx).2⟩
  clear HO3_4 HD3_4
  have HO4_5 := Lib.hid (HO4_4.out.keep hb)
  have HD4_5 : Hid (∀ L ∈ l2, DeepN u5 u5.heap.size L.x ∧ FitN L.x.nd) := fun x hx => ⟨(HD4_4.out x hx).1.on hb, (HD4_4.out x hx).2⟩
  clear HO4_4 HD4_4
  clear hb ho y0 y1 y2 y3 HX4 HB4 H5
  have y0 : u5.cell? ⟨w.heap.size, 0, none⟩ = some (.slice a0 (b).ns.length c0) := HX5.out.cell 0
  have y1 : u5.cell? ⟨w.heap.size, 1, none⟩ = some (.slice b0 (b).ts.length d0) := HX5.out.cell 1
  have y2 : u5.cell? ⟨w.heap.size, 2, none⟩ = some (.slice e0 (b).bs.length f0) := HX5.out.cell 2
  have y3 : u5.cell? ⟨w.heap.size, 3, none⟩ = some (.int .u64 ((b).fe : Nat)) := HX5.out.cell 3
  go_wp2_with fail
  refine (H6.out u5 HB5.out).mono ?_
  rintro e u6 ⟨r6, s6, rfl, ho, hb⟩
  have HO6_6 := Lib.hid ho
  have HX6 := Lib.hid (HX5.out.below hb)
  have HB6 : Hid (Below w.heap.size w u6) := HB5.out.trans (hb.mono HB5.out.size)
  have HO1_6 := Lib.hid (HO1_5.out.keep hb)
  have HD1_6 : Hid (∀ x ∈ m1, DeepT u6 u6.heap.size x ∧ FitT x.td) := fun x hx => ⟨(HD1_5.out x hx).1.on hb, (HD1_5.out x hx).2⟩
  clear HO1_5 HD1_5
  have HO2_6 := Lib.hid (HO2_5.out.keep hb)
  have HD2_6 : Hid (∀ x ∈ m2, DeepT u6 u6.heap.size x ∧ FitT x.td) := fun x hx => ⟨(HD2_5.out x hx).1.on hb, (HD2_5.out x hx).2⟩
  clear HO2_5 HD2_5
  have HO3_6 := Lib.hid (HO3_5.out.keep hb)
  have HD3_6 : Hid (∀ L ∈ l1, DeepN u6 u6.heap.size L.x ∧ FitN L.x.nd) := fun x hx => ⟨(HD3_5.out x hx).1.on hb, (HD3_5.out x hx).2⟩
  clear HO3_5 HD3_5
  have HO4_6 := Lib.hid (HO4_5.out.keep hb)
  have HD4_6 : Hid (∀ L ∈ l2, DeepN u6 u6.heap.size L.x ∧ FitN L.x.nd) := fun x hx => ⟨(HD4_5.out x hx).1.on hb, (HD4_5.out x hx).2⟩
  clear HO4_5 HD4_5
  have HO5_6 := Lib.hid (HO5_5.out.keep hb)
  clear HO5_5
  clear hb ho y0 y1 y2 y3 HX5 HB5 H6
  go_wp2_with fail
  refine (livesQ_any u6).mono ?_
  rintro e u7 ⟨rfl, hb⟩
  have HB7 : Hid (Below w.heap.size w u7) := HB6.out.trans (hb.mono HB6.out.size)
  have HO1_7 := Lib.hid (HO1_6.out.keep hb)
  have HD1_7 : Hid (∀ x ∈ m1, DeepT u7 u7.heap.size x ∧ FitT x.td) := fun x hx => ⟨(HD1_6.out x hx).1.on hb, (HD1_6.out x hx).2⟩
  clear HO1_6 HD1_6
  have HO2_7 := Lib.hid (HO2_6.out.keep hb)
  have HD2_7 : Hid (∀ x ∈ m2, DeepT u7 u7.heap.size x ∧ FitT x.td) := fun x hx => ⟨(HD2_6.out x hx).1.on hb, (HD2_6.out x hx).2⟩
  clear HO2_6 HD2_6
  have HO3_7 := Lib.hid (HO3_6.out.keep hb)
  have HD3_7 : Hid (∀ L ∈ l1, DeepN u7 u7.heap.size L.x ∧ FitN L.x.nd) := fun x hx => ⟨(HD3_6.out x hx).1.on hb, (HD3_6.out x hx).2⟩
  clear HO3_6 HD3_6
  have HO4_7 := Lib.hid (HO4_6.out.keep hb)
  have HD4_7 : Hid (∀ L ∈ l2, DeepN u7 u7.heap.size L.x ∧ FitN L.x.nd) := fun x hx => ⟨(HD4_6.out x hx).1.on hb, (HD4_6.out x hx).2⟩
  clear HO4_6 HD4_6
  have HO5_7 := Lib.hid (HO5_6.out.keep hb)
  clear HO5_6
  have HO6_7 := Lib.hid (HO6_6.out.keep hb)
  clear HO6_6
  clear hb HX6 HB6
  have n1 : (((e1 : Nat) : Int) != ((e1 : Nat) : Int)) = false := by simp
  have n3 : (((e3 : Nat) : Int) != ((e3 : Nat) : Int)) = false := by simp
  have q1 : ((L1.length : Int) != (L1.length : Int)) = false := by simp
  have q2 : ((L2.length : Int) != (L2.length : Int)) = false := by simp
  have q3 : ((L3.length : Int) != (L3.length : Int)) = false := by simp
  go_wp2
  clear n1 n3 q1 q2 q3
  go_loopg [92] L1.length (fun gg i wx => ∃ j : Nat, j + gg = L1.length ∧ i = .int .i64 j ∧ Aside (Below u7.heap.size u7 wx))
  case atStart => exact ⟨0, by omega, rfl, Below.refl _ _⟩
  case round =>
    obtain ⟨j, hjg, rfl, HA⟩ := hrel
    obtain ⟨z, rfl⟩ : ∃ q, q = wr := ⟨wr, rfl⟩
    have HU : Hid (Below u7.heap.size u7 z) := HA.out
    clear HA
    cases gk with
    | zero =>
      obtain rfl : j = L1.length := by omega
      clear hjg
      have HUq := Lib.hid HU.out
      clear HU
      go_wp2
      go_loopg [108] L2.length (fun gg i wx => ∃ j : Nat, j + gg = L2.length ∧ i = .int .i64 j ∧ Aside (Below u7.heap.size u7 wx))
      case atStart => exact ⟨0, by omega, rfl, HUq.out⟩
      case round =>
        obtain ⟨j, hjg, rfl, HA⟩ := hrel
        obtain ⟨z, rfl⟩ : ∃ q, q = wr := ⟨wr, rfl⟩
        have HU : Hid (Below u7.heap.size u7 z) := HA.out
        clear HA
        cases gk with
        | zero =>
          obtain rfl : j = L2.length := by omega
          clear hjg
          have HUq := Lib.hid HU.out
          clear HU
          go_wp2
          go_loopg [139] L3.length (fun gg i wx => ∃ j : Nat, j + gg = L3.length ∧ i = .int .i64 j ∧ Aside (Below u7.heap.size u7 wx))
          case atStart => exact ⟨0, by omega, rfl, HUq.out⟩
          case round =>
            obtain ⟨j, hjg, rfl, HA⟩ := hrel
            obtain ⟨z, rfl⟩ : ∃ q, q = wr := ⟨wr, rfl⟩
            have HU : Hid (Below u7.heap.size u7 z) := HA.out
            clear HA
            cases gk with
            | zero =>
              obtain rfl : j = L3.length := by omega
              clear hjg
              have HE : Hid (Below w.heap.size w z) := HB7.out.trans (HU.out.mono HB7.out.size)
              go_wp2
              go_ret
              exact ⟨rfl, HE.out⟩
            | succ gg =>
              have hlj : j < L3.length := by omega
              have t2 : (j : Int) < (L3.length : Int) := by omega
              have t3 : IntKind.i64.wrap ((j : Int) + 1) = (j : Int) + 1 := by rw [IntKind.wrap_i64]; have := HLL.out; omega
              have t4 : (0 : Int) ≤ (j : Int) := by omega
              obtain ⟨g1, p1, hv, -, hgl1, hat1, -⟩ := HO5_7.out.form (by omega)
              simp only [Value.slice.injEq] at hv
              obtain ⟨rfl, -, rfl⟩ := hv
              obtain ⟨g2, p2, hv, -, hgl2, hat2, -⟩ := HO6_7.out.form (by omega)
              simp only [Value.slice.injEq] at hv
              obtain ⟨rfl, -, rfl⟩ := hv
              have ha1 : At u7 g1 (j * 1) L3[j] := hat1 j hlj
              have ha2 : At u7 g2 (j * 1) L3[j] := hat2 j hlj
              rw [Nat.mul_one] at ha1 ha2
              generalize L3[j] = nm at *
              have c0 : z.cell? ⟨g1, j, none⟩ = some (.string nm) := (HU.out.cell (by exact hgl1)).trans (ha1 0 _ rfl)
              have c1 : z.cell? ⟨g2, j, none⟩ = some (.string nm) := (HU.out.cell (by exact hgl2)).trans (ha2 0 _ rfl)
              have s0 : (nm.toList == nm.toList) = true := by simp
              have HJG := Lib.hid hjg
              clear hat1 hat2 ha1 ha2 hgl1 hgl2 hlj hjg
              go_upto_region 24 with fail
              go_quiet (fail)
              go_wp2
              go_roundg gg
              case measure => omega
              case rel => exact ⟨j + 1, by have := HJG.out; omega, by simp, Rg.bdN HU.out _⟩
        | succ gg =>
          have hlj : j < L2.length := by omega
          have t2 : (j : Int) < (L2.length : Int) := by omega
          have t3 : IntKind.i64.wrap ((j : Int) + 1) = (j : Int) + 1 := by rw [IntKind.wrap_i64]; have := HLL.out; omega
          have t4 : (0 : Int) ≤ (j : Int) := by omega
          have hm1 : l1.length = L2.length := by have h1 := congrArg List.length HM3.out; rwa [List.length_map, List.length_map] at h1
          have hm2 : l2.length = L2.length := by have h1 := congrArg List.length HM4.out; rwa [List.length_map, List.length_map] at h1
          obtain ⟨g1, p1, hv, -, hgl1, hat1, -⟩ := HO3_7.out.form (by omega)
          simp only [Value.slice.injEq] at hv
          obtain ⟨rfl, -, rfl⟩ := hv
          obtain ⟨g2, p2, hv, -, hgl2, hat2, -⟩ := HO4_7.out.form (by omega)
          simp only [Value.slice.injEq] at hv
          obtain ⟨rfl, -, rfl⟩ := hv
          have ha1 : At u7 g1 (j * 9) l1[j] := hat1 j (by omega)
          have ha2 : At u7 g2 (j * 9) l2[j] := hat2 j (by omega)
          have HEQ : Hid ((l1[j].x.nd, l1[j].u0, l1[j].u1, l1[j].u2) = (l2[j].x.nd, l2[j].u0, l2[j].u1, l2[j].u2)) := by
            have h1 : (l1.map (fun L : LdM => (L.x.nd, L.u0, L.u1, L.u2)))[j]'(by rw [List.length_map]; omega) = (l2.map (fun L : LdM => (L.x.nd, L.u0, L.u1, L.u2)))[j]'(by rw [List.length_map]; omega) := by simp only [HM3.out, HM4.out]
            rw [List.getElem_map, List.getElem_map] at h1
            exact h1
          have HD1 := Lib.hid (HD3_7.out l1[j] (List.getElem_mem (by omega)))
          have HD2 := Lib.hid (HD4_7.out l2[j] (List.getElem_mem (by omega)))
          generalize l1[j]'(by omega) = La at *
          generalize l2[j]'(by omega) = Lb at *
          obtain ⟨x, x0, x1, x2⟩ := La
          obtain ⟨y, y0, y1, y2⟩ := Lb
          obtain ⟨hnd, h0, h1, h2⟩ : x.nd = y.nd ∧ x0 = y0 ∧ x1 = y1 ∧ x2 = y2 := by have h := HEQ.out; simp only [Prod.mk.injEq] at h; exact h
          subst h0 h1 h2
          clear HEQ
          have HST : Hid (∀ v, Below u7.heap.size u7 v → Calls Tryz.prog 20 #[.agg #[.string x.nd.n, .int .i64 x.nd.z0, .int .i64 x.nd.z1, .int .i64 x.nd.z2, .slice x.a2 x.nd.ls.length x.c2, .slice x.a3 x.nd.ts.length x.c3], .agg #[.string y.nd.n, .int .i64 y.nd.z0, .int .i64 y.nd.z1, .int .i64 y.nd.z2, .slice y.a2 y.nd.ls.length y.c2, .slice y.a3 y.nd.ts.length y.c3]] v fun e w' => e = .returned (.bool true) ∧ Below v.heap.size v w') := fun v hv => by
            have h := Hd.same_node x.nd y.nd x.v2 x.v3 y.v2 y.v3 v ((HD1.out.1.on hv).pr HD1.out.2).1 ((HD1.out.1.on hv).pr HD1.out.2).2 ((HD2.out.1.on hv).pr HD2.out.2).1 ((HD2.out.1.on hv).pr HD2.out.2).2
            rw [Hd.smNd_iff.2 hnd] at h
            exact h
          have HSK : Hid (∀ z, Below u7.heap.size u7 z → (z.cell? ⟨g1, j * 9, none⟩ = some (.string x.nd.n) ∧ z.cell? ⟨g1, j * 9 + 1, none⟩ = some (.int .i64 x.nd.z0) ∧ z.cell? ⟨g1, j * 9 + 2, none⟩ = some (.int .i64 x.nd.z1) ∧ z.cell? ⟨g1, j * 9 + 3, none⟩ = some (.int .i64 x.nd.z2) ∧ z.cell? ⟨g1, j * 9 + 4, none⟩ = some (.slice x.a2 x.nd.ls.length x.c2) ∧ z.cell? ⟨g1, j * 9 + 5, none⟩ = some (.slice x.a3 x.nd.ts.length x.c3) ∧ z.cell? ⟨g1, j * 9 + 6, none⟩ = some (.int .i64 x0) ∧ z.cell? ⟨g1, j * 9 + 7, none⟩ = some (.int .i64 x1) ∧ z.cell? ⟨g1, j * 9 + 8, none⟩ = some (.int .i64 x2) ∧ z.cell? ⟨g2, j * 9, none⟩ = some (.string y.nd.n) ∧ z.cell? ⟨g2, j * 9 + 1, none⟩ = some (.int .i64 y.nd.z0) ∧ z.cell? ⟨g2, j * 9 + 2, none⟩ = some (.int .i64 y.nd.z1) ∧ z.cell? ⟨g2, j * 9 + 3, none⟩ = some (.int .i64 y.nd.z2) ∧ z.cell? ⟨g2, j * 9 + 4, none⟩ = some (.slice y.a2 y.nd.ls.length y.c2) ∧ z.cell? ⟨g2, j * 9 + 5, none⟩ = some (.slice y.a3 y.nd.ts.length y.c3) ∧ z.cell? ⟨g2, j * 9 + 6, none⟩ = some (.int .i64 x0) ∧ z.cell? ⟨g2, j * 9 + 7, none⟩ = some (.int .i64 x1) ∧ z.cell? ⟨g2, j * 9 + 8, none⟩ = some (.int .i64 x2))) := fun z hz => ⟨(hz.cell (by exact hgl1)).trans (ha1 0 _ rfl), (hz.cell (by exact hgl1)).trans (ha1 1 _ rfl), (hz.cell (by exact hgl1)).trans (ha1 2 _ rfl), (hz.cell (by exact hgl1)).trans (ha1 3 _ rfl), (hz.cell (by exact hgl1)).trans (ha1 4 _ rfl), (hz.cell (by exact hgl1)).trans (ha1 5 _ rfl), (hz.cell (by exact hgl1)).trans (ha1 6 _ rfl), (hz.cell (by exact hgl1)).trans (ha1 7 _ rfl), (hz.cell (by exact hgl1)).trans (ha1 8 _ rfl), (hz.cell (by exact hgl2)).trans (ha2 0 _ rfl), (hz.cell (by exact hgl2)).trans (ha2 1 _ rfl), (hz.cell (by exact hgl2)).trans (ha2 2 _ rfl), (hz.cell (by exact hgl2)).trans (ha2 3 _ rfl), (hz.cell (by exact hgl2)).trans (ha2 4 _ rfl), (hz.cell (by exact hgl2)).trans (ha2 5 _ rfl), (hz.cell (by exact hgl2)).trans (ha2 6 _ rfl), (hz.cell (by exact hgl2)).trans (ha2 7 _ rfl), (hz.cell (by exact hgl2)).trans (ha2 8 _ rfl)⟩
          have HJG := Lib.hid hjg
          have hq := neq_arr x0 x1 x2
          have gf := Rg.guard_arr
          clear hat1 hat2 ha1 ha2 hgl1 hgl2 hm1 hm2 hlj hjg hnd
          go_upto_region 18 with fail
          have HUd : Hid (Below u7.heap.size u7 z.drew) := ⟨HU.out.os, HU.out.tape, HU.out.output, HU.out.size, HU.out.block⟩
          refine wp_region_held_drew (S := fun z => z.cell? ⟨g1, j * 9, none⟩ = some (.string x.nd.n) ∧ z.cell? ⟨g1, j * 9 + 1, none⟩ = some (.int .i64 x.nd.z0) ∧ z.cell? ⟨g1, j * 9 + 2, none⟩ = some (.int .i64 x.nd.z1) ∧ z.cell? ⟨g1, j * 9 + 3, none⟩ = some (.int .i64 x.nd.z2) ∧ z.cell? ⟨g1, j * 9 + 4, none⟩ = some (.slice x.a2 x.nd.ls.length x.c2) ∧ z.cell? ⟨g1, j * 9 + 5, none⟩ = some (.slice x.a3 x.nd.ts.length x.c3) ∧ z.cell? ⟨g1, j * 9 + 6, none⟩ = some (.int .i64 x0) ∧ z.cell? ⟨g1, j * 9 + 7, none⟩ = some (.int .i64 x1) ∧ z.cell? ⟨g1, j * 9 + 8, none⟩ = some (.int .i64 x2) ∧ z.cell? ⟨g2, j * 9, none⟩ = some (.string y.nd.n) ∧ z.cell? ⟨g2, j * 9 + 1, none⟩ = some (.int .i64 y.nd.z0) ∧ z.cell? ⟨g2, j * 9 + 2, none⟩ = some (.int .i64 y.nd.z1) ∧ z.cell? ⟨g2, j * 9 + 3, none⟩ = some (.int .i64 y.nd.z2) ∧ z.cell? ⟨g2, j * 9 + 4, none⟩ = some (.slice y.a2 y.nd.ls.length y.c2) ∧ z.cell? ⟨g2, j * 9 + 5, none⟩ = some (.slice y.a3 y.nd.ts.length y.c3) ∧ z.cell? ⟨g2, j * 9 + 6, none⟩ = some (.int .i64 x0) ∧ z.cell? ⟨g2, j * 9 + 7, none⟩ = some (.int .i64 x1) ∧ z.cell? ⟨g2, j * 9 + 8, none⟩ = some (.int .i64 x2)) (by kernel_rfl) (HSK.out z.drew HUd.out) (fun hHeld => ?_)
          refine wpAnyH_take (i := 0) (v := ?_) rfl (by kernel_rfl) (by kernel_rfl) (by kernel_rfl) (fun _ _ _ h => h) (Or.inl ⟨by rfl, ?_⟩) (by assumption) ?_
          rotate_left
          · intro z hSz
            obtain ⟨c0, c1, c2, c3, c4, c5, c6, c7, c8, c9, c10, c11, c12, c13, c14, c15, c16, c17⟩ := hSz
            go_simp
            try with_reducible rfl
          try simp only [Act.put, List.setIfInBounds_toArray, List.set_cons_zero, List.set_cons_succ, List.getElem_toArray, List.getElem_cons_zero]
          refine wpAnyH_take (i := 1) (v := ?_) rfl (by kernel_rfl) (by kernel_rfl) (by kernel_rfl) (fun _ _ _ h => h) (Or.inl ⟨by rfl, ?_⟩) (by assumption) ?_
          rotate_left
          · intro z hSz
            obtain ⟨c0, c1, c2, c3, c4, c5, c6, c7, c8, c9, c10, c11, c12, c13, c14, c15, c16, c17⟩ := hSz
            go_simp
            try with_reducible rfl
          try simp only [Act.put, List.setIfInBounds_toArray, List.set_cons_zero, List.set_cons_succ, List.getElem_toArray, List.getElem_cons_succ, List.getElem_cons_zero]
          refine wpAnyH_take (i := 2) (v := ?_) rfl (by kernel_rfl) (by kernel_rfl) (by kernel_rfl) (fun _ _ _ h => h) (Or.inl ⟨by rfl, ?_⟩) (by assumption) ?_
          rotate_left
          · intro z hSz
            obtain ⟨c0, c1, c2, c3, c4, c5, c6, c7, c8, c9, c10, c11, c12, c13, c14, c15, c16, c17⟩ := hSz
            go_simp
            try with_reducible rfl
          try simp only [Act.put, List.setIfInBounds_toArray, List.set_cons_zero, List.set_cons_succ, List.getElem_toArray, List.getElem_cons_succ, List.getElem_cons_zero]
          refine wpAnyH_take (i := 3) (v := ?_) rfl (by kernel_rfl) (by kernel_rfl) (by kernel_rfl) (fun _ _ _ h => h) (Or.inl ⟨by rfl, ?_⟩) (by assumption) ?_
          rotate_left
          · intro z hSz
            obtain ⟨c0, c1, c2, c3, c4, c5, c6, c7, c8, c9, c10, c11, c12, c13, c14, c15, c16, c17⟩ := hSz
            go_simp
            try with_reducible rfl
          try simp only [Act.put, List.setIfInBounds_toArray, List.set_cons_zero, List.set_cons_succ, List.getElem_toArray, List.getElem_cons_succ, List.getElem_cons_zero]
          refine wpAnyH_take (i := 4) (v := ?_) rfl (by kernel_rfl) (by kernel_rfl) (by kernel_rfl) (fun _ _ _ h => h) (Or.inl ⟨by rfl, ?_⟩) (by assumption) ?_
          rotate_left
          · intro z hSz
            obtain ⟨c0, c1, c2, c3, c4, c5, c6, c7, c8, c9, c10, c11, c12, c13, c14, c15, c16, c17⟩ := hSz
            go_simp
            try with_reducible rfl
          try simp only [Act.put, List.setIfInBounds_toArray, List.set_cons_zero, List.set_cons_succ, List.getElem_toArray, List.getElem_cons_succ, List.getElem_cons_zero]
          refine wpAnyH_take (i := 5) (v := ?_) rfl (by kernel_rfl) (by kernel_rfl) (by kernel_rfl) (fun _ _ _ h => h) (Or.inl ⟨by rfl, ?_⟩) (by assumption) ?_
          rotate_left
          · intro z hSz
            obtain ⟨c0, c1, c2, c3, c4, c5, c6, c7, c8, c9, c10, c11, c12, c13, c14, c15, c16, c17⟩ := hSz
            go_simp
            try with_reducible rfl
          try simp only [Act.put, List.setIfInBounds_toArray, List.set_cons_zero, List.set_cons_succ, List.getElem_toArray, List.getElem_cons_succ, List.getElem_cons_zero]
          refine wpAnyH_take (i := 6) (v := ?_) rfl (by kernel_rfl) (by kernel_rfl) (by kernel_rfl) (fun _ _ _ h => h) (Or.inl ⟨by rfl, ?_⟩) (by assumption) ?_
          rotate_left
          · intro z hSz
            obtain ⟨c0, c1, c2, c3, c4, c5, c6, c7, c8, c9, c10, c11, c12, c13, c14, c15, c16, c17⟩ := hSz
            go_simp
            try with_reducible rfl
          try simp only [Act.put, List.setIfInBounds_toArray, List.set_cons_zero, List.set_cons_succ, List.getElem_toArray, List.getElem_cons_succ, List.getElem_cons_zero]
          refine wpAnyH_take (i := 7) (v := ?_) rfl (by kernel_rfl) (by kernel_rfl) (by kernel_rfl) (fun _ _ _ h => h) (Or.inl ⟨by rfl, ?_⟩) (by assumption) ?_
          rotate_left
          · intro z hSz
            obtain ⟨c0, c1, c2, c3, c4, c5, c6, c7, c8, c9, c10, c11, c12, c13, c14, c15, c16, c17⟩ := hSz
            go_simp
            try with_reducible rfl
          try simp only [Act.put, List.setIfInBounds_toArray, List.set_cons_zero, List.set_cons_succ, List.getElem_toArray, List.getElem_cons_succ, List.getElem_cons_zero]
          refine wpAnyH_take (i := 8) (v := ?_) rfl (by kernel_rfl) (by kernel_rfl) (by kernel_rfl) (fun _ _ _ h => h) (Or.inl ⟨by rfl, ?_⟩) (by assumption) ?_
          rotate_left
          · intro z hSz
            obtain ⟨c0, c1, c2, c3, c4, c5, c6, c7, c8, c9, c10, c11, c12, c13, c14, c15, c16, c17⟩ := hSz
            go_simp
            try with_reducible rfl
          try simp only [Act.put, List.setIfInBounds_toArray, List.set_cons_zero, List.set_cons_succ, List.getElem_toArray, List.getElem_cons_succ, List.getElem_cons_zero]
          refine wpAnyH_take (i := 9) (v := ?_) rfl (by kernel_rfl) (by kernel_rfl) (by kernel_rfl) (fun _ _ _ h => h) (Or.inl ⟨by rfl, ?_⟩) (by assumption) ?_
          rotate_left
          · intro z hSz
            obtain ⟨c0, c1, c2, c3, c4, c5, c6, c7, c8, c9, c10, c11, c12, c13, c14, c15, c16, c17⟩ := hSz
            go_simp
            try with_reducible rfl
          try simp only [Act.put, List.setIfInBounds_toArray, List.set_cons_zero, List.set_cons_succ, List.getElem_toArray, List.getElem_cons_succ, List.getElem_cons_zero]
          refine wpAnyH_ready (rs := [10]) (by kernel_rfl) (by simp) ?_
          refine AllReadyH.cons rfl (fun K hK => ?_) AllReadyH.nil
          go_simp
          refine (HST.out _ HUd.out).mono ?_
          rintro e z2 ⟨rfl, hb⟩
          have HV : Hid (Below u7.heap.size u7 z2) := HUd.out.trans (hb.mono HUd.out.size)
          refine hK.out _ _ (HSK.out z2 HV.out) (fun hHeld2 => ?_)
          clear hK K hHeld
          have hHeld := hHeld2
          clear hHeld2
          try simp only [Act.put, List.setIfInBounds_toArray, List.set_cons_zero, List.set_cons_succ, List.getElem_toArray, List.getElem_cons_succ, List.getElem_cons_zero]
          clear hb
          refine wpAnyH_take (i := 11) (v := ?_) rfl (by kernel_rfl) (by kernel_rfl) (by kernel_rfl) (fun _ _ _ h => h) (Or.inl ⟨by rfl, ?_⟩) (by assumption) ?_
          rotate_left
          · intro z hSz
            obtain ⟨c0, c1, c2, c3, c4, c5, c6, c7, c8, c9, c10, c11, c12, c13, c14, c15, c16, c17⟩ := hSz
            go_simp
            try with_reducible rfl
          try simp only [Act.put, List.setIfInBounds_toArray, List.set_cons_zero, List.set_cons_succ, List.getElem_toArray, List.getElem_cons_succ, List.getElem_cons_zero]
          refine wpAnyH_take (i := 12) (v := ?_) rfl (by kernel_rfl) (by kernel_rfl) (by kernel_rfl) (fun _ _ _ h => h) (Or.inl ⟨by rfl, ?_⟩) (by assumption) ?_
          rotate_left
          · intro z hSz
            obtain ⟨c0, c1, c2, c3, c4, c5, c6, c7, c8, c9, c10, c11, c12, c13, c14, c15, c16, c17⟩ := hSz
            go_simp
            try with_reducible rfl
          try simp only [Act.put, List.setIfInBounds_toArray, List.set_cons_zero, List.set_cons_succ, List.getElem_toArray, List.getElem_cons_succ, List.getElem_cons_zero]
          refine wpAnyH_take (i := 13) (v := ?_) rfl (by kernel_rfl) (by kernel_rfl) (by kernel_rfl) (fun _ _ _ h => h) (Or.inl ⟨by rfl, ?_⟩) (by assumption) ?_
          rotate_left
          · intro z hSz
            obtain ⟨c0, c1, c2, c3, c4, c5, c6, c7, c8, c9, c10, c11, c12, c13, c14, c15, c16, c17⟩ := hSz
            go_simp
            try with_reducible rfl
          try simp only [Act.put, List.setIfInBounds_toArray, List.set_cons_zero, List.set_cons_succ, List.getElem_toArray, List.getElem_cons_succ, List.getElem_cons_zero]
          refine wpAnyH_take (i := 14) (v := ?_) rfl (by kernel_rfl) (by kernel_rfl) (by kernel_rfl) (fun _ _ _ h => h) (Or.inl ⟨by rfl, ?_⟩) (by assumption) ?_
          rotate_left
          · intro z hSz
            obtain ⟨c0, c1, c2, c3, c4, c5, c6, c7, c8, c9, c10, c11, c12, c13, c14, c15, c16, c17⟩ := hSz
            go_simp
            try with_reducible rfl
          try simp only [Act.put, List.setIfInBounds_toArray, List.set_cons_zero, List.set_cons_succ, List.getElem_toArray, List.getElem_cons_succ, List.getElem_cons_zero]
          refine wpAnyH_take (i := 15) (v := ?_) rfl (by kernel_rfl) (by kernel_rfl) (by kernel_rfl) (fun _ _ _ h => h) (Or.inl ⟨by rfl, ?_⟩) (by assumption) ?_
          rotate_left
          · intro z hSz
            obtain ⟨c0, c1, c2, c3, c4, c5, c6, c7, c8, c9, c10, c11, c12, c13, c14, c15, c16, c17⟩ := hSz
            go_simp
            try with_reducible rfl
          try simp only [Act.put, List.setIfInBounds_toArray, List.set_cons_zero, List.set_cons_succ, List.getElem_toArray, List.getElem_cons_succ, List.getElem_cons_zero]
          refine wpAnyH_take (i := 16) (v := ?_) rfl (by kernel_rfl) (by kernel_rfl) (by kernel_rfl) (fun _ _ _ h => h) (Or.inl ⟨by rfl, ?_⟩) (by assumption) ?_
          rotate_left
          · intro z hSz
            obtain ⟨c0, c1, c2, c3, c4, c5, c6, c7, c8, c9, c10, c11, c12, c13, c14, c15, c16, c17⟩ := hSz
            go_simp
            try with_reducible rfl
          try simp only [Act.put, List.setIfInBounds_toArray, List.set_cons_zero, List.set_cons_succ, List.getElem_toArray, List.getElem_cons_succ, List.getElem_cons_zero]
          refine wpAnyH_take (i := 17) (v := ?_) rfl (by kernel_rfl) (by kernel_rfl) (by kernel_rfl) (fun _ _ _ h => h) (Or.inl ⟨by rfl, ?_⟩) (by assumption) ?_
          rotate_left
          · intro z hSz
            obtain ⟨c0, c1, c2, c3, c4, c5, c6, c7, c8, c9, c10, c11, c12, c13, c14, c15, c16, c17⟩ := hSz
            go_simp
            try with_reducible rfl
          try simp only [Act.put, List.setIfInBounds_toArray, List.set_cons_zero, List.set_cons_succ, List.getElem_toArray, List.getElem_cons_succ, List.getElem_cons_zero]
          refine wpAnyH_take (i := 18) (v := ?_) rfl (by kernel_rfl) (by kernel_rfl) (by kernel_rfl) (fun _ _ _ h => h) (Or.inl ⟨by rfl, ?_⟩) (by assumption) ?_
          rotate_left
          · intro z hSz
            obtain ⟨c0, c1, c2, c3, c4, c5, c6, c7, c8, c9, c10, c11, c12, c13, c14, c15, c16, c17⟩ := hSz
            go_simp
            try with_reducible rfl
          try simp only [Act.put, List.setIfInBounds_toArray, List.set_cons_zero, List.set_cons_succ, List.getElem_toArray, List.getElem_cons_succ, List.getElem_cons_zero]
          refine wpAnyH_take (i := 19) (v := ?_) rfl (by kernel_rfl) (by kernel_rfl) (by kernel_rfl) (fun _ _ _ h => h) (Or.inl ⟨by rfl, ?_⟩) (by assumption) ?_
          rotate_left
          · intro z hSz
            obtain ⟨c0, c1, c2, c3, c4, c5, c6, c7, c8, c9, c10, c11, c12, c13, c14, c15, c16, c17⟩ := hSz
            go_simp
            try with_reducible rfl
          try simp only [Act.put, List.setIfInBounds_toArray, List.set_cons_zero, List.set_cons_succ, List.getElem_toArray, List.getElem_cons_succ, List.getElem_cons_zero]
          refine wpAnyH_take (i := 20) (v := ?_) rfl (by kernel_rfl) (by kernel_rfl) (by kernel_rfl) (fun _ _ _ h => h) (Or.inl ⟨by rfl, ?_⟩) (by assumption) ?_
          rotate_left
          · intro z hSz
            obtain ⟨c0, c1, c2, c3, c4, c5, c6, c7, c8, c9, c10, c11, c12, c13, c14, c15, c16, c17⟩ := hSz
            go_simp
            try with_reducible rfl
          try simp only [Act.put, List.setIfInBounds_toArray, List.set_cons_zero, List.set_cons_succ, List.getElem_toArray, List.getElem_cons_succ, List.getElem_cons_zero]
          refine wpAnyH_take (i := 21) (v := ?_) rfl (by kernel_rfl) (by kernel_rfl) (by kernel_rfl) (fun _ _ _ h => h) (Or.inl ⟨by rfl, ?_⟩) (by assumption) ?_
          rotate_left
          · intro z hSz
            obtain ⟨c0, c1, c2, c3, c4, c5, c6, c7, c8, c9, c10, c11, c12, c13, c14, c15, c16, c17⟩ := hSz
            go_simp
            try with_reducible rfl
          try simp only [Act.put, List.setIfInBounds_toArray, List.set_cons_zero, List.set_cons_succ, List.getElem_toArray, List.getElem_cons_succ, List.getElem_cons_zero]
          refine wpAnyH_take (i := 22) (v := ?_) rfl (by kernel_rfl) (by kernel_rfl) (by kernel_rfl) (fun _ _ _ h => h) (Or.inl ⟨by rfl, ?_⟩) (by assumption) ?_
          rotate_left
          · intro z hSz
            obtain ⟨c0, c1, c2, c3, c4, c5, c6, c7, c8, c9, c10, c11, c12, c13, c14, c15, c16, c17⟩ := hSz
            go_simp
            try with_reducible rfl
          try simp only [Act.put, List.setIfInBounds_toArray, List.set_cons_zero, List.set_cons_succ, List.getElem_toArray, List.getElem_cons_succ, List.getElem_cons_zero]
          refine wpAnyH_take (i := 23) (v := ?_) rfl (by kernel_rfl) (by kernel_rfl) (by kernel_rfl) (fun _ _ _ h => h) (Or.inl ⟨by rfl, ?_⟩) (by assumption) ?_
          rotate_left
          · intro z hSz
            obtain ⟨c0, c1, c2, c3, c4, c5, c6, c7, c8, c9, c10, c11, c12, c13, c14, c15, c16, c17⟩ := hSz
            go_simp
            try with_reducible rfl
          try simp only [Act.put, List.setIfInBounds_toArray, List.set_cons_zero, List.set_cons_succ, List.getElem_toArray, List.getElem_cons_succ, List.getElem_cons_zero]
          refine wpAnyH_take (i := 24) (v := ?_) rfl (by kernel_rfl) (by kernel_rfl) (by kernel_rfl) (fun _ _ _ h => h) (Or.inl ⟨by rfl, ?_⟩) (by assumption) ?_
          rotate_left
          · intro z hSz
            obtain ⟨c0, c1, c2, c3, c4, c5, c6, c7, c8, c9, c10, c11, c12, c13, c14, c15, c16, c17⟩ := hSz
            go_simp
            try with_reducible rfl
          try simp only [Act.put, List.setIfInBounds_toArray, List.set_cons_zero, List.set_cons_succ, List.getElem_toArray, List.getElem_cons_succ, List.getElem_cons_zero]
          refine wpAnyH_done (by kernel_rfl) ?_ _
          clear hHeld HSK HST HUd HU hq gf
          go_wp2
          go_roundg gg
          case measure => omega
          case rel => exact ⟨j + 1, by have := HJG.out; omega, by simp, HV.out⟩
    | succ gg =>
      have hlj : j < L1.length := by omega
      have t2 : (j : Int) < (L1.length : Int) := by omega
      have t3 : IntKind.i64.wrap ((j : Int) + 1) = (j : Int) + 1 := by rw [IntKind.wrap_i64]; have := HLL.out; omega
      have t4 : (0 : Int) ≤ (j : Int) := by omega
      have hm1 : m1.length = L1.length := by rw [← HM1.out, List.length_map]
      have hm2 : m2.length = L1.length := by rw [← HM2.out, List.length_map]
      obtain ⟨g1, p1, hv, -, hgl1, hat1, -⟩ := HO1_7.out.form (by omega)
      simp only [Value.slice.injEq] at hv
      obtain ⟨rfl, -, rfl⟩ := hv
      obtain ⟨g2, p2, hv, -, hgl2, hat2, -⟩ := HO2_7.out.form (by omega)
      simp only [Value.slice.injEq] at hv
      obtain ⟨rfl, -, rfl⟩ := hv
      have ha1 : At u7 g1 (j * 9) m1[j] := hat1 j (by omega)
      have ha2 : At u7 g2 (j * 9) m2[j] := hat2 j (by omega)
      have HEQ : Hid (m1[j].td = m2[j].td) := by
        have h1 : (m1.map (·.td))[j]'(by rw [List.length_map]; omega) = (m2.map (·.td))[j]'(by rw [List.length_map]; omega) := by simp only [HM1.out, HM2.out]
        rw [List.getElem_map, List.getElem_map] at h1
        exact h1
      have HD1 := Lib.hid (HD1_7.out m1[j] (List.getElem_mem (by omega)))
      have HD2 := Lib.hid (HD2_7.out m2[j] (List.getElem_mem (by omega)))
      generalize m1[j]'(by omega) = x at *
      generalize m2[j]'(by omega) = y at *
      have HST : Hid (∀ v, Below u7.heap.size u7 v → Calls Tryz.prog 19 #[.agg #[.string x.td.n, .int .i64 x.td.z0, .int .i64 x.td.z1, .int .i64 x.td.z2, .slice x.a4 x.td.ws.length x.c4, .slice x.a5 x.td.bs.length x.c5, .string x.td.g, .string x.td.a, .int .i64 x.td.r], .agg #[.string y.td.n, .int .i64 y.td.z0, .int .i64 y.td.z1, .int .i64 y.td.z2, .slice y.a4 y.td.ws.length y.c4, .slice y.a5 y.td.bs.length y.c5, .string y.td.g, .string y.td.a, .int .i64 y.td.r]] v fun e w' => e = .returned (.bool true) ∧ Below v.heap.size v w') := fun v hv => by
        have h := Hd.same_task x.td y.td x.v4 x.v5 y.v4 y.v5 v ((HD1.out.1.on hv).pr HD1.out.2).1 ((HD1.out.1.on hv).pr HD1.out.2).2 ((HD2.out.1.on hv).pr HD2.out.2).1 ((HD2.out.1.on hv).pr HD2.out.2).2
        rw [Hd.smTd_iff.2 HEQ.out] at h
        exact h
      have HSK : Hid (∀ z, Below u7.heap.size u7 z → (z.cell? ⟨g1, j * 9, none⟩ = some (.string x.td.n) ∧ z.cell? ⟨g1, j * 9 + 1, none⟩ = some (.int .i64 x.td.z0) ∧ z.cell? ⟨g1, j * 9 + 2, none⟩ = some (.int .i64 x.td.z1) ∧ z.cell? ⟨g1, j * 9 + 3, none⟩ = some (.int .i64 x.td.z2) ∧ z.cell? ⟨g1, j * 9 + 4, none⟩ = some (.slice x.a4 x.td.ws.length x.c4) ∧ z.cell? ⟨g1, j * 9 + 5, none⟩ = some (.slice x.a5 x.td.bs.length x.c5) ∧ z.cell? ⟨g1, j * 9 + 6, none⟩ = some (.string x.td.g) ∧ z.cell? ⟨g1, j * 9 + 7, none⟩ = some (.string x.td.a) ∧ z.cell? ⟨g1, j * 9 + 8, none⟩ = some (.int .i64 x.td.r) ∧ z.cell? ⟨g2, j * 9, none⟩ = some (.string y.td.n) ∧ z.cell? ⟨g2, j * 9 + 1, none⟩ = some (.int .i64 y.td.z0) ∧ z.cell? ⟨g2, j * 9 + 2, none⟩ = some (.int .i64 y.td.z1) ∧ z.cell? ⟨g2, j * 9 + 3, none⟩ = some (.int .i64 y.td.z2) ∧ z.cell? ⟨g2, j * 9 + 4, none⟩ = some (.slice y.a4 y.td.ws.length y.c4) ∧ z.cell? ⟨g2, j * 9 + 5, none⟩ = some (.slice y.a5 y.td.bs.length y.c5) ∧ z.cell? ⟨g2, j * 9 + 6, none⟩ = some (.string y.td.g) ∧ z.cell? ⟨g2, j * 9 + 7, none⟩ = some (.string y.td.a) ∧ z.cell? ⟨g2, j * 9 + 8, none⟩ = some (.int .i64 y.td.r))) := fun z hz => ⟨(hz.cell (by exact hgl1)).trans (ha1 0 _ rfl), (hz.cell (by exact hgl1)).trans (ha1 1 _ rfl), (hz.cell (by exact hgl1)).trans (ha1 2 _ rfl), (hz.cell (by exact hgl1)).trans (ha1 3 _ rfl), (hz.cell (by exact hgl1)).trans (ha1 4 _ rfl), (hz.cell (by exact hgl1)).trans (ha1 5 _ rfl), (hz.cell (by exact hgl1)).trans (ha1 6 _ rfl), (hz.cell (by exact hgl1)).trans (ha1 7 _ rfl), (hz.cell (by exact hgl1)).trans (ha1 8 _ rfl), (hz.cell (by exact hgl2)).trans (ha2 0 _ rfl), (hz.cell (by exact hgl2)).trans (ha2 1 _ rfl), (hz.cell (by exact hgl2)).trans (ha2 2 _ rfl), (hz.cell (by exact hgl2)).trans (ha2 3 _ rfl), (hz.cell (by exact hgl2)).trans (ha2 4 _ rfl), (hz.cell (by exact hgl2)).trans (ha2 5 _ rfl), (hz.cell (by exact hgl2)).trans (ha2 6 _ rfl), (hz.cell (by exact hgl2)).trans (ha2 7 _ rfl), (hz.cell (by exact hgl2)).trans (ha2 8 _ rfl)⟩
      have HJG := Lib.hid hjg
      clear hat1 hat2 ha1 ha2 hgl1 hgl2 hm1 hm2 hlj hjg
      go_upto_region 12 with fail
      have HUd : Hid (Below u7.heap.size u7 z.drew) := ⟨HU.out.os, HU.out.tape, HU.out.output, HU.out.size, HU.out.block⟩
      refine wp_region_held_drew (S := fun z => z.cell? ⟨g1, j * 9, none⟩ = some (.string x.td.n) ∧ z.cell? ⟨g1, j * 9 + 1, none⟩ = some (.int .i64 x.td.z0) ∧ z.cell? ⟨g1, j * 9 + 2, none⟩ = some (.int .i64 x.td.z1) ∧ z.cell? ⟨g1, j * 9 + 3, none⟩ = some (.int .i64 x.td.z2) ∧ z.cell? ⟨g1, j * 9 + 4, none⟩ = some (.slice x.a4 x.td.ws.length x.c4) ∧ z.cell? ⟨g1, j * 9 + 5, none⟩ = some (.slice x.a5 x.td.bs.length x.c5) ∧ z.cell? ⟨g1, j * 9 + 6, none⟩ = some (.string x.td.g) ∧ z.cell? ⟨g1, j * 9 + 7, none⟩ = some (.string x.td.a) ∧ z.cell? ⟨g1, j * 9 + 8, none⟩ = some (.int .i64 x.td.r) ∧ z.cell? ⟨g2, j * 9, none⟩ = some (.string y.td.n) ∧ z.cell? ⟨g2, j * 9 + 1, none⟩ = some (.int .i64 y.td.z0) ∧ z.cell? ⟨g2, j * 9 + 2, none⟩ = some (.int .i64 y.td.z1) ∧ z.cell? ⟨g2, j * 9 + 3, none⟩ = some (.int .i64 y.td.z2) ∧ z.cell? ⟨g2, j * 9 + 4, none⟩ = some (.slice y.a4 y.td.ws.length y.c4) ∧ z.cell? ⟨g2, j * 9 + 5, none⟩ = some (.slice y.a5 y.td.bs.length y.c5) ∧ z.cell? ⟨g2, j * 9 + 6, none⟩ = some (.string y.td.g) ∧ z.cell? ⟨g2, j * 9 + 7, none⟩ = some (.string y.td.a) ∧ z.cell? ⟨g2, j * 9 + 8, none⟩ = some (.int .i64 y.td.r)) (by kernel_rfl) (HSK.out z.drew HUd.out) (fun hHeld => ?_)
      refine wpAnyH_take (i := 0) (v := ?_) rfl (by kernel_rfl) (by kernel_rfl) (by kernel_rfl) (fun _ _ _ h => h) (Or.inl ⟨by rfl, ?_⟩) (by assumption) ?_
      rotate_left
      · intro z hSz
        obtain ⟨c0, c1, c2, c3, c4, c5, c6, c7, c8, c9, c10, c11, c12, c13, c14, c15, c16, c17⟩ := hSz
        go_simp
        try with_reducible rfl
      try simp only [Act.put, List.setIfInBounds_toArray, List.set_cons_zero, List.set_cons_succ, List.getElem_toArray, List.getElem_cons_zero]
      refine wpAnyH_take (i := 1) (v := ?_) rfl (by kernel_rfl) (by kernel_rfl) (by kernel_rfl) (fun _ _ _ h => h) (Or.inl ⟨by rfl, ?_⟩) (by assumption) ?_
      rotate_left
      · intro z hSz
        obtain ⟨c0, c1, c2, c3, c4, c5, c6, c7, c8, c9, c10, c11, c12, c13, c14, c15, c16, c17⟩ := hSz
        go_simp
        try with_reducible rfl
      try simp only [Act.put, List.setIfInBounds_toArray, List.set_cons_zero, List.set_cons_succ, List.getElem_toArray, List.getElem_cons_succ, List.getElem_cons_zero]
      refine wpAnyH_take (i := 2) (v := ?_) rfl (by kernel_rfl) (by kernel_rfl) (by kernel_rfl) (fun _ _ _ h => h) (Or.inl ⟨by rfl, ?_⟩) (by assumption) ?_
      rotate_left
      · intro z hSz
        obtain ⟨c0, c1, c2, c3, c4, c5, c6, c7, c8, c9, c10, c11, c12, c13, c14, c15, c16, c17⟩ := hSz
        go_simp
        try with_reducible rfl
      try simp only [Act.put, List.setIfInBounds_toArray, List.set_cons_zero, List.set_cons_succ, List.getElem_toArray, List.getElem_cons_succ, List.getElem_cons_zero]
      refine wpAnyH_take (i := 3) (v := ?_) rfl (by kernel_rfl) (by kernel_rfl) (by kernel_rfl) (fun _ _ _ h => h) (Or.inl ⟨by rfl, ?_⟩) (by assumption) ?_
      rotate_left
      · intro z hSz
        obtain ⟨c0, c1, c2, c3, c4, c5, c6, c7, c8, c9, c10, c11, c12, c13, c14, c15, c16, c17⟩ := hSz
        go_simp
        try with_reducible rfl
      try simp only [Act.put, List.setIfInBounds_toArray, List.set_cons_zero, List.set_cons_succ, List.getElem_toArray, List.getElem_cons_succ, List.getElem_cons_zero]
      refine wpAnyH_take (i := 4) (v := ?_) rfl (by kernel_rfl) (by kernel_rfl) (by kernel_rfl) (fun _ _ _ h => h) (Or.inl ⟨by rfl, ?_⟩) (by assumption) ?_
      rotate_left
      · intro z hSz
        obtain ⟨c0, c1, c2, c3, c4, c5, c6, c7, c8, c9, c10, c11, c12, c13, c14, c15, c16, c17⟩ := hSz
        go_simp
        try with_reducible rfl
      try simp only [Act.put, List.setIfInBounds_toArray, List.set_cons_zero, List.set_cons_succ, List.getElem_toArray, List.getElem_cons_succ, List.getElem_cons_zero]
      refine wpAnyH_take (i := 5) (v := ?_) rfl (by kernel_rfl) (by kernel_rfl) (by kernel_rfl) (fun _ _ _ h => h) (Or.inl ⟨by rfl, ?_⟩) (by assumption) ?_
      rotate_left
      · intro z hSz
        obtain ⟨c0, c1, c2, c3, c4, c5, c6, c7, c8, c9, c10, c11, c12, c13, c14, c15, c16, c17⟩ := hSz
        go_simp
        try with_reducible rfl
      try simp only [Act.put, List.setIfInBounds_toArray, List.set_cons_zero, List.set_cons_succ, List.getElem_toArray, List.getElem_cons_succ, List.getElem_cons_zero]
      refine wpAnyH_take (i := 6) (v := ?_) rfl (by kernel_rfl) (by kernel_rfl) (by kernel_rfl) (fun _ _ _ h => h) (Or.inl ⟨by rfl, ?_⟩) (by assumption) ?_
      rotate_left
      · intro z hSz
        obtain ⟨c0, c1, c2, c3, c4, c5, c6, c7, c8, c9, c10, c11, c12, c13, c14, c15, c16, c17⟩ := hSz
        go_simp
        try with_reducible rfl
      try simp only [Act.put, List.setIfInBounds_toArray, List.set_cons_zero, List.set_cons_succ, List.getElem_toArray, List.getElem_cons_succ, List.getElem_cons_zero]
      refine wpAnyH_take (i := 7) (v := ?_) rfl (by kernel_rfl) (by kernel_rfl) (by kernel_rfl) (fun _ _ _ h => h) (Or.inl ⟨by rfl, ?_⟩) (by assumption) ?_
      rotate_left
      · intro z hSz
        obtain ⟨c0, c1, c2, c3, c4, c5, c6, c7, c8, c9, c10, c11, c12, c13, c14, c15, c16, c17⟩ := hSz
        go_simp
        try with_reducible rfl
      try simp only [Act.put, List.setIfInBounds_toArray, List.set_cons_zero, List.set_cons_succ, List.getElem_toArray, List.getElem_cons_succ, List.getElem_cons_zero]
      refine wpAnyH_ready (rs := [8]) (by kernel_rfl) (by simp) ?_
      refine AllReadyH.cons rfl (fun K hK => ?_) AllReadyH.nil
      go_simp
      refine (HST.out _ HUd.out).mono ?_
      rintro e z2 ⟨rfl, hb⟩
      have HV : Hid (Below u7.heap.size u7 z2) := HUd.out.trans (hb.mono HUd.out.size)
      refine hK.out _ _ (HSK.out z2 HV.out) (fun hHeld2 => ?_)
      clear hK K hHeld
      have hHeld := hHeld2
      clear hHeld2
      try simp only [Act.put, List.setIfInBounds_toArray, List.set_cons_zero, List.set_cons_succ, List.getElem_toArray, List.getElem_cons_succ, List.getElem_cons_zero]
      clear hb
      refine wpAnyH_take (i := 9) (v := ?_) rfl (by kernel_rfl) (by kernel_rfl) (by kernel_rfl) (fun _ _ _ h => h) (Or.inl ⟨by rfl, ?_⟩) (by assumption) ?_
      rotate_left
      · intro z hSz
        obtain ⟨c0, c1, c2, c3, c4, c5, c6, c7, c8, c9, c10, c11, c12, c13, c14, c15, c16, c17⟩ := hSz
        go_simp
        try with_reducible rfl
      try simp only [Act.put, List.setIfInBounds_toArray, List.set_cons_zero, List.set_cons_succ, List.getElem_toArray, List.getElem_cons_succ, List.getElem_cons_zero]
      refine wpAnyH_done (by kernel_rfl) ?_ _
      clear hHeld HSK HST HUd HU
      go_wp2
      go_roundg gg
      case measure => omega
      case rel => exact ⟨j + 1, by have := HJG.out; omega, by simp, HV.out⟩
end Bo
end Go.Proofs.YthbmnkeigmbbdaaGreat
