/-
  Merged: BoLead, BoKeep, BoCanQ, BoUse, BoUsedQ.
-/
import Derived.Test.YthbmnkeigmbbdaaGreatBgY
import Derived.Test.YthbmnkeigmbbdaaGreatBgB
import Derived.Test.YthbmnkeigmbbdaaGreatBgU
/-
  book.Lead: WHATEVER THE BOOK.
-/
namespace Go.Proofs.YthbmnkeigmbbdaaGreat
open Go.RowKit Go.Lib
namespace Bo
open Rw
set_option linter.unusedVariables false
/-- The two boxes of a function that is given a book and gives one. -/
structure Fr2 (w z : World) (cs : List Value) (rs : List Value) : Prop where
  p : Hd.Bxn z w.heap.size cs
  r : Hd.Bxn z (w.heap.size + 1) rs
  b : Below w.heap.size w z
  s : w.heap.size + 1 + 1 ≤ z.heap.size
theorem Fr2.made (w : World) (cs rs : List Value) (T V : TypeId) : Fr2 w ((w.alloc (.cells cs.toArray T)).alloc (.cells rs.toArray V)) cs rs := by
  have h1 := Hd.Bxn.made w cs T
  have h2 := Hd.Bxn.made (w.alloc (.cells cs.toArray T)) rs V
  simp only [World.size_alloc] at h2
  exact ⟨h1.below (al _ _), h2, ((Below.refl _ w).alloc (Nat.le_refl _) _).alloc (by simp) _, by simp⟩
theorem Fr2.below {w z z' : World} {cs rs : List Value} (h : Fr2 w z cs rs) (hb : Below z.heap.size z z') : Fr2 w z' cs rs :=
  ⟨h.p.below hb, h.r.below hb, h.b.trans (hb.mono h.b.size), Nat.le_trans h.s hb.size⟩
theorem Fr2.setP {w z : World} {cs rs : List Value} (h : Fr2 w z cs rs) (vs : List Value) (hl : vs.length = cs.length) : Fr2 w (z.setCells w.heap.size 0 vs) vs rs :=
  ⟨h.p.all vs hl, bxn_far h.r (by omega), below_setCells h.b (by omega) _ _, Nat.le_trans h.s (grown_setCells z w.heap.size 0 vs).size⟩
theorem Fr2.setR {w z : World} {cs rs : List Value} (h : Fr2 w z cs rs) (vs : List Value) (hl : vs.length = rs.length) : Fr2 w (z.setCells (w.heap.size + 1) 0 vs) cs vs :=
  ⟨bxn_far h.p (by omega), h.r.all vs hl, below_setCells h.b (by omega) _ _, Nat.le_trans h.s (grown_setCells z (w.heap.size + 1) 0 vs).size⟩
theorem Fr2.one {w z : World} {cs rs : List Value} (h : Fr2 w z cs rs) (i : Nat) (v : Value) : Fr2 w (z.setCell ⟨w.heap.size, i, none⟩ v) (cs.set i v) rs :=
  ⟨h.p.set i v, h.r.apart (by omega) _ _, h.b.setCell (Nat.le_refl _) _, Nat.le_trans h.s (grown_setCell z w.heap.size i v).size⟩
/-- What a leader's beginning makes of a book. -/
def ldF (b : Bk) (t : Nat) : Bk × Nat := if chkB b = true then (⟨b.ns, b.ts, b.bs, max b.fe t⟩, 0) else (bk0, 10)
def GaveL (b : Bk) (r : Nat) (w : World) (e : Ending) (w' : World) : Prop := ∃ vn vt vb mn mt, e = .returned (.tuple #[.agg #[vn, vt, vb, .int .u64 (b.fe : Nat)], .int .i64 (r : Nat)]) ∧ b.ns = mn.map (·.nd) ∧ b.ts = mt.map (·.td) ∧ OwnL w' w.heap.size vn vt vb mn mt b.bs ∧ Below w.heap.size w w'
theorem GaveL.mk {b : Bk} {r : Nat} {w w' : World} {vn vt vb : Value} (mn : List NdM) (mt : List TdM) (h1 : b.ns = mn.map (·.nd)) (h2 : b.ts = mt.map (·.td)) (h3 : OwnL w' w.heap.size vn vt vb mn mt b.bs) (h4 : Below w.heap.size w w') : GaveL b r w (.returned (.tuple #[.agg #[vn, vt, vb, .int .u64 (b.fe : Nat)], .int .i64 (r : Nat)])) w' := ⟨vn, vt, vb, mn, mt, rfl, h1, h2, h3, h4⟩
set_option maxRecDepth 100000 in
set_option maxHeartbeats 4000000 in
theorem lead_no (b : Bk) (vn vt vb : Value) (t : Nat) (w : World) (hB : Books w w.heap.size vn vt vb b) (hc : chkB b = false) : Calls Tryz.prog 76 #[.agg #[vn, vt, vb, .int .u64 (b.fe : Nat)], .int .u64 (t : Nat)] w (GaveL bk0 10 w) := by
  obtain ⟨W0, hW0⟩ : ∃ W0, W0 = (w.alloc (.cells #[vn, vt, vb, .int .u64 (b.fe : Nat)] 27)).alloc (.cells #[.slice none 0 0, .slice none 0 0, .slice none 0 0, .int .u64 0] 27) := ⟨_, rfl⟩
  have hf0 : Fr2 w W0 [vn, vt, vb, .int .u64 (b.fe : Nat)] [.slice none 0 0, .slice none 0 0, .slice none 0 0, .int .u64 0] := by rw [hW0]; exact Fr2.made w _ _ _ _
  have HCK : Hid (Calls Tryz.prog 28 #[.agg #[vn, vt, vb, .int .u64 (b.fe : Nat)]] W0 fun e w' => e = .returned (.int .i64 10) ∧ Below W0.heap.size W0 w') := (check_any b vn vt vb W0 (hB.on hf0.b)).mono fun e w' ⟨he, hb⟩ => ⟨by rw [hc] at he; exact he, hb⟩
  obtain ⟨an, cn, hvn⟩ := hB.hn.slice
  obtain ⟨at', ct, hvt⟩ := hB.ht.slice
  obtain ⟨ab, cb, hvb⟩ := hB.hb.slice
  subst hvn hvt hvb
  have HW := Lib.hid hW0
  have HF0 : Hid (Fr2 w W0 [.slice an b.ns.length cn, .slice at' b.ts.length ct, .slice ab b.bs.length cb, .int .u64 (b.fe : Nat)] [.slice none 0 0, .slice none 0 0, .slice none 0 0, .int .u64 0]) := hf0
  clear hW0 hf0 hB hc
  go_enter Tryz.func76, Tryz.ntmps76
  go_upto_region 1 with fail
  rw [← HW.out]
  have b0 : W0.cell? ⟨w.heap.size, 0, none⟩ = some (.slice an b.ns.length cn) := HF0.out.p.cell 0
  have b1 : W0.cell? ⟨w.heap.size, 1, none⟩ = some (.slice at' b.ts.length ct) := HF0.out.p.cell 1
  have b2 : W0.cell? ⟨w.heap.size, 2, none⟩ = some (.slice ab b.bs.length cb) := HF0.out.p.cell 2
  have b3 : W0.cell? ⟨w.heap.size, 3, none⟩ = some (.int .u64 (b.fe : Nat)) := HF0.out.p.cell 3
  go_wp2_with fail
  refine HCK.out.mono ?_
  rintro e w1 ⟨rfl, hb⟩
  have HF1 : Hid (Fr2 w w1 [.slice an b.ns.length cn, .slice at' b.ts.length ct, .slice ab b.bs.length cb, .int .u64 (b.fe : Nat)] [.slice none 0 0, .slice none 0 0, .slice none 0 0, .int .u64 0]) := HF0.out.below hb
  clear hb b0 b1 b2 b3
  go_upto_region 3 with fail
  refine wp_region_list ?_
  refine wpList_plain rfl fun K hK => ?_
  go_simp
  refine hK _ _ ?_
  clear hK K
  refine wpList_plain rfl fun K hK => ?_
  go_simp
  refine hK _ _ ?_
  clear hK K
  have hthR := HF1.out.r.there 4 rfl
  refine wpList_store_mid rfl 27 (.tmp 4) (.tmp 11) rfl (w.heap.size + 1) 0 #[.slice none 0 0, .slice none 0 0, .slice none 0 0, .int .u64 0] rfl rfl hthR rfl (all_oneCell_toArray (b4_one _)) ?_
  rw [show (#[.slice none 0 0, .slice none 0 0, .slice none 0 0, .int .u64 0] : Array Value).toList = [.slice none 0 0, .slice none 0 0, .slice none 0 0, .int .u64 0] from rfl]
  have HR1 : Hid (Fr2 w (w1.setCells (w.heap.size + 1) 0 [.slice none 0 0, .slice none 0 0, .slice none 0 0, .int .u64 0]) [.slice an b.ns.length cn, .slice at' b.ts.length ct, .slice ab b.bs.length cb, .int .u64 (b.fe : Nat)] [.slice none 0 0, .slice none 0 0, .slice none 0 0, .int .u64 0]) := HF1.out.setR [.slice none 0 0, .slice none 0 0, .slice none 0 0, .int .u64 0] rfl
  clear hthR
  generalize w1.setCells (w.heap.size + 1) 0 [.slice none 0 0, .slice none 0 0, .slice none 0 0, .int .u64 0] = z1 at *
  refine wpList_plain rfl fun K hK => ?_
  go_simp
  refine hK _ _ ?_
  clear hK K
  refine wpList_nil ?_
  go_wp2
  exact Hd.bodyPost_bx2 rfl (w.heap.size + 1) [.slice none 0 0, .slice none 0 0, .slice none 0 0, .int .u64 0] _ rfl rfl HR1.out.r Tryz.underlying27 rfl rfl (GaveL.mk (b := bk0) (r := 10) [] [] rfl rfl ⟨Own.nil _ _ _, Own.nil _ _ _, Own.nil _ _ _, by simp, by simp⟩ HR1.out.b)
set_option maxRecDepth 100000 in
set_option maxHeartbeats 4000000 in
theorem lead_ok (b : Bk) (vn vt vb : Value) (t : Nat) (w : World) (hB : Books w w.heap.size vn vt vb b) (ht : t < 18446744073709551616) (hc : chkB b = true) : Calls Tryz.prog 76 #[.agg #[vn, vt, vb, .int .u64 (b.fe : Nat)], .int .u64 (t : Nat)] w (GaveL ⟨b.ns, b.ts, b.bs, max b.fe t⟩ 0 w) := by
  obtain ⟨W0, hW0⟩ : ∃ W0, W0 = (w.alloc (.cells #[vn, vt, vb, .int .u64 (b.fe : Nat)] 27)).alloc (.cells #[.slice none 0 0, .slice none 0 0, .slice none 0 0, .int .u64 0] 27) := ⟨_, rfl⟩
  have hf0 : Fr2 w W0 [vn, vt, vb, .int .u64 (b.fe : Nat)] [.slice none 0 0, .slice none 0 0, .slice none 0 0, .int .u64 0] := by rw [hW0]; exact Fr2.made w _ _ _ _
  have HCK : Hid (Calls Tryz.prog 28 #[.agg #[vn, vt, vb, .int .u64 (b.fe : Nat)]] W0 fun e w' => e = .returned (.int .i64 0) ∧ Below W0.heap.size W0 w') := (check_any b vn vt vb W0 (hB.on hf0.b)).mono fun e w' ⟨he, hb⟩ => ⟨by rw [hc] at he; exact he, hb⟩
  have HCL : Hid (∀ z, Hid (Below w.heap.size w z) → Calls Tryz.prog 51 #[.agg #[vn, vt, vb, .int .u64 (b.fe : Nat)]] z (ClnB b z)) := fun z hz => clone_bk b vn vt vb z (hB.on hz.out) (hB.fine hc)
  obtain ⟨an, cn, hvn⟩ := hB.hn.slice
  obtain ⟨at', ct, hvt⟩ := hB.ht.slice
  obtain ⟨ab, cb, hvb⟩ := hB.hb.slice
  subst hvn hvt hvb
  have HW := Lib.hid hW0
  have HF0 : Hid (Fr2 w W0 [.slice an b.ns.length cn, .slice at' b.ts.length ct, .slice ab b.bs.length cb, .int .u64 (b.fe : Nat)] [.slice none 0 0, .slice none 0 0, .slice none 0 0, .int .u64 0]) := hf0
  clear hW0 hf0 hB hc
  go_enter Tryz.func76, Tryz.ntmps76
  go_upto_region 1 with fail
  rw [← HW.out]
  have b0 : W0.cell? ⟨w.heap.size, 0, none⟩ = some (.slice an b.ns.length cn) := HF0.out.p.cell 0
  have b1 : W0.cell? ⟨w.heap.size, 1, none⟩ = some (.slice at' b.ts.length ct) := HF0.out.p.cell 1
  have b2 : W0.cell? ⟨w.heap.size, 2, none⟩ = some (.slice ab b.bs.length cb) := HF0.out.p.cell 2
  have b3 : W0.cell? ⟨w.heap.size, 3, none⟩ = some (.int .u64 (b.fe : Nat)) := HF0.out.p.cell 3
  go_wp2_with fail
  refine HCK.out.mono ?_
  rintro e w1 ⟨rfl, hb⟩
  have HF1 : Hid (Fr2 w w1 [.slice an b.ns.length cn, .slice at' b.ts.length ct, .slice ab b.bs.length cb, .int .u64 (b.fe : Nat)] [.slice none 0 0, .slice none 0 0, .slice none 0 0, .int .u64 0]) := HF0.out.below hb
  clear hb b0 b1 b2 b3
  go_upto_region 4 with fail
  refine wp_region_list ?_
  refine wpList_load_mid rfl 27 (.tmp 2) rfl w.heap.size 0 rfl [.slice an b.ns.length cn, .slice at' b.ts.length ct, .slice ab b.bs.length cb, .int .u64 (b.fe : Nat)] _ (HF1.out.p.range 0) Tryz.underlying27 rfl rfl ?_
  refine wpList_plain rfl fun K hK => ?_
  go_wp2_with fail
  refine (HCL.out w1 HF1.out.b).mono ?_
  rintro e w2 ⟨v1, v3, v5, m1, m3, rfl, he1, he3, hol, hb⟩
  obtain ⟨a1, d1, rfl⟩ := hol.hn.slice
  obtain ⟨a3', d3, rfl⟩ := hol.ht.slice
  obtain ⟨a5', d5, rfl⟩ := hol.hb.slice
  have HF2 : Hid (Fr2 w w2 [.slice an b.ns.length cn, .slice at' b.ts.length ct, .slice ab b.bs.length cb, .int .u64 (b.fe : Nat)] [.slice none 0 0, .slice none 0 0, .slice none 0 0, .int .u64 0]) := HF1.out.below hb
  have HO2 : Hid (OwnL w2 (w.heap.size + 1 + 1) (.slice a1 m1.length d1) (.slice a3' m3.length d3) (.slice a5' b.bs.length d5) m1 m3 b.bs) := hol.le HF1.out.s
  have HE1 := Lib.hid he1
  have HE3 := Lib.hid he3
  clear hb hol he1 he3
  refine hK _ _ ?_
  clear hK K
  have hthP := HF2.out.p.there 4 rfl
  refine wpList_store_mid rfl 27 (.tmp 2) (.tmp 14) rfl w.heap.size 0 #[.slice a1 m1.length d1, .slice a3' m3.length d3, .slice a5' b.bs.length d5, .int .u64 (b.fe : Nat)] rfl rfl hthP rfl (all_oneCell_toArray (b4_one _)) ?_
  rw [show (#[.slice a1 m1.length d1, .slice a3' m3.length d3, .slice a5' b.bs.length d5, .int .u64 (b.fe : Nat)] : Array Value).toList = [.slice a1 m1.length d1, .slice a3' m3.length d3, .slice a5' b.bs.length d5, .int .u64 (b.fe : Nat)] from rfl]
  have HF3 : Hid (Fr2 w (w2.setCells w.heap.size 0 [.slice a1 m1.length d1, .slice a3' m3.length d3, .slice a5' b.bs.length d5, .int .u64 (b.fe : Nat)]) [.slice a1 m1.length d1, .slice a3' m3.length d3, .slice a5' b.bs.length d5, .int .u64 (b.fe : Nat)] [.slice none 0 0, .slice none 0 0, .slice none 0 0, .int .u64 0]) := HF2.out.setP [.slice a1 m1.length d1, .slice a3' m3.length d3, .slice a5' b.bs.length d5, .int .u64 (b.fe : Nat)] rfl
  have HO3 : Hid (OwnL (w2.setCells w.heap.size 0 [.slice a1 m1.length d1, .slice a3' m3.length d3, .slice a5' b.bs.length d5, .int .u64 (b.fe : Nat)]) (w.heap.size + 1 + 1) (.slice a1 m1.length d1) (.slice a3' m3.length d3) (.slice a5' b.bs.length d5) m1 m3 b.bs) := ownl_set HO2.out (by omega)
  clear hthP HF2 HO2 HF1
  generalize w2.setCells w.heap.size 0 [.slice a1 m1.length d1, .slice a3' m3.length d3, .slice a5' b.bs.length d5, .int .u64 (b.fe : Nat)] = w3 at *
  refine wpList_nil ?_
  go_upto_region 5 with fail
  have p3 : w3.cell? ⟨w.heap.size, 3, none⟩ = some (.int .u64 (b.fe : Nat)) := HF3.out.p.cell 3
  have f3 := HF3.out.p.fz 3
  have hmx : max (b.fe : Int) (t : Int) = ((max b.fe t : Nat) : Int) := by omega
  have HF4 : Hid (Fr2 w (w3.setCell ⟨w.heap.size, 3, none⟩ (.int .u64 (max (b.fe : Int) (t : Int)))) [.slice a1 m1.length d1, .slice a3' m3.length d3, .slice a5' b.bs.length d5, .int .u64 (max b.fe t : Nat)] [.slice none 0 0, .slice none 0 0, .slice none 0 0, .int .u64 0]) := by rw [hmx]; exact HF3.out.one 3 _
  clear hmx
  have HL : Hid (OwnL (w3.setCell ⟨w.heap.size, 3, none⟩ (.int .u64 (max (b.fe : Int) (t : Int)))) (w.heap.size + 1 + 1) (.slice a1 m1.length d1) (.slice a3' m3.length d3) (.slice a5' b.bs.length d5) m1 m3 b.bs) := HO3.out.far (grown_setCell w3 w.heap.size 3 _) (by omega)
  go_upto_region 6 with fail
  generalize w3.setCell ⟨w.heap.size, 3, none⟩ (.int .u64 (max (b.fe : Int) (t : Int))) = w4 at *
  clear p3 f3
  refine wp_region_list ?_
  refine wpList_load_mid rfl 27 (.tmp 2) rfl w.heap.size 0 rfl [.slice a1 m1.length d1, .slice a3' m3.length d3, .slice a5' b.bs.length d5, .int .u64 (max b.fe t : Nat)] _ (HF4.out.p.range 0) Tryz.underlying27 rfl rfl ?_
  have hthR := HF4.out.r.there 4 rfl
  refine wpList_store_mid rfl 27 (.tmp 4) (.tmp 20) rfl (w.heap.size + 1) 0 #[.slice a1 m1.length d1, .slice a3' m3.length d3, .slice a5' b.bs.length d5, .int .u64 (max b.fe t : Nat)] rfl rfl hthR rfl (all_oneCell_toArray (b4_one _)) ?_
  rw [show (#[.slice a1 m1.length d1, .slice a3' m3.length d3, .slice a5' b.bs.length d5, .int .u64 (max b.fe t : Nat)] : Array Value).toList = [.slice a1 m1.length d1, .slice a3' m3.length d3, .slice a5' b.bs.length d5, .int .u64 (max b.fe t : Nat)] from rfl]
  have HR1 : Hid (Fr2 w (w4.setCells (w.heap.size + 1) 0 [.slice a1 m1.length d1, .slice a3' m3.length d3, .slice a5' b.bs.length d5, .int .u64 (max b.fe t : Nat)]) [.slice a1 m1.length d1, .slice a3' m3.length d3, .slice a5' b.bs.length d5, .int .u64 (max b.fe t : Nat)] [.slice a1 m1.length d1, .slice a3' m3.length d3, .slice a5' b.bs.length d5, .int .u64 (max b.fe t : Nat)]) := HF4.out.setR [.slice a1 m1.length d1, .slice a3' m3.length d3, .slice a5' b.bs.length d5, .int .u64 (max b.fe t : Nat)] rfl
  have HL1 : Hid (OwnL (w4.setCells (w.heap.size + 1) 0 [.slice a1 m1.length d1, .slice a3' m3.length d3, .slice a5' b.bs.length d5, .int .u64 (max b.fe t : Nat)]) (w.heap.size + 1 + 1) (.slice a1 m1.length d1) (.slice a3' m3.length d3) (.slice a5' b.bs.length d5) m1 m3 b.bs) := ownl_set HL.out (by omega)
  clear hthR
  generalize w4.setCells (w.heap.size + 1) 0 [.slice a1 m1.length d1, .slice a3' m3.length d3, .slice a5' b.bs.length d5, .int .u64 (max b.fe t : Nat)] = z1 at *
  refine wpList_plain rfl fun K hK => ?_
  go_simp
  refine hK _ _ ?_
  clear hK K
  refine wpList_nil ?_
  go_wp2
  exact Hd.bodyPost_bx2 rfl (w.heap.size + 1) [.slice a1 m1.length d1, .slice a3' m3.length d3, .slice a5' b.bs.length d5, .int .u64 (max b.fe t : Nat)] _ rfl rfl HR1.out.r Tryz.underlying27 rfl rfl (GaveL.mk (b := ⟨b.ns, b.ts, b.bs, max b.fe t⟩) (r := 0) m1 m3 HE1.out HE3.out (HL1.out.le (by omega)) HR1.out.b)
theorem lead_any (b : Bk) (vn vt vb : Value) (t : Nat) (w : World) (hB : Books w w.heap.size vn vt vb b) (ht : t < 18446744073709551616) : Calls Tryz.prog 76 #[.agg #[vn, vt, vb, .int .u64 (b.fe : Nat)], .int .u64 (t : Nat)] w (GaveL (ldF b t).1 (ldF b t).2 w) := by
  unfold ldF
  cases hc : chkB b
  · rw [if_neg (by decide)]
    exact lead_no b vn vt vb t w hB hc
  · rw [if_pos rfl]
    exact lead_ok b vn vt vb t w hB ht hc
end Bo
end Go.Proofs.YthbmnkeigmbbdaaGreat

/-
  A RIGHT BOOK STAYS RIGHT, whatever is done to it.
-/
namespace Go.Proofs.YthbmnkeigmbbdaaGreat
open Go.RowKit Go.Lib
namespace Bo
open Rw
set_option linter.unusedVariables false
section
variable {α : Type} {f : α → ByteArray}
end
theorem tOf_same {ts ts' : List Hd.Td} (hr : Ris (ts.map (·.n))) (hr' : Ris (ts'.map (·.n))) {k : ByteArray} (hk : hasK (ts.map (·.n)) k = true) (hs : ∀ x ∈ ts, x.n = k → x ∈ ts') : tOf ts' k = tOf ts k := by
  obtain ⟨y, hy, rfl⟩ := has_mem hk
  rw [tOf_at hr hy, tOf_at hr' (hs y hy rfl)]
/-- Other tasks, among them all that are bound. -/
theorem RB.tasks {b : Bk} (h : RB b) {ts : List Hd.Td} (h1 : ts.length ≤ 32) (h2 : ∀ x ∈ ts, okT x = true) (h3 : Ris (ts.map (·.n))) (h4 : ∀ o ∈ b.bs, ∀ x ∈ b.ts, x.n = o.k → x ∈ ts) : RB ⟨b.ns, ts, b.bs, b.fe⟩ := by
  have he : ∀ o ∈ b.bs, tOf ts o.k = tOf b.ts o.k := fun o ho => tOf_same h.rt h3 (h.on o ho).1 (h4 o ho)
  refine ⟨h.ln, h.kn, h.rn, h1, h2, h3, h.rb, fun o ho => ?_, ?_, fun v hv => ?_⟩
  · obtain ⟨o1, o2, o3⟩ := h.on o ho
    refine ⟨?_, o2, ?_⟩
    · obtain ⟨y, hy, hk⟩ := has_mem o1
      exact has_iff.2 (List.mem_map.2 ⟨y, h4 o ho y hy hk, hk⟩)
    · show suB (tOf ts o.k) _ = true
      rw [he o ho]; exact o3
  · refine h.be.imp_of_mem ?_
    intro o p ho hp hb hv
    show beB (tOf ts o.k) (tOf ts p.k) = true
    rw [he o ho, he p hp]; exact hb hv
  · have h5 := h.ro v hv
    simp only [us0, us1, us2] at h5 ⊢
    rw [thr_congr he]; exact h5
end Bo
end Go.Proofs.YthbmnkeigmbbdaaGreat

/-
  book.Can: WHATEVER THE BOOK.
-/
namespace Go.Proofs.YthbmnkeigmbbdaaGreat
open Go.RowKit Go.Lib
namespace Bo
open Rw
set_option linter.unusedVariables false
/-- Whether a task can be on a node, asked of whatever book. -/
def canF (b : Bk) (k v : ByteArray) : Nat := if chkB b = true then canE b k v else 10
set_option maxRecDepth 100000 in
set_option maxHeartbeats 4000000 in
theorem canq_any (b : Bk) (vn vt vb : Value) (k v : ByteArray) (w : World) (hB : Books w w.heap.size vn vt vb b) :
    Calls Tryz.prog 30 #[.agg #[vn, vt, vb, .int .u64 (b.fe : Nat)], .string k, .string v] w fun e w' => e = .returned (.int .i64 (canF b k v : Nat)) ∧ Below w.heap.size w w' := by
  obtain ⟨W0, hW0⟩ : ∃ W0, W0 = w.alloc (.cells #[vn, vt, vb, .int .u64 (b.fe : Nat)] 27) := ⟨_, rfl⟩
  have hb0 : Below w.heap.size w W0 := by rw [hW0]; exact al w _
  have hx0 : Hd.Bxn W0 w.heap.size [vn, vt, vb, .int .u64 (b.fe : Nat)] := by rw [hW0]; exact Hd.Bxn.made w _ _
  have HCK : Hid (Calls Tryz.prog 28 #[.agg #[vn, vt, vb, .int .u64 (b.fe : Nat)]] W0 fun e w' => e = .returned (.int .i64 (chE (chkB b) : Nat)) ∧ Below W0.heap.size W0 w') := check_any b vn vt vb W0 (hB.on hb0)
  have HW := Lib.hid hW0
  have HB0 := Lib.hid hb0
  have HX0 : Hid (Hd.Bxn W0 w.heap.size [vn, vt, vb, .int .u64 (b.fe : Nat)]) := hx0
  unfold canF
  cases hc : chkB b
  · rw [if_neg (by decide)]
    have HC2 : Hid (Calls Tryz.prog 28 #[.agg #[vn, vt, vb, .int .u64 (b.fe : Nat)]] W0 fun e w' => e = .returned (.int .i64 10) ∧ Below W0.heap.size W0 w') := by rw [hc] at HCK; exact HCK.out
    obtain ⟨an, cn, hvn⟩ := hB.hn.slice
    obtain ⟨at', ct, hvt⟩ := hB.ht.slice
    obtain ⟨ab, cb, hvb⟩ := hB.hb.slice
    subst hvn hvt hvb
    clear hW0 hb0 hx0 HCK hc hB
    go_enter Tryz.func30, Tryz.ntmps30
    go_upto_region 1 with fail
    rw [← HW.out]
    have b0 : W0.cell? ⟨w.heap.size, 0, none⟩ = some (.slice an b.ns.length cn) := HX0.out.cell 0
    have b1 : W0.cell? ⟨w.heap.size, 1, none⟩ = some (.slice at' b.ts.length ct) := HX0.out.cell 1
    have b2 : W0.cell? ⟨w.heap.size, 2, none⟩ = some (.slice ab b.bs.length cb) := HX0.out.cell 2
    have b3 : W0.cell? ⟨w.heap.size, 3, none⟩ = some (.int .u64 (b.fe : Nat)) := HX0.out.cell 3
    go_wp2_with fail
    refine HC2.out.mono ?_
    rintro e w1 ⟨rfl, hb⟩
    have H1 : Hid (Below w.heap.size w w1) := HB0.out.trans (hb.mono HB0.out.size)
    clear hb b0 b1 b2 b3
    go_wp2
    go_ret
    exact ⟨rfl, H1.out⟩
  · rw [if_pos rfl]
    have HC2 : Hid (Calls Tryz.prog 28 #[.agg #[vn, vt, vb, .int .u64 (b.fe : Nat)]] W0 fun e w' => e = .returned (.int .i64 0) ∧ Below W0.heap.size W0 w') := by rw [hc] at HCK; exact HCK.out
    have HCA : Hid (∀ z, Below w.heap.size w z → Calls Tryz.prog 68 #[.agg #[vn, vt, vb, .int .u64 (b.fe : Nat)], .string k, .string v] z fun e w' => e = .returned (.int .i64 (canE b k v : Nat)) ∧ Below z.heap.size z w') := fun z hz => can_any b vn vt vb k v z (hB.on hz) (chk_lists hc)
    obtain ⟨an, cn, hvn⟩ := hB.hn.slice
    obtain ⟨at', ct, hvt⟩ := hB.ht.slice
    obtain ⟨ab, cb, hvb⟩ := hB.hb.slice
    subst hvn hvt hvb
    clear hW0 hb0 hx0 HCK hc hB
    generalize canE b k v = q at *
    go_enter Tryz.func30, Tryz.ntmps30
    go_upto_region 1 with fail
    rw [← HW.out]
    have b0 : W0.cell? ⟨w.heap.size, 0, none⟩ = some (.slice an b.ns.length cn) := HX0.out.cell 0
    have b1 : W0.cell? ⟨w.heap.size, 1, none⟩ = some (.slice at' b.ts.length ct) := HX0.out.cell 1
    have b2 : W0.cell? ⟨w.heap.size, 2, none⟩ = some (.slice ab b.bs.length cb) := HX0.out.cell 2
    have b3 : W0.cell? ⟨w.heap.size, 3, none⟩ = some (.int .u64 (b.fe : Nat)) := HX0.out.cell 3
    go_wp2_with fail
    refine HC2.out.mono ?_
    rintro e w1 ⟨rfl, hb⟩
    have H1 : Hid (Below w.heap.size w w1) := HB0.out.trans (hb.mono HB0.out.size)
    have HX1 := Lib.hid (HX0.out.below hb)
    clear hb b0 b1 b2 b3
    have d0 : w1.cell? ⟨w.heap.size, 0, none⟩ = some (.slice an b.ns.length cn) := HX1.out.cell 0
    have d1 : w1.cell? ⟨w.heap.size, 1, none⟩ = some (.slice at' b.ts.length ct) := HX1.out.cell 1
    have d2 : w1.cell? ⟨w.heap.size, 2, none⟩ = some (.slice ab b.bs.length cb) := HX1.out.cell 2
    have d3 : w1.cell? ⟨w.heap.size, 3, none⟩ = some (.int .u64 (b.fe : Nat)) := HX1.out.cell 3
    go_wp2_with fail
    refine (HCA.out _ H1.out).mono ?_
    rintro e w2 ⟨rfl, hb⟩
    have H2 : Hid (Below w.heap.size w w2) := H1.out.trans (hb.mono H1.out.size)
    clear hb d0 d1 d2 d3
    go_wp2
    go_ret
    exact ⟨rfl, H2.out⟩
end Bo
end Go.Proofs.YthbmnkeigmbbdaaGreat

/-
  book.Do AND book.Lead AS A LAW USES THEM: what they give is in rows made for it, and can be given on.
-/
namespace Go.Proofs.YthbmnkeigmbbdaaGreat
open Go.RowKit Go.Lib
namespace Bo
open Rw
set_option linter.unusedVariables false
/-- A book that was given, in w', by what was asked at w. -/
def Kept (w w' : World) (b : Bk) (vn vt vb : Value) : Prop := ∃ mn mt, b.ns = mn.map (·.nd) ∧ b.ts = mt.map (·.td) ∧ OwnL w' w.heap.size vn vt vb mn mt b.bs ∧ Fine b
theorem Kept.books {w w' : World} {b : Bk} {vn vt vb : Value} (h : Kept w w' b vn vt vb) : Books w' w'.heap.size vn vt vb b := by
  obtain ⟨mn, mt, h1, h2, h3, h4⟩ := h
  exact h3.books h1 h2 h4
theorem Kept.keep {w w' w'' : World} {b : Bk} {vn vt vb : Value} (h : Kept w w' b vn vt vb) (hb : Below w'.heap.size w' w'') : Kept w w'' b vn vt vb := by
  obtain ⟨mn, mt, h1, h2, h3, h4⟩ := h
  exact ⟨mn, mt, h1, h2, h3.keep hb, h4⟩
theorem Kept.far {w w' : World} {b : Bk} {vn vt vb : Value} (h : Kept w w' b vn vt vb) {P : Nat} (hp : P < w.heap.size) (o : Nat) (vs : List Value) : Kept w (w'.setCells P o vs) b vn vt vb := by
  obtain ⟨mn, mt, h1, h2, h3, h4⟩ := h
  exact ⟨mn, mt, h1, h2, ownl_set h3 hp, h4⟩
theorem Kept.slices {w w' : World} {b : Bk} {vn vt vb : Value} (h : Kept w w' b vn vt vb) : (∃ a c, vn = .slice a b.ns.length c) ∧ (∃ a c, vt = .slice a b.ts.length c) ∧ (∃ a c, vb = .slice a b.bs.length c) := by
  obtain ⟨mn, mt, h1, h2, h3, h4⟩ := h
  rw [h1, h2, List.length_map, List.length_map]
  exact ⟨h3.hn.slice, h3.ht.slice, h3.hb.slice⟩
/-- One box made for what a call gave. -/
theorem one_made (z : World) (c0 cs : List Value) (T : TypeId) (hc : cs.length = c0.length) :
    (z.alloc (.cells c0.toArray T)).there z.heap.size 0 c0.length ∧ Below z.heap.size z ((z.alloc (.cells c0.toArray T)).setCells z.heap.size 0 cs) ∧ Hd.Bxn ((z.alloc (.cells c0.toArray T)).setCells z.heap.size 0 cs) z.heap.size cs := by
  have h := Hd.Bxn.made z c0 T
  exact ⟨h.there _ rfl, below_setCells (al z _) (Nat.le_refl _) _ _, h.all cs hc⟩
end Bo
end Go.Proofs.YthbmnkeigmbbdaaGreat

/-
  book.Used: WHATEVER THE BOOK.
-/
namespace Go.Proofs.YthbmnkeigmbbdaaGreat
open Go.RowKit Go.Lib
namespace Bo
open Rw
set_option linter.unusedVariables false
/-- What is used of a node, asked of whatever book. -/
def usF (b : Bk) (v : ByteArray) : Nat := if chkB b = true then (if hsN b.ns v = true then 0 else 6) else 10
def usV (b : Bk) (v : ByteArray) (x : Int) : Int := if usF b v = 0 then x else 0
set_option maxRecDepth 100000 in
set_option maxHeartbeats 4000000 in
theorem usedq_ok (b : Bk) (vn vt vb : Value) (v : ByteArray) (w : World) (hB : Books w w.heap.size vn vt vb b) (hc : chkB b = true) (hh : hsN b.ns v = true) : Calls Tryz.prog 31 #[.agg #[vn, vt, vb, .int .u64 (b.fe : Nat)], .string v] w fun e w' => e = .returned (.tuple #[.agg #[.int .i64 (us0 b v), .int .i64 (us1 b v), .int .i64 (us2 b v)], .int .i64 0]) ∧ Below w.heap.size w w' := by
  obtain ⟨W0, hW0⟩ : ∃ W0, W0 = (w.alloc (.cells #[vn, vt, vb, .int .u64 (b.fe : Nat)] 27)).alloc (.cells #[.int .i64 0, .int .i64 0, .int .i64 0] 39) := ⟨_, rfl⟩
  have hf0 : Fr2 w W0 [vn, vt, vb, .int .u64 (b.fe : Nat)] [.int .i64 0, .int .i64 0, .int .i64 0] := by rw [hW0]; exact Fr2.made w _ _ _ _
  have HCK : Hid (Calls Tryz.prog 28 #[.agg #[vn, vt, vb, .int .u64 (b.fe : Nat)]] W0 fun e w' => e = .returned (.int .i64 0) ∧ Below W0.heap.size W0 w') := (check_any b vn vt vb W0 (hB.on hf0.b)).mono fun e w' ⟨he, hb⟩ => ⟨by rw [hc] at he; exact he, hb⟩
  have HFI : Hid (∀ z, Hid (Below w.heap.size w z) → Calls Tryz.prog 72 #[vn, .func (.func 62) #[] #[], .string v] z fun e w' => ∃ i : Nat, e = .returned (.tuple #[.int .i64 (i : Nat), .bool (hsN b.ns v)]) ∧ Below z.heap.size z w') := fun z hz => by
    obtain ⟨m, hm, hsm, -⟩ := hB.hn
    have hkm : m.map (·.nd.n) = b.ns.map (·.n) := by rw [hm, List.map_map]; rfl
    refine (find_n vn m v z (hsm.on hz.out) (by rw [hkm]; exact (chk_lists hc).rn)).mono ?_
    rintro e w' ⟨he, hb⟩
    unfold FoundN at he
    rw [hkm] at he
    exact ⟨_, he, hb⟩
  rw [hh] at HFI
  have HUS : Hid (∀ z, Hid (Below w.heap.size w z) → Calls Tryz.prog 73 #[.agg #[vn, vt, vb, .int .u64 (b.fe : Nat)], .string v] z fun e w' => e = .returned (.agg #[.int .i64 (us0 b v), .int .i64 (us1 b v), .int .i64 (us2 b v)]) ∧ Below z.heap.size z w') := fun z hz => used_any b vn vt vb v z (hB.on hz.out) (chk_lists hc)
  obtain ⟨an, cn, hvn⟩ := hB.hn.slice
  obtain ⟨at', ct, hvt⟩ := hB.ht.slice
  obtain ⟨ab, cb, hvb⟩ := hB.hb.slice
  subst hvn hvt hvb
  have HW := Lib.hid hW0
  have HF0 : Hid (Fr2 w W0 [.slice an b.ns.length cn, .slice at' b.ts.length ct, .slice ab b.bs.length cb, .int .u64 (b.fe : Nat)] [.int .i64 0, .int .i64 0, .int .i64 0]) := hf0
  clear hW0 hf0 hB hc
  clear hh
  generalize us0 b v = s0 at *
  generalize us1 b v = s1 at *
  generalize us2 b v = s2 at *
  go_enter Tryz.func31, Tryz.ntmps31
  go_upto_region 1 with fail
  rw [← HW.out]
  have b0 : W0.cell? ⟨w.heap.size, 0, none⟩ = some (.slice an b.ns.length cn) := HF0.out.p.cell 0
  have b1 : W0.cell? ⟨w.heap.size, 1, none⟩ = some (.slice at' b.ts.length ct) := HF0.out.p.cell 1
  have b2 : W0.cell? ⟨w.heap.size, 2, none⟩ = some (.slice ab b.bs.length cb) := HF0.out.p.cell 2
  have b3 : W0.cell? ⟨w.heap.size, 3, none⟩ = some (.int .u64 (b.fe : Nat)) := HF0.out.p.cell 3
  go_wp2_with fail
  refine HCK.out.mono ?_
  rintro e w1 ⟨rfl, hb⟩
  have HF1 : Hid (Fr2 w w1 [.slice an b.ns.length cn, .slice at' b.ts.length ct, .slice ab b.bs.length cb, .int .u64 (b.fe : Nat)] [.int .i64 0, .int .i64 0, .int .i64 0]) := HF0.out.below hb
  clear hb b0 b1 b2 b3
  have d0 : w1.cell? ⟨w.heap.size, 0, none⟩ = some (.slice an b.ns.length cn) := HF1.out.p.cell 0
  go_wp2_with fail
  refine (HFI.out _ HF1.out.b).mono ?_
  rintro e w2 ⟨i, rfl, hb⟩
  have HF2 : Hid (Fr2 w w2 [.slice an b.ns.length cn, .slice at' b.ts.length ct, .slice ab b.bs.length cb, .int .u64 (b.fe : Nat)] [.int .i64 0, .int .i64 0, .int .i64 0]) := HF1.out.below hb
  clear hb d0 HF1
  go_upto_region 7 with fail
  refine wp_region_list ?_
  refine wpList_load_mid rfl 27 (.tmp 2) rfl (w.heap.size) (0) rfl [.slice an b.ns.length cn, .slice at' b.ts.length ct, .slice ab b.bs.length cb, .int .u64 (b.fe : Nat)] _ (HF2.out.p.range 0) Tryz.underlying27 rfl rfl ?_
  refine wpList_plain rfl fun K hK => ?_
  go_simp
  refine hK _ _ ?_
  clear hK K
  refine wpList_plain rfl fun K hK => ?_
  go_wp2_with fail
  refine (HUS.out w2 HF2.out.b).mono ?_
  rintro e w3 ⟨rfl, hb⟩
  have HF3 : Hid (Fr2 w w3 [.slice an b.ns.length cn, .slice at' b.ts.length ct, .slice ab b.bs.length cb, .int .u64 (b.fe : Nat)] [.int .i64 0, .int .i64 0, .int .i64 0]) := HF2.out.below hb
  clear hb HF2
  refine hK _ _ ?_
  clear hK K
  have hthR := HF3.out.r.there 3 rfl
  refine wpList_store_mid rfl 39 (.tmp 4) (.tmp 27) rfl (w.heap.size + 1) 0 #[.int .i64 s0, .int .i64 s1, .int .i64 s2] rfl rfl hthR rfl (all_oneCell_toArray (List.all_eq_true.1 (show List.all ([.int .i64 s0, .int .i64 s1, .int .i64 s2] : List Value) (fun v => v.oneCell') = true from rfl))) ?_
  rw [show (#[.int .i64 s0, .int .i64 s1, .int .i64 s2] : Array Value).toList = [.int .i64 s0, .int .i64 s1, .int .i64 s2] from rfl]
  have HR1 : Hid (Fr2 w (w3.setCells (w.heap.size + 1) 0 [.int .i64 s0, .int .i64 s1, .int .i64 s2]) [.slice an b.ns.length cn, .slice at' b.ts.length ct, .slice ab b.bs.length cb, .int .u64 (b.fe : Nat)] [.int .i64 s0, .int .i64 s1, .int .i64 s2]) := HF3.out.setR [.int .i64 s0, .int .i64 s1, .int .i64 s2] rfl
  clear hthR
  generalize w3.setCells (w.heap.size + 1) 0 [.int .i64 s0, .int .i64 s1, .int .i64 s2] = z1 at *
  refine wpList_plain rfl fun K hK => ?_
  go_simp
  refine hK _ _ ?_
  clear hK K
  refine wpList_nil ?_
  go_wp2
  exact Hd.bodyPost_bx2 rfl (w.heap.size + 1) [.int .i64 s0, .int .i64 s1, .int .i64 s2] _ rfl rfl HR1.out.r Tryz.underlying39 rfl rfl (⟨rfl, HR1.out.b⟩)
end Bo
end Go.Proofs.YthbmnkeigmbbdaaGreat
