/-
  A BOOK IN MEMORY OF ITS OWN: queue.own.
-/
import Derived.Test.YthbmnkeigmbbdaaGreatBgZ
namespace Go.Proofs.YthbmnkeigmbbdaaGreat
open Go.RowKit Go.Lib
namespace Bo
open Rw
set_option linter.unusedVariables false
/-- The book that is asked, and why not. -/
def ownB (b : Bk) : Bk := if chkB b = true then b else bk0
theorem ldF0 (b : Bk) : ldF b 0 = (ownB b, chE (chkB b)) := by
  unfold ldF ownB chE
  cases chkB b
  · rfl
  · simp
set_option maxRecDepth 100000 in
set_option maxHeartbeats 4000000 in
theorem own_any (b : Bk) (vn vt vb : Value) (w : World) (hB : Books w w.heap.size vn vt vb b) : Calls Tryz.prog 34 #[.agg #[vn, vt, vb, .int .u64 (b.fe : Nat)]] w (GaveL (ownB b) (chE (chkB b)) w) := by
  obtain ⟨W0, hW0⟩ : ∃ W0, W0 = (w.alloc (.cells #[vn, vt, vb, .int .u64 (b.fe : Nat)] 27)).alloc (.cells #[.slice none 0 0, .slice none 0 0, .slice none 0 0, .int .u64 0] 27) := ⟨_, rfl⟩
  have hf0 : Fr2 w W0 [vn, vt, vb, .int .u64 (b.fe : Nat)] [.slice none 0 0, .slice none 0 0, .slice none 0 0, .int .u64 0] := by rw [hW0]; exact Fr2.made w _ _ _ _
  have HLD : Hid (Calls Tryz.prog 76 #[.agg #[vn, vt, vb, .int .u64 (b.fe : Nat)], .int .u64 0] W0 (GaveL (ownB b) (chE (chkB b)) W0)) := by
    have h := lead_any b vn vt vb 0 W0 (hB.on hf0.b) (by omega)
    rw [ldF0] at h
    exact h
  obtain ⟨an, cn, hvn⟩ := hB.hn.slice
  obtain ⟨at', ct, hvt⟩ := hB.ht.slice
  obtain ⟨ab, cb, hvb⟩ := hB.hb.slice
  subst hvn hvt hvb
  have HW := Lib.hid hW0
  have HF0 : Hid (Fr2 w W0 [.slice an b.ns.length cn, .slice at' b.ts.length ct, .slice ab b.bs.length cb, .int .u64 (b.fe : Nat)] [.slice none 0 0, .slice none 0 0, .slice none 0 0, .int .u64 0]) := hf0
  clear hW0 hf0 hB
  generalize hcd : ownB b = c at *
  generalize hrd : chE (chkB b) = r at *
  clear hcd hrd
  go_enter Tryz.func34, Tryz.ntmps34
  go_upto_region 1 with fail
  rw [← HW.out]
  refine wp_region_list ?_
  refine wpList_load_mid rfl 27 (.tmp 1) rfl (w.heap.size) (0) rfl [.slice an b.ns.length cn, .slice at' b.ts.length ct, .slice ab b.bs.length cb, .int .u64 (b.fe : Nat)] _ (HF0.out.p.range 0) Tryz.underlying27 rfl rfl ?_
  refine wpList_plain rfl fun K hK => ?_
  go_wp2_with fail
  refine HLD.out.mono ?_
  rintro e w1 ⟨v1, v3, v5, m1, m3, rfl, he1, he3, how, hb⟩
  obtain ⟨a1, d1, rfl⟩ := how.hn.slice
  obtain ⟨a3, d3, rfl⟩ := how.ht.slice
  obtain ⟨a5, d5, rfl⟩ := how.hb.slice
  have HF1 : Hid (Fr2 w w1 [.slice an b.ns.length cn, .slice at' b.ts.length ct, .slice ab b.bs.length cb, .int .u64 (b.fe : Nat)] [.slice none 0 0, .slice none 0 0, .slice none 0 0, .int .u64 0]) := HF0.out.below hb
  have HO1 : Hid (OwnL w1 (w.heap.size + 1 + 1) (.slice a1 m1.length d1) (.slice a3 m3.length d3) (.slice a5 c.bs.length d5) m1 m3 c.bs) := how.le HF0.out.s
  have HE1 := Lib.hid he1
  have HE3 := Lib.hid he3
  clear hb how he1 he3 HF0 HLD HW
  refine hK _ _ ?_
  clear hK K
  refine wpList_plain rfl fun K hK => ?_
  go_simp
  refine hK _ _ ?_
  clear hK K
  refine wpList_plain rfl fun K hK => ?_
  go_simp
  refine hK _ _ ?_
  clear hK K
  have hthR := HF1.out.r.there 4 rfl
  refine wpList_store_mid rfl 27 (.tmp 2) (.tmp 6) rfl (w.heap.size + 1) 0 #[.slice a1 m1.length d1, .slice a3 m3.length d3, .slice a5 c.bs.length d5, .int .u64 (c.fe : Nat)] rfl rfl hthR rfl (all_oneCell_toArray (List.all_eq_true.1 (show List.all ([.slice a1 m1.length d1, .slice a3 m3.length d3, .slice a5 c.bs.length d5, .int .u64 (c.fe : Nat)] : List Value) (fun v => v.oneCell') = true from rfl))) ?_
  rw [show (#[.slice a1 m1.length d1, .slice a3 m3.length d3, .slice a5 c.bs.length d5, .int .u64 (c.fe : Nat)] : Array Value).toList = [.slice a1 m1.length d1, .slice a3 m3.length d3, .slice a5 c.bs.length d5, .int .u64 (c.fe : Nat)] from rfl]
  have HR1 : Hid (Fr2 w (w1.setCells (w.heap.size + 1) 0 [.slice a1 m1.length d1, .slice a3 m3.length d3, .slice a5 c.bs.length d5, .int .u64 (c.fe : Nat)]) [.slice an b.ns.length cn, .slice at' b.ts.length ct, .slice ab b.bs.length cb, .int .u64 (b.fe : Nat)] [.slice a1 m1.length d1, .slice a3 m3.length d3, .slice a5 c.bs.length d5, .int .u64 (c.fe : Nat)]) := HF1.out.setR [.slice a1 m1.length d1, .slice a3 m3.length d3, .slice a5 c.bs.length d5, .int .u64 (c.fe : Nat)] rfl
  have HO2 : Hid (OwnL (w1.setCells (w.heap.size + 1) 0 [.slice a1 m1.length d1, .slice a3 m3.length d3, .slice a5 c.bs.length d5, .int .u64 (c.fe : Nat)]) (w.heap.size + 1 + 1) (.slice a1 m1.length d1) (.slice a3 m3.length d3) (.slice a5 c.bs.length d5) m1 m3 c.bs) := ownl_set HO1.out (by omega)
  clear hthR HF1 HO1
  generalize w1.setCells (w.heap.size + 1) 0 [.slice a1 m1.length d1, .slice a3 m3.length d3, .slice a5 c.bs.length d5, .int .u64 (c.fe : Nat)] = z1 at *
  refine wpList_plain rfl fun K hK => ?_
  go_simp
  refine hK _ _ ?_
  clear hK K
  refine wpList_nil ?_
  go_wp2
  exact Hd.bodyPost_bx2 rfl (w.heap.size + 1) [.slice a1 m1.length d1, .slice a3 m3.length d3, .slice a5 c.bs.length d5, .int .u64 (c.fe : Nat)] _ rfl rfl HR1.out.r Tryz.underlying27 rfl rfl (GaveL.mk m1 m3 HE1.out HE3.out (HO2.out.le (by omega)) HR1.out.b)
end Bo
end Go.Proofs.YthbmnkeigmbbdaaGreat
