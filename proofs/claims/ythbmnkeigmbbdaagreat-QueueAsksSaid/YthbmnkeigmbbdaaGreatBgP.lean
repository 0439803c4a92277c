/-
  Merged: BoApp, BoCpyN, BoCpy.
-/
import Derived.Test.YthbmnkeigmbbdaaGreatBgZ
import Derived.Laws.AppendOwnNone
import Derived.Maps.AppendAt
import Derived.Test.YthbmnkeigmbbdaaGreatBoSame
import Derived.Deep.RegionWith
import Derived.Deep.RegionHeld3
import Derived.Deep.LoopGhost
/-
  APPENDS onto a row of one's own of whatever slice, nil or not.
-/
namespace Go.Proofs.YthbmnkeigmbbdaaGreat
open Go.RowKit Go.Lib
namespace Rw
set_option linter.unusedVariables false
section
variable {P : Program} {α : Type} [F : Flat α]
theorem run_app {w : World} {base : Nat} {t ty e : TypeId} {i : TypeInfo} {z : Value} {bytes : Nat} (ht : P.underlying t = some (.slice e)) (hi : P.info? e = some i) (hz : i.zero = some z) (hsize : i.size = F.k) (hby : i.bytes = bytes) (hzs : z.cells.size = F.k)
    {v u : Value} {l m : List α} (h : Own w base e v l) {A B : Nat} (hu : Sl w A B u m) (hl : (l.length + m.length) * bytes ≤ 140737488355328) (h63 : l.length + m.length ≤ 4611686018427387904) (hbase : base ≤ w.heap.size) :
    ∃ v' w', (Builtin.append_ #[t, t] ty #[v, u]).run P w = .ok v' w' ∧ Own w' base e v' (l ++ m) ∧ w.grownBy w' v.ownBlock ∧ (v'.ownBlock = v.ownBlock ∨ v'.ownBlock = some w.heap.size) := by
  have hu2 := hu
  obtain ⟨a, c, rfl, hc0, hnil, hml, hc⟩ := hu
  cases a with
  | none =>
    have h0 : c = 0 := hnil rfl
    subst h0
    have hm : m = [] := List.eq_nil_of_length_eq_zero (by omega)
    subst hm
    exact ⟨v, w, run_append_owned_none (P := P) (w := w) base t ty e i F.k ht hi v l.length (flat l) h, by rw [List.append_nil]; exact h, ⟨rfl, rfl, rfl, Nat.le_refl _, fun _ _ _ => rfl⟩, .inl rfl⟩
  | some ad =>
    obtain ⟨v', w', hr, h2, h3, -, h5⟩ := run_append_own_at (P := P) w base t ty e i z F.k bytes ht hi hz hsize hby hzs F.kp v l.length (flat l) h ad m.length c (flat m) (flat_len m) hu2.news (flat_one m) (by unfold maxLen; omega) hl hbase
    exact ⟨v', w', hr, Own.join h2, h3, h5⟩
theorem wpl_app {w w' : World} {ops : Array Oper} {rest : List Oper} {o : Oper} {a : Act} {Q : Exit → Act → World → Prop} (hgd : o.guard = none) (s x : Operand) (t : TypeId)
    (ho : o.op = .call { callee := .builtin .append, args := #[s, x], argTypes := #[t, t] }) (v u v' : Value) (hs : a.eval s = v) (hx : a.eval x = u) (hr : (Builtin.append_ #[t, t] o.type #[v, u]).run P w = .ok v' w') (h : wpList P ops Q rest (a.put o.dst v') w') : wpList P ops Q (o :: rest) a w := by
  refine wpList_plain hgd fun K hK => ?_
  unfold Oper.wp
  simp [execOp, ho, resolve, invoke, builtin, hs, hx, hr, Result.andThen]
  exact hK _ _ h
theorem step_app {w w' : World} {ops : Array Oper} {o : Oper} {a : Act} {K : Act → World → Prop} {Q : Exit → Act → World → Prop} {E : Prop} (hgd : o.guard = none) (s x : Operand) (t : TypeId)
    (ho : o.op = .call { callee := .builtin .append, args := #[s, x], argTypes := #[t, t] }) (v u v' : Value) (hs : a.eval s = v) (hx : a.eval x = u) (hr : (Builtin.append_ #[t, t] o.type #[v, u]).run P w = .ok v' w') (h : K (a.put o.dst v') w') :
    if Region.wanted o (yielded ops a.tmps) = true then Oper.wp P o a w K Q else E := by
  have hw : Region.wanted o (yielded ops a.tmps) = true := by simp [Region.wanted, hgd]
  rw [if_pos hw]
  unfold Oper.wp
  simp [execOp, ho, resolve, invoke, builtin, hs, hx, hr, Result.andThen]
  exact h
theorem sl_one (w : World) (x : α) (T : TypeId) : Sl (w.alloc (.cells (F.enc x).toArray T)) w.heap.size (w.alloc (.cells (F.enc x).toArray T)).heap.size (.slice (some ⟨w.heap.size, 0, none⟩) 1 1) [x] := by
  have h := sl_new w [x] T (by simp)
  rw [flat_single] at h
  exact h
end
end Rw
end Go.Proofs.YthbmnkeigmbbdaaGreat

/-
  A NODE, A TASK ANEW, by the document: gafferref08.CopyNode, CopyTask.
-/
namespace Go.Proofs.YthbmnkeigmbbdaaGreat
open Go.RowKit Go.Lib
namespace Bo
open Rw
set_option linter.unusedVariables false
set_option maxRecDepth 100000 in
set_option maxHeartbeats 4000000 in
theorem copy_n (x : NdM) (w : World) (hd : DeepN w w.heap.size x) (hf : FitN x.nd) : Calls Tryz.prog 44 #[.agg #[.string x.nd.n, .int .i64 x.nd.z0, .int .i64 x.nd.z1, .int .i64 x.nd.z2, .slice x.a2 x.nd.ls.length x.c2, .slice x.a3 x.nd.ts.length x.c3]] w fun e w' => ∃ y : NdM, y.nd = x.nd ∧ e = .returned (.agg #[.string y.nd.n, .int .i64 y.nd.z0, .int .i64 y.nd.z1, .int .i64 y.nd.z2, .slice y.a2 y.nd.ls.length y.c2, .slice y.a3 y.nd.ts.length y.c3]) ∧ OwnN w' w.heap.size y ∧ Below w.heap.size w w' := by
  obtain ⟨i0, hi0, hz0, hz1, hz2⟩ := info_parts info_p
  have hl1 := hf.2.2.1.1
  have hl2 := hf.2.2.2.1
  obtain ⟨W0, hW0⟩ : ∃ W0, W0 = (w.alloc (.cells #[.string x.nd.n, .int .i64 x.nd.z0, .int .i64 x.nd.z1, .int .i64 x.nd.z2, .slice x.a2 x.nd.ls.length x.c2, .slice x.a3 x.nd.ts.length x.c3] 45)).alloc (.cells #[.string ⟨#[]⟩, .int .i64 0, .int .i64 0, .int .i64 0, .slice none 0 0, .slice none 0 0] 45) := ⟨_, rfl⟩
  have HW0 : Hid (Fr2 w W0 [.string x.nd.n, .int .i64 x.nd.z0, .int .i64 x.nd.z1, .int .i64 x.nd.z2, .slice x.a2 x.nd.ls.length x.c2, .slice x.a3 x.nd.ts.length x.c3] [.string ⟨#[]⟩, .int .i64 0, .int .i64 0, .int .i64 0, .slice none 0 0, .slice none 0 0]) := by rw [hW0]; exact Fr2.made w _ _ _ _
  have HW := Lib.hid hW0
  clear hW0
  go_enter Tryz.func44, Tryz.ntmps44
  go_upto_region 1 with fail
  rw [← HW.out]
  clear HW
  refine wp_region_list ?_
  refine wpList_plain rfl fun K hK => ?_
  go_simp
  refine hK _ _ ?_
  clear hK K
  generalize hWW1 : W0.alloc (.cells #[] 89) = W1 at *
  have hbl : Below W0.heap.size W0 W1 := by rw [← hWW1]; exact al _ _
  have hown : Own (α := Rg.Pr) W1 W0.heap.size 89 (.slice (some ⟨W0.heap.size, 0, none⟩) 0 0) [] := by rw [← hWW1]; exact Own.made _ _
  have HW1 := Lib.hid (HW0.out.below hbl)
  refine wpList_plain rfl fun K hK => ?_
  go_simp
  refine hK _ _ ?_
  clear hK K
  have k0 : W1.cell? ⟨w.heap.size, 4, none⟩ = some (.slice x.a2 x.nd.ls.length x.c2) := HW1.out.p.cell 4
  refine wpList_plain rfl fun K hK => ?_
  go_simp
  refine hK _ _ ?_
  clear hK K
  clear k0
  obtain ⟨q', W2, hr, ho2, hg2, -⟩ := run_app (P := Tryz.prog) (ty := 40) Tryz.underlying40 hi0 hz0 hz1 hz2 rfl hown (hd.1.on (HW1.out.b)) (by rw [List.length_nil]; have h := hl1; omega) (by rw [List.length_nil]; have h := hl1; omega) hbl.size
  have hb3 : Below W0.heap.size W0 W2 := hbl.grown hg2 hbl.size (fun g e => (hown.lt g e).1)
  rw [List.nil_append] at ho2
  obtain ⟨g1, n1, rfl⟩ := ho2.slice
  refine wpl_app rfl (.tmp 3) (.tmp 5) 40 rfl _ _ _ rfl rfl hr ?_
  clear hr hown hbl
  have HW2 := Lib.hid (HW0.out.below hb3)
  have HOW2 := Lib.hid ho2
  have HZW2 : Hid (W0.heap.size ≤ W2.heap.size) := hb3.size
  clear hb3 ho2 hg2 hWW1
  refine wpList_plain rfl fun K hK => ?_
  go_simp
  refine hK _ _ ?_
  clear hK K
  have k1 : W2.cell? ⟨w.heap.size, 4, none⟩ = some (.slice x.a2 x.nd.ls.length x.c2) := HW2.out.p.cell 4
  have k2 : W2.frozen? ⟨w.heap.size, 4, none⟩ = false := HW2.out.p.fz 4
  refine wpList_plain rfl fun K hK => ?_
  go_simp
  refine hK _ _ ?_
  clear hK K
  clear k1 k2
  have HW3 : Hid (Fr2 w (W2.setCell ⟨w.heap.size, 4, none⟩ (.slice g1 x.nd.ls.length n1)) [.string x.nd.n, .int .i64 x.nd.z0, .int .i64 x.nd.z1, .int .i64 x.nd.z2, .slice g1 x.nd.ls.length n1, .slice x.a3 x.nd.ts.length x.c3] [.string ⟨#[]⟩, .int .i64 0, .int .i64 0, .int .i64 0, .slice none 0 0, .slice none 0 0]) := HW2.out.one 4 _
  have HOW3 : Hid (Own (W2.setCell ⟨w.heap.size, 4, none⟩ (.slice g1 x.nd.ls.length n1)) W0.heap.size 89 (.slice g1 x.nd.ls.length n1) x.nd.ls) := own_far HOW2.out (grown_setCell _ _ _ _) (by have := HW0.out.s; omega)
  generalize W2.setCell ⟨w.heap.size, 4, none⟩ (.slice g1 x.nd.ls.length n1) = W3 at *
  clear HW2 HOW2 HW1
  refine wpList_nil ?_
  go_upto_region 2 with fail
  refine wp_region_list ?_
  refine wpList_plain rfl fun K hK => ?_
  go_simp
  refine hK _ _ ?_
  clear hK K
  generalize hWW4 : W3.alloc (.cells #[] 89) = W4 at *
  have hbl : Below W3.heap.size W3 W4 := by rw [← hWW4]; exact al _ _
  have hown : Own (α := Rg.Pr) W4 W3.heap.size 89 (.slice (some ⟨W3.heap.size, 0, none⟩) 0 0) [] := by rw [← hWW4]; exact Own.made _ _
  have HW4 := Lib.hid (HW3.out.below hbl)
  refine wpList_plain rfl fun K hK => ?_
  go_simp
  refine hK _ _ ?_
  clear hK K
  have k0 : W4.cell? ⟨w.heap.size, 5, none⟩ = some (.slice x.a3 x.nd.ts.length x.c3) := HW4.out.p.cell 5
  refine wpList_plain rfl fun K hK => ?_
  go_simp
  refine hK _ _ ?_
  clear hK K
  clear k0
  obtain ⟨q', W5, hr, ho2, hg2, -⟩ := run_app (P := Tryz.prog) (ty := 40) Tryz.underlying40 hi0 hz0 hz1 hz2 rfl hown (hd.2.on (HW4.out.b)) (by rw [List.length_nil]; have h := hl2; omega) (by rw [List.length_nil]; have h := hl2; omega) hbl.size
  have hb3 : Below W3.heap.size W3 W5 := hbl.grown hg2 hbl.size (fun g e => (hown.lt g e).1)
  rw [List.nil_append] at ho2
  obtain ⟨g2, n2, rfl⟩ := ho2.slice
  refine wpl_app rfl (.tmp 8) (.tmp 10) 40 rfl _ _ _ rfl rfl hr ?_
  clear hr hown hbl
  have HW5 := Lib.hid (HW3.out.below hb3)
  have HOb := Lib.hid (HOW3.out.keep hb3)
  have HOW5 := Lib.hid ho2
  have HZW5 : Hid (W3.heap.size ≤ W5.heap.size) := hb3.size
  clear hb3 ho2 hg2 hWW4
  refine wpList_plain rfl fun K hK => ?_
  go_simp
  refine hK _ _ ?_
  clear hK K
  have k1 : W5.cell? ⟨w.heap.size, 5, none⟩ = some (.slice x.a3 x.nd.ts.length x.c3) := HW5.out.p.cell 5
  have k2 : W5.frozen? ⟨w.heap.size, 5, none⟩ = false := HW5.out.p.fz 5
  refine wpList_plain rfl fun K hK => ?_
  go_simp
  refine hK _ _ ?_
  clear hK K
  clear k1 k2
  have HW6 : Hid (Fr2 w (W5.setCell ⟨w.heap.size, 5, none⟩ (.slice g2 x.nd.ts.length n2)) [.string x.nd.n, .int .i64 x.nd.z0, .int .i64 x.nd.z1, .int .i64 x.nd.z2, .slice g1 x.nd.ls.length n1, .slice g2 x.nd.ts.length n2] [.string ⟨#[]⟩, .int .i64 0, .int .i64 0, .int .i64 0, .slice none 0 0, .slice none 0 0]) := HW5.out.one 5 _
  have HOW6 : Hid (Own (W5.setCell ⟨w.heap.size, 5, none⟩ (.slice g2 x.nd.ts.length n2)) W3.heap.size 89 (.slice g2 x.nd.ts.length n2) x.nd.ts) := own_far HOW5.out (grown_setCell _ _ _ _) (by have := HW3.out.s; omega)
  have HOc : Hid (Own (W5.setCell ⟨w.heap.size, 5, none⟩ (.slice g2 x.nd.ts.length n2)) W0.heap.size 89 (.slice g1 x.nd.ls.length n1) x.nd.ls) := own_far HOb.out (grown_setCell _ _ _ _) (by have := HW0.out.s; omega)
  generalize W5.setCell ⟨w.heap.size, 5, none⟩ (.slice g2 x.nd.ts.length n2) = W6 at *
  clear HW5 HOW5 HW4
  refine wpList_nil ?_
  go_upto_region 3 with fail
  refine wp_region_list ?_
  refine wpList_load_mid rfl 45 (.tmp 1) rfl (w.heap.size) (0) rfl [.string x.nd.n, .int .i64 x.nd.z0, .int .i64 x.nd.z1, .int .i64 x.nd.z2, .slice g1 x.nd.ls.length n1, .slice g2 x.nd.ts.length n2] _ (HW6.out.p.range 0) Tryz.underlying45 rfl rfl ?_
  have hth := HW6.out.r.there 6 rfl
  refine wpList_store_mid rfl 45 (.tmp 2) (.tmp 13) rfl (w.heap.size + 1) 0 #[.string x.nd.n, .int .i64 x.nd.z0, .int .i64 x.nd.z1, .int .i64 x.nd.z2, .slice g1 x.nd.ls.length n1, .slice g2 x.nd.ts.length n2] rfl rfl hth rfl (all_oneCell_toArray (List.all_eq_true.1 (show List.all ([.string x.nd.n, .int .i64 x.nd.z0, .int .i64 x.nd.z1, .int .i64 x.nd.z2, .slice g1 x.nd.ls.length n1, .slice g2 x.nd.ts.length n2] : List Value) (fun v => v.oneCell') = true from rfl))) ?_
  rw [show (#[.string x.nd.n, .int .i64 x.nd.z0, .int .i64 x.nd.z1, .int .i64 x.nd.z2, .slice g1 x.nd.ls.length n1, .slice g2 x.nd.ts.length n2] : Array Value).toList = [.string x.nd.n, .int .i64 x.nd.z0, .int .i64 x.nd.z1, .int .i64 x.nd.z2, .slice g1 x.nd.ls.length n1, .slice g2 x.nd.ts.length n2] from rfl]
  have HW7 : Hid (Fr2 w (W6.setCells (w.heap.size + 1) 0 [.string x.nd.n, .int .i64 x.nd.z0, .int .i64 x.nd.z1, .int .i64 x.nd.z2, .slice g1 x.nd.ls.length n1, .slice g2 x.nd.ts.length n2]) [.string x.nd.n, .int .i64 x.nd.z0, .int .i64 x.nd.z1, .int .i64 x.nd.z2, .slice g1 x.nd.ls.length n1, .slice g2 x.nd.ts.length n2] [.string x.nd.n, .int .i64 x.nd.z0, .int .i64 x.nd.z1, .int .i64 x.nd.z2, .slice g1 x.nd.ls.length n1, .slice g2 x.nd.ts.length n2]) := HW6.out.setR [.string x.nd.n, .int .i64 x.nd.z0, .int .i64 x.nd.z1, .int .i64 x.nd.z2, .slice g1 x.nd.ls.length n1, .slice g2 x.nd.ts.length n2] rfl
  have HOd : Hid (Own (W6.setCells (w.heap.size + 1) 0 [.string x.nd.n, .int .i64 x.nd.z0, .int .i64 x.nd.z1, .int .i64 x.nd.z2, .slice g1 x.nd.ls.length n1, .slice g2 x.nd.ts.length n2]) W0.heap.size 89 (.slice g1 x.nd.ls.length n1) x.nd.ls) := own_far HOc.out (grown_setCells _ _ _ _) (by have := HW0.out.s; omega)
  have HOe : Hid (Own (W6.setCells (w.heap.size + 1) 0 [.string x.nd.n, .int .i64 x.nd.z0, .int .i64 x.nd.z1, .int .i64 x.nd.z2, .slice g1 x.nd.ls.length n1, .slice g2 x.nd.ts.length n2]) W3.heap.size 89 (.slice g2 x.nd.ts.length n2) x.nd.ts) := own_far HOW6.out (grown_setCells _ _ _ _) (by have := HW3.out.s; omega)
  have HS0 := Lib.hid (show w.heap.size ≤ W0.heap.size from by have := HW0.out.s; omega)
  have HS3 := Lib.hid (show w.heap.size ≤ W3.heap.size from by have := HW3.out.s; omega)
  clear hth
  generalize W6.setCells (w.heap.size + 1) 0 [.string x.nd.n, .int .i64 x.nd.z0, .int .i64 x.nd.z1, .int .i64 x.nd.z2, .slice g1 x.nd.ls.length n1, .slice g2 x.nd.ts.length n2] = W7 at *
  refine wpList_nil ?_
  go_wp2
  exact Hd.bodyPost_bx rfl (w.heap.size + 1) [.string x.nd.n, .int .i64 x.nd.z0, .int .i64 x.nd.z1, .int .i64 x.nd.z2, .slice g1 x.nd.ls.length n1, .slice g2 x.nd.ts.length n2] _ rfl rfl HW7.out.r Tryz.underlying45 rfl rfl ⟨⟨x.nd, g1, n1, g2, n2⟩, rfl, rfl, ⟨HOd.out.le HS0.out, HOe.out.le HS3.out⟩, HW7.out.b⟩
set_option maxRecDepth 100000 in
set_option maxHeartbeats 4000000 in
theorem copy_t (x : TdM) (w : World) (hd : DeepT w w.heap.size x) (hf : FitT x.td) : Calls Tryz.prog 42 #[.agg #[.string x.td.n, .int .i64 x.td.z0, .int .i64 x.td.z1, .int .i64 x.td.z2, .slice x.a4 x.td.ws.length x.c4, .slice x.a5 x.td.bs.length x.c5, .string x.td.g, .string x.td.a, .int .i64 x.td.r]] w fun e w' => ∃ y : TdM, y.td = x.td ∧ e = .returned (.agg #[.string y.td.n, .int .i64 y.td.z0, .int .i64 y.td.z1, .int .i64 y.td.z2, .slice y.a4 y.td.ws.length y.c4, .slice y.a5 y.td.bs.length y.c5, .string y.td.g, .string y.td.a, .int .i64 y.td.r]) ∧ OwnT w' w.heap.size y ∧ Below w.heap.size w w' := by
  obtain ⟨i0, hi0, hz0, hz1, hz2⟩ := info_parts info_p
  have hl1 := hf.2.2.1.1
  have hl2 := hf.2.2.2.1
  obtain ⟨W0, hW0⟩ : ∃ W0, W0 = (w.alloc (.cells #[.string x.td.n, .int .i64 x.td.z0, .int .i64 x.td.z1, .int .i64 x.td.z2, .slice x.a4 x.td.ws.length x.c4, .slice x.a5 x.td.bs.length x.c5, .string x.td.g, .string x.td.a, .int .i64 x.td.r] 42)).alloc (.cells #[.string ⟨#[]⟩, .int .i64 0, .int .i64 0, .int .i64 0, .slice none 0 0, .slice none 0 0, .string ⟨#[]⟩, .string ⟨#[]⟩, .int .i64 0] 42) := ⟨_, rfl⟩
  have HW0 : Hid (Fr2 w W0 [.string x.td.n, .int .i64 x.td.z0, .int .i64 x.td.z1, .int .i64 x.td.z2, .slice x.a4 x.td.ws.length x.c4, .slice x.a5 x.td.bs.length x.c5, .string x.td.g, .string x.td.a, .int .i64 x.td.r] [.string ⟨#[]⟩, .int .i64 0, .int .i64 0, .int .i64 0, .slice none 0 0, .slice none 0 0, .string ⟨#[]⟩, .string ⟨#[]⟩, .int .i64 0]) := by rw [hW0]; exact Fr2.made w _ _ _ _
  have HW := Lib.hid hW0
  clear hW0
  go_enter Tryz.func42, Tryz.ntmps42
  go_upto_region 1 with fail
  rw [← HW.out]
  clear HW
  refine wp_region_list ?_
  refine wpList_plain rfl fun K hK => ?_
  go_simp
  refine hK _ _ ?_
  clear hK K
  generalize hWW1 : W0.alloc (.cells #[] 89) = W1 at *
  have hbl : Below W0.heap.size W0 W1 := by rw [← hWW1]; exact al _ _
  have hown : Own (α := Rg.Pr) W1 W0.heap.size 89 (.slice (some ⟨W0.heap.size, 0, none⟩) 0 0) [] := by rw [← hWW1]; exact Own.made _ _
  have HW1 := Lib.hid (HW0.out.below hbl)
  refine wpList_plain rfl fun K hK => ?_
  go_simp
  refine hK _ _ ?_
  clear hK K
  have k0 : W1.cell? ⟨w.heap.size, 4, none⟩ = some (.slice x.a4 x.td.ws.length x.c4) := HW1.out.p.cell 4
  refine wpList_plain rfl fun K hK => ?_
  go_simp
  refine hK _ _ ?_
  clear hK K
  clear k0
  obtain ⟨q', W2, hr, ho2, hg2, -⟩ := run_app (P := Tryz.prog) (ty := 40) Tryz.underlying40 hi0 hz0 hz1 hz2 rfl hown (hd.1.on (HW1.out.b)) (by rw [List.length_nil]; have h := hl1; omega) (by rw [List.length_nil]; have h := hl1; omega) hbl.size
  have hb3 : Below W0.heap.size W0 W2 := hbl.grown hg2 hbl.size (fun g e => (hown.lt g e).1)
  rw [List.nil_append] at ho2
  obtain ⟨g1, n1, rfl⟩ := ho2.slice
  refine wpl_app rfl (.tmp 3) (.tmp 5) 40 rfl _ _ _ rfl rfl hr ?_
  clear hr hown hbl
  have HW2 := Lib.hid (HW0.out.below hb3)
  have HOW2 := Lib.hid ho2
  have HZW2 : Hid (W0.heap.size ≤ W2.heap.size) := hb3.size
  clear hb3 ho2 hg2 hWW1
  refine wpList_plain rfl fun K hK => ?_
  go_simp
  refine hK _ _ ?_
  clear hK K
  have k1 : W2.cell? ⟨w.heap.size, 4, none⟩ = some (.slice x.a4 x.td.ws.length x.c4) := HW2.out.p.cell 4
  have k2 : W2.frozen? ⟨w.heap.size, 4, none⟩ = false := HW2.out.p.fz 4
  refine wpList_plain rfl fun K hK => ?_
  go_simp
  refine hK _ _ ?_
  clear hK K
  clear k1 k2
  have HW3 : Hid (Fr2 w (W2.setCell ⟨w.heap.size, 4, none⟩ (.slice g1 x.td.ws.length n1)) [.string x.td.n, .int .i64 x.td.z0, .int .i64 x.td.z1, .int .i64 x.td.z2, .slice g1 x.td.ws.length n1, .slice x.a5 x.td.bs.length x.c5, .string x.td.g, .string x.td.a, .int .i64 x.td.r] [.string ⟨#[]⟩, .int .i64 0, .int .i64 0, .int .i64 0, .slice none 0 0, .slice none 0 0, .string ⟨#[]⟩, .string ⟨#[]⟩, .int .i64 0]) := HW2.out.one 4 _
  have HOW3 : Hid (Own (W2.setCell ⟨w.heap.size, 4, none⟩ (.slice g1 x.td.ws.length n1)) W0.heap.size 89 (.slice g1 x.td.ws.length n1) x.td.ws) := own_far HOW2.out (grown_setCell _ _ _ _) (by have := HW0.out.s; omega)
  generalize W2.setCell ⟨w.heap.size, 4, none⟩ (.slice g1 x.td.ws.length n1) = W3 at *
  clear HW2 HOW2 HW1
  refine wpList_nil ?_
  go_upto_region 2 with fail
  refine wp_region_list ?_
  refine wpList_plain rfl fun K hK => ?_
  go_simp
  refine hK _ _ ?_
  clear hK K
  generalize hWW4 : W3.alloc (.cells #[] 89) = W4 at *
  have hbl : Below W3.heap.size W3 W4 := by rw [← hWW4]; exact al _ _
  have hown : Own (α := Rg.Pr) W4 W3.heap.size 89 (.slice (some ⟨W3.heap.size, 0, none⟩) 0 0) [] := by rw [← hWW4]; exact Own.made _ _
  have HW4 := Lib.hid (HW3.out.below hbl)
  refine wpList_plain rfl fun K hK => ?_
  go_simp
  refine hK _ _ ?_
  clear hK K
  have k0 : W4.cell? ⟨w.heap.size, 5, none⟩ = some (.slice x.a5 x.td.bs.length x.c5) := HW4.out.p.cell 5
  refine wpList_plain rfl fun K hK => ?_
  go_simp
  refine hK _ _ ?_
  clear hK K
  clear k0
  obtain ⟨q', W5, hr, ho2, hg2, -⟩ := run_app (P := Tryz.prog) (ty := 40) Tryz.underlying40 hi0 hz0 hz1 hz2 rfl hown (hd.2.on (HW4.out.b)) (by rw [List.length_nil]; have h := hl2; omega) (by rw [List.length_nil]; have h := hl2; omega) hbl.size
  have hb3 : Below W3.heap.size W3 W5 := hbl.grown hg2 hbl.size (fun g e => (hown.lt g e).1)
  rw [List.nil_append] at ho2
  obtain ⟨g2, n2, rfl⟩ := ho2.slice
  refine wpl_app rfl (.tmp 8) (.tmp 10) 40 rfl _ _ _ rfl rfl hr ?_
  clear hr hown hbl
  have HW5 := Lib.hid (HW3.out.below hb3)
  have HOb := Lib.hid (HOW3.out.keep hb3)
  have HOW5 := Lib.hid ho2
  have HZW5 : Hid (W3.heap.size ≤ W5.heap.size) := hb3.size
  clear hb3 ho2 hg2 hWW4
  refine wpList_plain rfl fun K hK => ?_
  go_simp
  refine hK _ _ ?_
  clear hK K
  have k1 : W5.cell? ⟨w.heap.size, 5, none⟩ = some (.slice x.a5 x.td.bs.length x.c5) := HW5.out.p.cell 5
  have k2 : W5.frozen? ⟨w.heap.size, 5, none⟩ = false := HW5.out.p.fz 5
  refine wpList_plain rfl fun K hK => ?_
  go_simp
  refine hK _ _ ?_
  clear hK K
  clear k1 k2
  have HW6 : Hid (Fr2 w (W5.setCell ⟨w.heap.size, 5, none⟩ (.slice g2 x.td.bs.length n2)) [.string x.td.n, .int .i64 x.td.z0, .int .i64 x.td.z1, .int .i64 x.td.z2, .slice g1 x.td.ws.length n1, .slice g2 x.td.bs.length n2, .string x.td.g, .string x.td.a, .int .i64 x.td.r] [.string ⟨#[]⟩, .int .i64 0, .int .i64 0, .int .i64 0, .slice none 0 0, .slice none 0 0, .string ⟨#[]⟩, .string ⟨#[]⟩, .int .i64 0]) := HW5.out.one 5 _
  have HOW6 : Hid (Own (W5.setCell ⟨w.heap.size, 5, none⟩ (.slice g2 x.td.bs.length n2)) W3.heap.size 89 (.slice g2 x.td.bs.length n2) x.td.bs) := own_far HOW5.out (grown_setCell _ _ _ _) (by have := HW3.out.s; omega)
  have HOc : Hid (Own (W5.setCell ⟨w.heap.size, 5, none⟩ (.slice g2 x.td.bs.length n2)) W0.heap.size 89 (.slice g1 x.td.ws.length n1) x.td.ws) := own_far HOb.out (grown_setCell _ _ _ _) (by have := HW0.out.s; omega)
  generalize W5.setCell ⟨w.heap.size, 5, none⟩ (.slice g2 x.td.bs.length n2) = W6 at *
  clear HW5 HOW5 HW4
  refine wpList_nil ?_
  go_upto_region 3 with fail
  refine wp_region_list ?_
  refine wpList_load_mid rfl 42 (.tmp 1) rfl (w.heap.size) (0) rfl [.string x.td.n, .int .i64 x.td.z0, .int .i64 x.td.z1, .int .i64 x.td.z2, .slice g1 x.td.ws.length n1, .slice g2 x.td.bs.length n2, .string x.td.g, .string x.td.a, .int .i64 x.td.r] _ (HW6.out.p.range 0) Tryz.underlying42 rfl rfl ?_
  have hth := HW6.out.r.there 9 rfl
  refine wpList_store_mid rfl 42 (.tmp 2) (.tmp 13) rfl (w.heap.size + 1) 0 #[.string x.td.n, .int .i64 x.td.z0, .int .i64 x.td.z1, .int .i64 x.td.z2, .slice g1 x.td.ws.length n1, .slice g2 x.td.bs.length n2, .string x.td.g, .string x.td.a, .int .i64 x.td.r] rfl rfl hth rfl (all_oneCell_toArray (List.all_eq_true.1 (show List.all ([.string x.td.n, .int .i64 x.td.z0, .int .i64 x.td.z1, .int .i64 x.td.z2, .slice g1 x.td.ws.length n1, .slice g2 x.td.bs.length n2, .string x.td.g, .string x.td.a, .int .i64 x.td.r] : List Value) (fun v => v.oneCell') = true from rfl))) ?_
  rw [show (#[.string x.td.n, .int .i64 x.td.z0, .int .i64 x.td.z1, .int .i64 x.td.z2, .slice g1 x.td.ws.length n1, .slice g2 x.td.bs.length n2, .string x.td.g, .string x.td.a, .int .i64 x.td.r] : Array Value).toList = [.string x.td.n, .int .i64 x.td.z0, .int .i64 x.td.z1, .int .i64 x.td.z2, .slice g1 x.td.ws.length n1, .slice g2 x.td.bs.length n2, .string x.td.g, .string x.td.a, .int .i64 x.td.r] from rfl]
  have HW7 : Hid (Fr2 w (W6.setCells (w.heap.size + 1) 0 [.string x.td.n, .int .i64 x.td.z0, .int .i64 x.td.z1, .int .i64 x.td.z2, .slice g1 x.td.ws.length n1, .slice g2 x.td.bs.length n2, .string x.td.g, .string x.td.a, .int .i64 x.td.r]) [.string x.td.n, .int .i64 x.td.z0, .int .i64 x.td.z1, .int .i64 x.td.z2, .slice g1 x.td.ws.length n1, .slice g2 x.td.bs.length n2, .string x.td.g, .string x.td.a, .int .i64 x.td.r] [.string x.td.n, .int .i64 x.td.z0, .int .i64 x.td.z1, .int .i64 x.td.z2, .slice g1 x.td.ws.length n1, .slice g2 x.td.bs.length n2, .string x.td.g, .string x.td.a, .int .i64 x.td.r]) := HW6.out.setR [.string x.td.n, .int .i64 x.td.z0, .int .i64 x.td.z1, .int .i64 x.td.z2, .slice g1 x.td.ws.length n1, .slice g2 x.td.bs.length n2, .string x.td.g, .string x.td.a, .int .i64 x.td.r] rfl
  have HOd : Hid (Own (W6.setCells (w.heap.size + 1) 0 [.string x.td.n, .int .i64 x.td.z0, .int .i64 x.td.z1, .int .i64 x.td.z2, .slice g1 x.td.ws.length n1, .slice g2 x.td.bs.length n2, .string x.td.g, .string x.td.a, .int .i64 x.td.r]) W0.heap.size 89 (.slice g1 x.td.ws.length n1) x.td.ws) := own_far HOc.out (grown_setCells _ _ _ _) (by have := HW0.out.s; omega)
  have HOe : Hid (Own (W6.setCells (w.heap.size + 1) 0 [.string x.td.n, .int .i64 x.td.z0, .int .i64 x.td.z1, .int .i64 x.td.z2, .slice g1 x.td.ws.length n1, .slice g2 x.td.bs.length n2, .string x.td.g, .string x.td.a, .int .i64 x.td.r]) W3.heap.size 89 (.slice g2 x.td.bs.length n2) x.td.bs) := own_far HOW6.out (grown_setCells _ _ _ _) (by have := HW3.out.s; omega)
  have HS0 := Lib.hid (show w.heap.size ≤ W0.heap.size from by have := HW0.out.s; omega)
  have HS3 := Lib.hid (show w.heap.size ≤ W3.heap.size from by have := HW3.out.s; omega)
  clear hth
  generalize W6.setCells (w.heap.size + 1) 0 [.string x.td.n, .int .i64 x.td.z0, .int .i64 x.td.z1, .int .i64 x.td.z2, .slice g1 x.td.ws.length n1, .slice g2 x.td.bs.length n2, .string x.td.g, .string x.td.a, .int .i64 x.td.r] = W7 at *
  refine wpList_nil ?_
  go_wp2
  exact Hd.bodyPost_bx rfl (w.heap.size + 1) [.string x.td.n, .int .i64 x.td.z0, .int .i64 x.td.z1, .int .i64 x.td.z2, .slice g1 x.td.ws.length n1, .slice g2 x.td.bs.length n2, .string x.td.g, .string x.td.a, .int .i64 x.td.r] _ rfl rfl HW7.out.r Tryz.underlying42 rfl rfl ⟨⟨x.td, g1, n1, g2, n2⟩, rfl, rfl, ⟨HOd.out.le HS0.out, HOe.out.le HS3.out⟩, HW7.out.b⟩
end Bo
end Go.Proofs.YthbmnkeigmbbdaaGreat

/-
  A BOOK ANEW, by the document: gafferref08.Copy.
-/
namespace Go.Proofs.YthbmnkeigmbbdaaGreat
open Go.RowKit Go.Lib
namespace Bo
open Rw
set_option linter.unusedVariables false
/-- The three boxes of gafferref08.Copy. -/
structure Cp (w z : World) (cs rs os : List Value) : Prop where
  p : Hd.Bxn z w.heap.size cs
  r : Hd.Bxn z (w.heap.size + 1) rs
  o : Hd.Bxn z (w.heap.size + 1 + 1) os
  b : Below w.heap.size w z
  s : w.heap.size + 1 + 1 + 1 ≤ z.heap.size
theorem Cp.made (w : World) (cs rs os : List Value) (T U V : TypeId) : Cp w (((w.alloc (.cells cs.toArray T)).alloc (.cells rs.toArray U)).alloc (.cells os.toArray V)) cs rs os := by
  have h1 := Hd.Bxn.made w cs T
  have h2 := Hd.Bxn.made (w.alloc (.cells cs.toArray T)) rs U
  have h3 := Hd.Bxn.made ((w.alloc (.cells cs.toArray T)).alloc (.cells rs.toArray U)) os V
  simp only [World.size_alloc] at h2 h3
  exact ⟨(h1.below (al _ _)).below (al _ _), h2.below (al _ _), h3, (((Below.refl _ w).alloc (Nat.le_refl _) _).alloc (by simp) _).alloc (by simp; omega) _, by simp⟩
theorem bxn_in {z z' : World} {B C : Nat} {cs : List Value} (h : Hd.Bxn z B cs) (hb : Below C z z') (hB : B < C) : Hd.Bxn z' B cs := by
  obtain ⟨T, h⟩ := h
  exact ⟨T, (hb.block B hB).trans h⟩
theorem Cp.go {w z z' : World} {cs rs os : List Value} (h : Cp w z cs rs os) (hb : Below (w.heap.size + 1 + 1 + 1) z z') : Cp w z' cs rs os :=
  ⟨bxn_in h.p hb (by omega), bxn_in h.r hb (by omega), bxn_in h.o hb (by omega), h.b.trans (hb.mono (by omega)), Nat.le_trans h.s hb.size⟩
theorem Cp.below {w z z' : World} {cs rs os : List Value} (h : Cp w z cs rs os) (hb : Below z.heap.size z z') : Cp w z' cs rs os := h.go (hb.mono h.s)
theorem Cp.setR {w z : World} {cs rs os : List Value} (h : Cp w z cs rs os) (vs : List Value) (hl : vs.length = rs.length) : Cp w (z.setCells (w.heap.size + 1) 0 vs) cs vs os :=
  ⟨bxn_far h.p (by omega), h.r.all vs hl, bxn_far h.o (by omega), below_setCells h.b (by omega) _ _, Nat.le_trans h.s (grown_setCells z (w.heap.size + 1) 0 vs).size⟩
/-- How far the copying of the nodes, of the tasks is. -/
structure CsN (w z : World) (va : Value) (m : List NdM) : Prop where
  ow : Own z (w.heap.size + 1 + 1 + 1) 45 va m
  dn : ∀ y ∈ m, OwnN z (w.heap.size + 1 + 1 + 1) y
structure CsT (w z : World) (va : Value) (m : List TdM) : Prop where
  ow : Own z (w.heap.size + 1 + 1 + 1) 42 va m
  dn : ∀ y ∈ m, OwnT z (w.heap.size + 1 + 1 + 1) y
theorem CsN.keep {w z z' : World} {va : Value} {m : List NdM} (h : CsN w z va m) (hb : Below z.heap.size z z') : CsN w z' va m := ⟨h.ow.keep hb, fun y hy => (h.dn y hy).keep hb⟩
theorem CsN.far {w z z' : World} {va : Value} {m : List NdM} {P : Nat} (h : CsN w z va m) (hg : z.grownBy z' (some P)) (hp : P < w.heap.size + 1 + 1 + 1) : CsN w z' va m := ⟨own_far h.ow hg hp, fun y hy => ⟨own_far (h.dn y hy).1 hg hp, own_far (h.dn y hy).2 hg hp⟩⟩
theorem CsN.more {w z z' : World} {va v' : Value} {m : List NdM} {x : NdM} (h : CsN w z va m) (hx : OwnN z (w.heap.size + 1 + 1 + 1) x) (ho : Own z' (w.heap.size + 1 + 1 + 1) 45 v' (m ++ [x])) (hg : z.grownBy z' va.ownBlock) : CsN w z' v' (m ++ [x]) := by
  refine ⟨ho, fun y hy => ?_⟩
  rcases List.mem_append.1 hy with hy | hy
  · exact (h.dn y hy).off h.ow (by decide) hg
  · rw [List.mem_singleton] at hy
    subst hy
    exact hx.off h.ow (by decide) hg
theorem CsT.keep {w z z' : World} {va : Value} {m : List TdM} (h : CsT w z va m) (hb : Below z.heap.size z z') : CsT w z' va m := ⟨h.ow.keep hb, fun y hy => (h.dn y hy).keep hb⟩
theorem CsT.far {w z z' : World} {va : Value} {m : List TdM} {P : Nat} (h : CsT w z va m) (hg : z.grownBy z' (some P)) (hp : P < w.heap.size + 1 + 1 + 1) : CsT w z' va m := ⟨own_far h.ow hg hp, fun y hy => ⟨own_far (h.dn y hy).1 hg hp, own_far (h.dn y hy).2 hg hp⟩⟩
theorem CsT.more {w z z' : World} {va v' : Value} {m : List TdM} {x : TdM} (h : CsT w z va m) (hx : OwnT z (w.heap.size + 1 + 1 + 1) x) (ho : Own z' (w.heap.size + 1 + 1 + 1) 42 v' (m ++ [x])) (hg : z.grownBy z' va.ownBlock) : CsT w z' v' (m ++ [x]) := by
  refine ⟨ho, fun y hy => ?_⟩
  rcases List.mem_append.1 hy with hy | hy
  · exact (h.dn y hy).off h.ow (by decide) hg
  · rw [List.mem_singleton] at hy
    subst hy
    exact hx.off h.ow (by decide) hg
theorem CsN.off {α : Type} [F : Flat α] {w z z' : World} {va vt : Value} {m : List NdM} {l : List α} {b2 : Nat} {e : TypeId} (h : CsN w z va m) (ht : Own z b2 e vt l) (h1 : 45 ≠ e) (h2 : 89 ≠ e) (hg : z.grownBy z' vt.ownBlock) : CsN w z' va m :=
  ⟨h.ow.other hg (h.ow.apart ht h1), fun y hy => (h.dn y hy).off ht h2 hg⟩
theorem CsT.off {α : Type} [F : Flat α] {w z z' : World} {va vt : Value} {m : List TdM} {l : List α} {b2 : Nat} {e : TypeId} (h : CsT w z va m) (ht : Own z b2 e vt l) (h1 : 42 ≠ e) (h2 : 89 ≠ e) (hg : z.grownBy z' vt.ownBlock) : CsT w z' va m :=
  ⟨h.ow.other hg (h.ow.apart ht h1), fun y hy => (h.dn y hy).off ht h2 hg⟩
end Bo
end Go.Proofs.YthbmnkeigmbbdaaGreat
