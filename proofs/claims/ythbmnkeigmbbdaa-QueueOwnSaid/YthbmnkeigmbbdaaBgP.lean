/-
  Merged: BoApp, BoCpyN, BoCpy, BoSpoil.
-/
import Derived.Test.YthbmnkeigmbbdaaBgZ
import Derived.Laws.AppendOwnNone
import Derived.Maps.AppendAt
import Derived.Test.YthbmnkeigmbbdaaBoSame
import Derived.Deep.RegionWith
import Derived.Deep.RegionHeld3
import Derived.Deep.LoopGhost
/-
  APPENDS onto a row of one's own of whatever slice, nil or not.
-/
namespace Go.Proofs.Ythbmnkeigmbbdaa
open Go.RowKit Go.Lib
namespace Rw
set_option linter.unusedVariables false
section
variable {P : Program} {α : Type} [F : Flat α]
theorem run_app {w : World} {base : Nat} {t ty e : TypeId} {i : TypeInfo} {z : Value} {bytes : Nat} (ht : P.underlying t = some (.slice e)) (hi : P.info? e = some i) (hz : i.zero = some z) (hsize : i.size = F.k) (hby : i.bytes = bytes) (hzs : z.cells.size = F.k)
    {v u : Value} {l m : List α} (h : Own w base e v l) {A B : Nat} (hu : Sl w A B u m) (hl : (l.length + m.length) * bytes ≤ 140737488355328) (h63 : l.length + m.length ≤ 4611686018427387904) (hbase : base ≤ w.heap.size) :
    ∃ v' w', (Builtin.append_ #[t, t] ty #[v, u]).run P w = .ok v' w' ∧ Own w' base e v' (l ++ m) ∧ w.grownBy w' v.ownBlock ∧ (v'.ownBlock = v.ownBlock ∨ v'.ownBlock = some w.heap.size) := by
  have hu2 := hu
  obtain ⟨a, c, rfl, hc0, hnil, hml, hc⟩ := hu
  cases a with
  | none =>
    have h0 : c = 0 := hnil rfl
    subst h0
    have hm : m = [] := List.eq_nil_of_length_eq_zero (by omega)
    subst hm
    exact ⟨v, w, run_append_owned_none (P := P) (w := w) base t ty e i F.k ht hi v l.length (flat l) h, by rw [List.append_nil]; exact h, ⟨rfl, rfl, rfl, Nat.le_refl _, fun _ _ _ => rfl⟩, .inl rfl⟩
  | some ad =>
    obtain ⟨v', w', hr, h2, h3, -, h5⟩ := run_append_own_at (P := P) w base t ty e i z F.k bytes ht hi hz hsize hby hzs F.kp v l.length (flat l) h ad m.length c (flat m) (flat_len m) hu2.news (flat_one m) (by unfold maxLen; omega) hl hbase
    exact ⟨v', w', hr, Own.join h2, h3, h5⟩
theorem wpl_app {w w' : World} {ops : Array Oper} {rest : List Oper} {o : Oper} {a : Act} {Q : Exit → Act → World → Prop} (hgd : o.guard = none) (s x : Operand) (t : TypeId)
    (ho : o.op = .call { callee := .builtin .append, args := #[s, x], argTypes := #[t, t] }) (v u v' : Value) (hs : a.eval s = v) (hx : a.eval x = u) (hr : (Builtin.append_ #[t, t] o.type #[v, u]).run P w = .ok v' w') (h : wpList P ops Q rest (a.put o.dst v') w') : wpList P ops Q (o :: rest) a w := by
  refine wpList_plain hgd fun K hK => ?_
  unfold Oper.wp
  simp [execOp, ho, resolve, invoke, builtin, hs, hx, hr, Result.andThen]
  exact hK _ _ h
theorem step_app {w w' : World} {ops : Array Oper} {o : Oper} {a : Act} {K : Act → World → Prop} {Q : Exit → Act → World → Prop} {E : Prop} (hgd : o.guard = none) (s x : Operand) (t : TypeId)
    (ho : o.op = .call { callee := .builtin .append, args := #[s, x], argTypes := #[t, t] }) (v u v' : Value) (hs : a.eval s = v) (hx : a.eval x = u) (hr : (Builtin.append_ #[t, t] o.type #[v, u]).run P w = .ok v' w') (h : K (a.put o.dst v') w') :
    if Region.wanted o (yielded ops a.tmps) = true then Oper.wp P o a w K Q else E := by
  have hw : Region.wanted o (yielded ops a.tmps) = true := by simp [Region.wanted, hgd]
  rw [if_pos hw]
  unfold Oper.wp
  simp [execOp, ho, resolve, invoke, builtin, hs, hx, hr, Result.andThen]
  exact h
theorem sl_one (w : World) (x : α) (T : TypeId) : Sl (w.alloc (.cells (F.enc x).toArray T)) w.heap.size (w.alloc (.cells (F.enc x).toArray T)).heap.size (.slice (some ⟨w.heap.size, 0, none⟩) 1 1) [x] := by
  have h := sl_new w [x] T (by simp)
  rw [flat_single] at h
  exact h
end
end Rw
end Go.Proofs.Ythbmnkeigmbbdaa

/-
  A NODE, A TASK ANEW, by the document: gafferref08.CopyNode, CopyTask.
-/
namespace Go.Proofs.Ythbmnkeigmbbdaa
open Go.RowKit Go.Lib
namespace Bo
open Rw
set_option linter.unusedVariables false
set_option maxRecDepth 100000 in
set_option maxHeartbeats 4000000 in
theorem copy_n (x : NdM) (w : World) (hd : DeepN w w.heap.size x) (hf : FitN x.nd) : Calls Try.prog 30 #[.agg #[.string x.nd.n, .int .i64 x.nd.z0, .int .i64 x.nd.z1, .int .i64 x.nd.z2, .slice x.a2 x.nd.ls.length x.c2, .slice x.a3 x.nd.ts.length x.c3]] w fun e w' => ∃ y : NdM, y.nd = x.nd ∧ e = .returned (.agg #[.string y.nd.n, .int .i64 y.nd.z0, .int .i64 y.nd.z1, .int .i64 y.nd.z2, .slice y.a2 y.nd.ls.length y.c2, .slice y.a3 y.nd.ts.length y.c3]) ∧ OwnN w' w.heap.size y ∧ Below w.heap.size w w' := by
  obtain ⟨i0, hi0, hz0, hz1, hz2⟩ := info_parts info_p
  have hl1 := hf.2.2.1.1
  have hl2 := hf.2.2.2.1
  obtain ⟨W0, hW0⟩ : ∃ W0, W0 = (w.alloc (.cells #[.string x.nd.n, .int .i64 x.nd.z0, .int .i64 x.nd.z1, .int .i64 x.nd.z2, .slice x.a2 x.nd.ls.length x.c2, .slice x.a3 x.nd.ts.length x.c3] 44)).alloc (.cells #[.string ⟨#[]⟩, .int .i64 0, .int .i64 0, .int .i64 0, .slice none 0 0, .slice none 0 0] 44) := ⟨_, rfl⟩
  have HW0 : Hid (Fr2 w W0 [.string x.nd.n, .int .i64 x.nd.z0, .int .i64 x.nd.z1, .int .i64 x.nd.z2, .slice x.a2 x.nd.ls.length x.c2, .slice x.a3 x.nd.ts.length x.c3] [.string ⟨#[]⟩, .int .i64 0, .int .i64 0, .int .i64 0, .slice none 0 0, .slice none 0 0]) := by rw [hW0]; exact Fr2.made w _ _ _ _
  have HW := Lib.hid hW0
  clear hW0
  go_enter Try.func30, Try.ntmps30
  go_upto_region 1 with fail
  rw [← HW.out]
  clear HW
  refine wp_region_list ?_
  refine wpList_plain rfl fun K hK => ?_
  go_simp
  refine hK _ _ ?_
  clear hK K
  generalize hWW1 : W0.alloc (.cells #[] 51) = W1 at *
  have hbl : Below W0.heap.size W0 W1 := by rw [← hWW1]; exact al _ _
  have hown : Own (α := Rg.Pr) W1 W0.heap.size 51 (.slice (some ⟨W0.heap.size, 0, none⟩) 0 0) [] := by rw [← hWW1]; exact Own.made _ _
  have HW1 := Lib.hid (HW0.out.below hbl)
  refine wpList_plain rfl fun K hK => ?_
  go_simp
  refine hK _ _ ?_
  clear hK K
  have k0 : W1.cell? ⟨w.heap.size, 4, none⟩ = some (.slice x.a2 x.nd.ls.length x.c2) := HW1.out.p.cell 4
  refine wpList_plain rfl fun K hK => ?_
  go_simp
  refine hK _ _ ?_
  clear hK K
  clear k0
  obtain ⟨q', W2, hr, ho2, hg2, -⟩ := run_app (P := Try.prog) (ty := 34) Try.underlying34 hi0 hz0 hz1 hz2 rfl hown (hd.1.on (HW1.out.b)) (by rw [List.length_nil]; have h := hl1; omega) (by rw [List.length_nil]; have h := hl1; omega) hbl.size
  have hb3 : Below W0.heap.size W0 W2 := hbl.grown hg2 hbl.size (fun g e => (hown.lt g e).1)
  rw [List.nil_append] at ho2
  obtain ⟨g1, n1, rfl⟩ := ho2.slice
  refine wpl_app rfl (.tmp 3) (.tmp 5) 34 rfl _ _ _ rfl rfl hr ?_
  clear hr hown hbl
  have HW2 := Lib.hid (HW0.out.below hb3)
  have HOW2 := Lib.hid ho2
  have HZW2 : Hid (W0.heap.size ≤ W2.heap.size) := hb3.size
  clear hb3 ho2 hg2 hWW1
  refine wpList_plain rfl fun K hK => ?_
  go_simp
  refine hK _ _ ?_
  clear hK K
  have k1 : W2.cell? ⟨w.heap.size, 4, none⟩ = some (.slice x.a2 x.nd.ls.length x.c2) := HW2.out.p.cell 4
  have k2 : W2.frozen? ⟨w.heap.size, 4, none⟩ = false := HW2.out.p.fz 4
  refine wpList_plain rfl fun K hK => ?_
  go_simp
  refine hK _ _ ?_
  clear hK K
  clear k1 k2
  have HW3 : Hid (Fr2 w (W2.setCell ⟨w.heap.size, 4, none⟩ (.slice g1 x.nd.ls.length n1)) [.string x.nd.n, .int .i64 x.nd.z0, .int .i64 x.nd.z1, .int .i64 x.nd.z2, .slice g1 x.nd.ls.length n1, .slice x.a3 x.nd.ts.length x.c3] [.string ⟨#[]⟩, .int .i64 0, .int .i64 0, .int .i64 0, .slice none 0 0, .slice none 0 0]) := HW2.out.one 4 _
  have HOW3 : Hid (Own (W2.setCell ⟨w.heap.size, 4, none⟩ (.slice g1 x.nd.ls.length n1)) W0.heap.size 51 (.slice g1 x.nd.ls.length n1) x.nd.ls) := own_far HOW2.out (grown_setCell _ _ _ _) (by have := HW0.out.s; omega)
  generalize W2.setCell ⟨w.heap.size, 4, none⟩ (.slice g1 x.nd.ls.length n1) = W3 at *
  clear HW2 HOW2 HW1
  refine wpList_nil ?_
  go_upto_region 2 with fail
  refine wp_region_list ?_
  refine wpList_plain rfl fun K hK => ?_
  go_simp
  refine hK _ _ ?_
  clear hK K
  generalize hWW4 : W3.alloc (.cells #[] 51) = W4 at *
  have hbl : Below W3.heap.size W3 W4 := by rw [← hWW4]; exact al _ _
  have hown : Own (α := Rg.Pr) W4 W3.heap.size 51 (.slice (some ⟨W3.heap.size, 0, none⟩) 0 0) [] := by rw [← hWW4]; exact Own.made _ _
  have HW4 := Lib.hid (HW3.out.below hbl)
  refine wpList_plain rfl fun K hK => ?_
  go_simp
  refine hK _ _ ?_
  clear hK K
  have k0 : W4.cell? ⟨w.heap.size, 5, none⟩ = some (.slice x.a3 x.nd.ts.length x.c3) := HW4.out.p.cell 5
  refine wpList_plain rfl fun K hK => ?_
  go_simp
  refine hK _ _ ?_
  clear hK K
  clear k0
  obtain ⟨q', W5, hr, ho2, hg2, -⟩ := run_app (P := Try.prog) (ty := 34) Try.underlying34 hi0 hz0 hz1 hz2 rfl hown (hd.2.on (HW4.out.b)) (by rw [List.length_nil]; have h := hl2; omega) (by rw [List.length_nil]; have h := hl2; omega) hbl.size
  have hb3 : Below W3.heap.size W3 W5 := hbl.grown hg2 hbl.size (fun g e => (hown.lt g e).1)
  rw [List.nil_append] at ho2
  obtain ⟨g2, n2, rfl⟩ := ho2.slice
  refine wpl_app rfl (.tmp 8) (.tmp 10) 34 rfl _ _ _ rfl rfl hr ?_
  clear hr hown hbl
  have HW5 := Lib.hid (HW3.out.below hb3)
  have HOb := Lib.hid (HOW3.out.keep hb3)
  have HOW5 := Lib.hid ho2
  have HZW5 : Hid (W3.heap.size ≤ W5.heap.size) := hb3.size
  clear hb3 ho2 hg2 hWW4
  refine wpList_plain rfl fun K hK => ?_
  go_simp
  refine hK _ _ ?_
  clear hK K
  have k1 : W5.cell? ⟨w.heap.size, 5, none⟩ = some (.slice x.a3 x.nd.ts.length x.c3) := HW5.out.p.cell 5
  have k2 : W5.frozen? ⟨w.heap.size, 5, none⟩ = false := HW5.out.p.fz 5
  refine wpList_plain rfl fun K hK => ?_
  go_simp
  refine hK _ _ ?_
  clear hK K
  clear k1 k2
  have HW6 : Hid (Fr2 w (W5.setCell ⟨w.heap.size, 5, none⟩ (.slice g2 x.nd.ts.length n2)) [.string x.nd.n, .int .i64 x.nd.z0, .int .i64 x.nd.z1, .int .i64 x.nd.z2, .slice g1 x.nd.ls.length n1, .slice g2 x.nd.ts.length n2] [.string ⟨#[]⟩, .int .i64 0, .int .i64 0, .int .i64 0, .slice none 0 0, .slice none 0 0]) := HW5.out.one 5 _
  have HOW6 : Hid (Own (W5.setCell ⟨w.heap.size, 5, none⟩ (.slice g2 x.nd.ts.length n2)) W3.heap.size 51 (.slice g2 x.nd.ts.length n2) x.nd.ts) := own_far HOW5.out (grown_setCell _ _ _ _) (by have := HW3.out.s; omega)
  have HOc : Hid (Own (W5.setCell ⟨w.heap.size, 5, none⟩ (.slice g2 x.nd.ts.length n2)) W0.heap.size 51 (.slice g1 x.nd.ls.length n1) x.nd.ls) := own_far HOb.out (grown_setCell _ _ _ _) (by have := HW0.out.s; omega)
  generalize W5.setCell ⟨w.heap.size, 5, none⟩ (.slice g2 x.nd.ts.length n2) = W6 at *
  clear HW5 HOW5 HW4
  refine wpList_nil ?_
  go_upto_region 3 with fail
  refine wp_region_list ?_
  refine wpList_load_mid rfl 44 (.tmp 1) rfl (w.heap.size) (0) rfl [.string x.nd.n, .int .i64 x.nd.z0, .int .i64 x.nd.z1, .int .i64 x.nd.z2, .slice g1 x.nd.ls.length n1, .slice g2 x.nd.ts.length n2] _ (HW6.out.p.range 0) Try.underlying44 rfl rfl ?_
  have hth := HW6.out.r.there 6 rfl
  refine wpList_store_mid rfl 44 (.tmp 2) (.tmp 13) rfl (w.heap.size + 1) 0 #[.string x.nd.n, .int .i64 x.nd.z0, .int .i64 x.nd.z1, .int .i64 x.nd.z2, .slice g1 x.nd.ls.length n1, .slice g2 x.nd.ts.length n2] rfl rfl hth rfl (all_oneCell_toArray (List.all_eq_true.1 (show List.all ([.string x.nd.n, .int .i64 x.nd.z0, .int .i64 x.nd.z1, .int .i64 x.nd.z2, .slice g1 x.nd.ls.length n1, .slice g2 x.nd.ts.length n2] : List Value) (fun v => v.oneCell') = true from rfl))) ?_
  rw [show (#[.string x.nd.n, .int .i64 x.nd.z0, .int .i64 x.nd.z1, .int .i64 x.nd.z2, .slice g1 x.nd.ls.length n1, .slice g2 x.nd.ts.length n2] : Array Value).toList = [.string x.nd.n, .int .i64 x.nd.z0, .int .i64 x.nd.z1, .int .i64 x.nd.z2, .slice g1 x.nd.ls.length n1, .slice g2 x.nd.ts.length n2] from rfl]
  have HW7 : Hid (Fr2 w (W6.setCells (w.heap.size + 1) 0 [.string x.nd.n, .int .i64 x.nd.z0, .int .i64 x.nd.z1, .int .i64 x.nd.z2, .slice g1 x.nd.ls.length n1, .slice g2 x.nd.ts.length n2]) [.string x.nd.n, .int .i64 x.nd.z0, .int .i64 x.nd.z1, .int .i64 x.nd.z2, .slice g1 x.nd.ls.length n1, .slice g2 x.nd.ts.length n2] [.string x.nd.n, .int .i64 x.nd.z0, .int .i64 x.nd.z1, .int .i64 x.nd.z2, .slice g1 x.nd.ls.length n1, .slice g2 x.nd.ts.length n2]) := HW6.out.setR [.string x.nd.n, .int .i64 x.nd.z0, .int .i64 x.nd.z1, .int .i64 x.nd.z2, .slice g1 x.nd.ls.length n1, .slice g2 x.nd.ts.length n2] rfl
  have HOd : Hid (Own (W6.setCells (w.heap.size + 1) 0 [.string x.nd.n, .int .i64 x.nd.z0, .int .i64 x.nd.z1, .int .i64 x.nd.z2, .slice g1 x.nd.ls.length n1, .slice g2 x.nd.ts.length n2]) W0.heap.size 51 (.slice g1 x.nd.ls.length n1) x.nd.ls) := own_far HOc.out (grown_setCells _ _ _ _) (by have := HW0.out.s; omega)
  have HOe : Hid (Own (W6.setCells (w.heap.size + 1) 0 [.string x.nd.n, .int .i64 x.nd.z0, .int .i64 x.nd.z1, .int .i64 x.nd.z2, .slice g1 x.nd.ls.length n1, .slice g2 x.nd.ts.length n2]) W3.heap.size 51 (.slice g2 x.nd.ts.length n2) x.nd.ts) := own_far HOW6.out (grown_setCells _ _ _ _) (by have := HW3.out.s; omega)
  have HS0 := Lib.hid (show w.heap.size ≤ W0.heap.size from by have := HW0.out.s; omega)
  have HS3 := Lib.hid (show w.heap.size ≤ W3.heap.size from by have := HW3.out.s; omega)
  clear hth
  generalize W6.setCells (w.heap.size + 1) 0 [.string x.nd.n, .int .i64 x.nd.z0, .int .i64 x.nd.z1, .int .i64 x.nd.z2, .slice g1 x.nd.ls.length n1, .slice g2 x.nd.ts.length n2] = W7 at *
  refine wpList_nil ?_
  go_wp2
  exact Hd.bodyPost_bx rfl (w.heap.size + 1) [.string x.nd.n, .int .i64 x.nd.z0, .int .i64 x.nd.z1, .int .i64 x.nd.z2, .slice g1 x.nd.ls.length n1, .slice g2 x.nd.ts.length n2] _ rfl rfl HW7.out.r Try.underlying44 rfl rfl ⟨⟨x.nd, g1, n1, g2, n2⟩, rfl, rfl, ⟨HOd.out.le HS0.out, HOe.out.le HS3.out⟩, HW7.out.b⟩
set_option maxRecDepth 100000 in
set_option maxHeartbeats 4000000 in
theorem copy_t (x : TdM) (w : World) (hd : DeepT w w.heap.size x) (hf : FitT x.td) : Calls Try.prog 31 #[.agg #[.string x.td.n, .int .i64 x.td.z0, .int .i64 x.td.z1, .int .i64 x.td.z2, .slice x.a4 x.td.ws.length x.c4, .slice x.a5 x.td.bs.length x.c5, .string x.td.g, .string x.td.a, .int .i64 x.td.r]] w fun e w' => ∃ y : TdM, y.td = x.td ∧ e = .returned (.agg #[.string y.td.n, .int .i64 y.td.z0, .int .i64 y.td.z1, .int .i64 y.td.z2, .slice y.a4 y.td.ws.length y.c4, .slice y.a5 y.td.bs.length y.c5, .string y.td.g, .string y.td.a, .int .i64 y.td.r]) ∧ OwnT w' w.heap.size y ∧ Below w.heap.size w w' := by
  obtain ⟨i0, hi0, hz0, hz1, hz2⟩ := info_parts info_p
  have hl1 := hf.2.2.1.1
  have hl2 := hf.2.2.2.1
  obtain ⟨W0, hW0⟩ : ∃ W0, W0 = (w.alloc (.cells #[.string x.td.n, .int .i64 x.td.z0, .int .i64 x.td.z1, .int .i64 x.td.z2, .slice x.a4 x.td.ws.length x.c4, .slice x.a5 x.td.bs.length x.c5, .string x.td.g, .string x.td.a, .int .i64 x.td.r] 36)).alloc (.cells #[.string ⟨#[]⟩, .int .i64 0, .int .i64 0, .int .i64 0, .slice none 0 0, .slice none 0 0, .string ⟨#[]⟩, .string ⟨#[]⟩, .int .i64 0] 36) := ⟨_, rfl⟩
  have HW0 : Hid (Fr2 w W0 [.string x.td.n, .int .i64 x.td.z0, .int .i64 x.td.z1, .int .i64 x.td.z2, .slice x.a4 x.td.ws.length x.c4, .slice x.a5 x.td.bs.length x.c5, .string x.td.g, .string x.td.a, .int .i64 x.td.r] [.string ⟨#[]⟩, .int .i64 0, .int .i64 0, .int .i64 0, .slice none 0 0, .slice none 0 0, .string ⟨#[]⟩, .string ⟨#[]⟩, .int .i64 0]) := by rw [hW0]; exact Fr2.made w _ _ _ _
  have HW := Lib.hid hW0
  clear hW0
  go_enter Try.func31, Try.ntmps31
  go_upto_region 1 with fail
  rw [← HW.out]
  clear HW
  refine wp_region_list ?_
  refine wpList_plain rfl fun K hK => ?_
  go_simp
  refine hK _ _ ?_
  clear hK K
  generalize hWW1 : W0.alloc (.cells #[] 51) = W1 at *
  have hbl : Below W0.heap.size W0 W1 := by rw [← hWW1]; exact al _ _
  have hown : Own (α := Rg.Pr) W1 W0.heap.size 51 (.slice (some ⟨W0.heap.size, 0, none⟩) 0 0) [] := by rw [← hWW1]; exact Own.made _ _
  have HW1 := Lib.hid (HW0.out.below hbl)
  refine wpList_plain rfl fun K hK => ?_
  go_simp
  refine hK _ _ ?_
  clear hK K
  have k0 : W1.cell? ⟨w.heap.size, 4, none⟩ = some (.slice x.a4 x.td.ws.length x.c4) := HW1.out.p.cell 4
  refine wpList_plain rfl fun K hK => ?_
  go_simp
  refine hK _ _ ?_
  clear hK K
  clear k0
  obtain ⟨q', W2, hr, ho2, hg2, -⟩ := run_app (P := Try.prog) (ty := 34) Try.underlying34 hi0 hz0 hz1 hz2 rfl hown (hd.1.on (HW1.out.b)) (by rw [List.length_nil]; have h := hl1; omega) (by rw [List.length_nil]; have h := hl1; omega) hbl.size
  have hb3 : Below W0.heap.size W0 W2 := hbl.grown hg2 hbl.size (fun g e => (hown.lt g e).1)
  rw [List.nil_append] at ho2
  obtain ⟨g1, n1, rfl⟩ := ho2.slice
  refine wpl_app rfl (.tmp 3) (.tmp 5) 34 rfl _ _ _ rfl rfl hr ?_
  clear hr hown hbl
  have HW2 := Lib.hid (HW0.out.below hb3)
  have HOW2 := Lib.hid ho2
  have HZW2 : Hid (W0.heap.size ≤ W2.heap.size) := hb3.size
  clear hb3 ho2 hg2 hWW1
  refine wpList_plain rfl fun K hK => ?_
  go_simp
  refine hK _ _ ?_
  clear hK K
  have k1 : W2.cell? ⟨w.heap.size, 4, none⟩ = some (.slice x.a4 x.td.ws.length x.c4) := HW2.out.p.cell 4
  have k2 : W2.frozen? ⟨w.heap.size, 4, none⟩ = false := HW2.out.p.fz 4
  refine wpList_plain rfl fun K hK => ?_
  go_simp
  refine hK _ _ ?_
  clear hK K
  clear k1 k2
  have HW3 : Hid (Fr2 w (W2.setCell ⟨w.heap.size, 4, none⟩ (.slice g1 x.td.ws.length n1)) [.string x.td.n, .int .i64 x.td.z0, .int .i64 x.td.z1, .int .i64 x.td.z2, .slice g1 x.td.ws.length n1, .slice x.a5 x.td.bs.length x.c5, .string x.td.g, .string x.td.a, .int .i64 x.td.r] [.string ⟨#[]⟩, .int .i64 0, .int .i64 0, .int .i64 0, .slice none 0 0, .slice none 0 0, .string ⟨#[]⟩, .string ⟨#[]⟩, .int .i64 0]) := HW2.out.one 4 _
  have HOW3 : Hid (Own (W2.setCell ⟨w.heap.size, 4, none⟩ (.slice g1 x.td.ws.length n1)) W0.heap.size 51 (.slice g1 x.td.ws.length n1) x.td.ws) := own_far HOW2.out (grown_setCell _ _ _ _) (by have := HW0.out.s; omega)
  generalize W2.setCell ⟨w.heap.size, 4, none⟩ (.slice g1 x.td.ws.length n1) = W3 at *
  clear HW2 HOW2 HW1
  refine wpList_nil ?_
  go_upto_region 2 with fail
  refine wp_region_list ?_
  refine wpList_plain rfl fun K hK => ?_
  go_simp
  refine hK _ _ ?_
  clear hK K
  generalize hWW4 : W3.alloc (.cells #[] 51) = W4 at *
  have hbl : Below W3.heap.size W3 W4 := by rw [← hWW4]; exact al _ _
  have hown : Own (α := Rg.Pr) W4 W3.heap.size 51 (.slice (some ⟨W3.heap.size, 0, none⟩) 0 0) [] := by rw [← hWW4]; exact Own.made _ _
  have HW4 := Lib.hid (HW3.out.below hbl)
  refine wpList_plain rfl fun K hK => ?_
  go_simp
  refine hK _ _ ?_
  clear hK K
  have k0 : W4.cell? ⟨w.heap.size, 5, none⟩ = some (.slice x.a5 x.td.bs.length x.c5) := HW4.out.p.cell 5
  refine wpList_plain rfl fun K hK => ?_
  go_simp
  refine hK _ _ ?_
  clear hK K
  clear k0
  obtain ⟨q', W5, hr, ho2, hg2, -⟩ := run_app (P := Try.prog) (ty := 34) Try.underlying34 hi0 hz0 hz1 hz2 rfl hown (hd.2.on (HW4.out.b)) (by rw [List.length_nil]; have h := hl2; omega) (by rw [List.length_nil]; have h := hl2; omega) hbl.size
  have hb3 : Below W3.heap.size W3 W5 := hbl.grown hg2 hbl.size (fun g e => (hown.lt g e).1)
  rw [List.nil_append] at ho2
  obtain ⟨g2, n2, rfl⟩ := ho2.slice
  refine wpl_app rfl (.tmp 8) (.tmp 10) 34 rfl _ _ _ rfl rfl hr ?_
  clear hr hown hbl
  have HW5 := Lib.hid (HW3.out.below hb3)
  have HOb := Lib.hid (HOW3.out.keep hb3)
  have HOW5 := Lib.hid ho2
  have HZW5 : Hid (W3.heap.size ≤ W5.heap.size) := hb3.size
  clear hb3 ho2 hg2 hWW4
  refine wpList_plain rfl fun K hK => ?_
  go_simp
  refine hK _ _ ?_
  clear hK K
  have k1 : W5.cell? ⟨w.heap.size, 5, none⟩ = some (.slice x.a5 x.td.bs.length x.c5) := HW5.out.p.cell 5
  have k2 : W5.frozen? ⟨w.heap.size, 5, none⟩ = false := HW5.out.p.fz 5
  refine wpList_plain rfl fun K hK => ?_
  go_simp
  refine hK _ _ ?_
  clear hK K
  clear k1 k2
  have HW6 : Hid (Fr2 w (W5.setCell ⟨w.heap.size, 5, none⟩ (.slice g2 x.td.bs.length n2)) [.string x.td.n, .int .i64 x.td.z0, .int .i64 x.td.z1, .int .i64 x.td.z2, .slice g1 x.td.ws.length n1, .slice g2 x.td.bs.length n2, .string x.td.g, .string x.td.a, .int .i64 x.td.r] [.string ⟨#[]⟩, .int .i64 0, .int .i64 0, .int .i64 0, .slice none 0 0, .slice none 0 0, .string ⟨#[]⟩, .string ⟨#[]⟩, .int .i64 0]) := HW5.out.one 5 _
  have HOW6 : Hid (Own (W5.setCell ⟨w.heap.size, 5, none⟩ (.slice g2 x.td.bs.length n2)) W3.heap.size 51 (.slice g2 x.td.bs.length n2) x.td.bs) := own_far HOW5.out (grown_setCell _ _ _ _) (by have := HW3.out.s; omega)
  have HOc : Hid (Own (W5.setCell ⟨w.heap.size, 5, none⟩ (.slice g2 x.td.bs.length n2)) W0.heap.size 51 (.slice g1 x.td.ws.length n1) x.td.ws) := own_far HOb.out (grown_setCell _ _ _ _) (by have := HW0.out.s; omega)
  generalize W5.setCell ⟨w.heap.size, 5, none⟩ (.slice g2 x.td.bs.length n2) = W6 at *
  clear HW5 HOW5 HW4
  refine wpList_nil ?_
  go_upto_region 3 with fail
  refine wp_region_list ?_
  refine wpList_load_mid rfl 36 (.tmp 1) rfl (w.heap.size) (0) rfl [.string x.td.n, .int .i64 x.td.z0, .int .i64 x.td.z1, .int .i64 x.td.z2, .slice g1 x.td.ws.length n1, .slice g2 x.td.bs.length n2, .string x.td.g, .string x.td.a, .int .i64 x.td.r] _ (HW6.out.p.range 0) Try.underlying36 rfl rfl ?_
  have hth := HW6.out.r.there 9 rfl
  refine wpList_store_mid rfl 36 (.tmp 2) (.tmp 13) rfl (w.heap.size + 1) 0 #[.string x.td.n, .int .i64 x.td.z0, .int .i64 x.td.z1, .int .i64 x.td.z2, .slice g1 x.td.ws.length n1, .slice g2 x.td.bs.length n2, .string x.td.g, .string x.td.a, .int .i64 x.td.r] rfl rfl hth rfl (all_oneCell_toArray (List.all_eq_true.1 (show List.all ([.string x.td.n, .int .i64 x.td.z0, .int .i64 x.td.z1, .int .i64 x.td.z2, .slice g1 x.td.ws.length n1, .slice g2 x.td.bs.length n2, .string x.td.g, .string x.td.a, .int .i64 x.td.r] : List Value) (fun v => v.oneCell') = true from rfl))) ?_
  rw [show (#[.string x.td.n, .int .i64 x.td.z0, .int .i64 x.td.z1, .int .i64 x.td.z2, .slice g1 x.td.ws.length n1, .slice g2 x.td.bs.length n2, .string x.td.g, .string x.td.a, .int .i64 x.td.r] : Array Value).toList = [.string x.td.n, .int .i64 x.td.z0, .int .i64 x.td.z1, .int .i64 x.td.z2, .slice g1 x.td.ws.length n1, .slice g2 x.td.bs.length n2, .string x.td.g, .string x.td.a, .int .i64 x.td.r] from rfl]
  have HW7 : Hid (Fr2 w (W6.setCells (w.heap.size + 1) 0 [.string x.td.n, .int .i64 x.td.z0, .int .i64 x.td.z1, .int .i64 x.td.z2, .slice g1 x.td.ws.length n1, .slice g2 x.td.bs.length n2, .string x.td.g, .string x.td.a, .int .i64 x.td.r]) [.string x.td.n, .int .i64 x.td.z0, .int .i64 x.td.z1, .int .i64 x.td.z2, .slice g1 x.td.ws.length n1, .slice g2 x.td.bs.length n2, .string x.td.g, .string x.td.a, .int .i64 x.td.r] [.string x.td.n, .int .i64 x.td.z0, .int .i64 x.td.z1, .int .i64 x.td.z2, .slice g1 x.td.ws.length n1, .slice g2 x.td.bs.length n2, .string x.td.g, .string x.td.a, .int .i64 x.td.r]) := HW6.out.setR [.string x.td.n, .int .i64 x.td.z0, .int .i64 x.td.z1, .int .i64 x.td.z2, .slice g1 x.td.ws.length n1, .slice g2 x.td.bs.length n2, .string x.td.g, .string x.td.a, .int .i64 x.td.r] rfl
  have HOd : Hid (Own (W6.setCells (w.heap.size + 1) 0 [.string x.td.n, .int .i64 x.td.z0, .int .i64 x.td.z1, .int .i64 x.td.z2, .slice g1 x.td.ws.length n1, .slice g2 x.td.bs.length n2, .string x.td.g, .string x.td.a, .int .i64 x.td.r]) W0.heap.size 51 (.slice g1 x.td.ws.length n1) x.td.ws) := own_far HOc.out (grown_setCells _ _ _ _) (by have := HW0.out.s; omega)
  have HOe : Hid (Own (W6.setCells (w.heap.size + 1) 0 [.string x.td.n, .int .i64 x.td.z0, .int .i64 x.td.z1, .int .i64 x.td.z2, .slice g1 x.td.ws.length n1, .slice g2 x.td.bs.length n2, .string x.td.g, .string x.td.a, .int .i64 x.td.r]) W3.heap.size 51 (.slice g2 x.td.bs.length n2) x.td.bs) := own_far HOW6.out (grown_setCells _ _ _ _) (by have := HW3.out.s; omega)
  have HS0 := Lib.hid (show w.heap.size ≤ W0.heap.size from by have := HW0.out.s; omega)
  have HS3 := Lib.hid (show w.heap.size ≤ W3.heap.size from by have := HW3.out.s; omega)
  clear hth
  generalize W6.setCells (w.heap.size + 1) 0 [.string x.td.n, .int .i64 x.td.z0, .int .i64 x.td.z1, .int .i64 x.td.z2, .slice g1 x.td.ws.length n1, .slice g2 x.td.bs.length n2, .string x.td.g, .string x.td.a, .int .i64 x.td.r] = W7 at *
  refine wpList_nil ?_
  go_wp2
  exact Hd.bodyPost_bx rfl (w.heap.size + 1) [.string x.td.n, .int .i64 x.td.z0, .int .i64 x.td.z1, .int .i64 x.td.z2, .slice g1 x.td.ws.length n1, .slice g2 x.td.bs.length n2, .string x.td.g, .string x.td.a, .int .i64 x.td.r] _ rfl rfl HW7.out.r Try.underlying36 rfl rfl ⟨⟨x.td, g1, n1, g2, n2⟩, rfl, rfl, ⟨HOd.out.le HS0.out, HOe.out.le HS3.out⟩, HW7.out.b⟩
end Bo
end Go.Proofs.Ythbmnkeigmbbdaa

/-
  A BOOK ANEW, by the document: gafferref08.Copy.
-/
namespace Go.Proofs.Ythbmnkeigmbbdaa
open Go.RowKit Go.Lib
namespace Bo
open Rw
set_option linter.unusedVariables false
/-- The three boxes of gafferref08.Copy. -/
structure Cp (w z : World) (cs rs os : List Value) : Prop where
  p : Hd.Bxn z w.heap.size cs
  r : Hd.Bxn z (w.heap.size + 1) rs
  o : Hd.Bxn z (w.heap.size + 1 + 1) os
  b : Below w.heap.size w z
  s : w.heap.size + 1 + 1 + 1 ≤ z.heap.size
theorem Cp.made (w : World) (cs rs os : List Value) (T U V : TypeId) : Cp w (((w.alloc (.cells cs.toArray T)).alloc (.cells rs.toArray U)).alloc (.cells os.toArray V)) cs rs os := by
  have h1 := Hd.Bxn.made w cs T
  have h2 := Hd.Bxn.made (w.alloc (.cells cs.toArray T)) rs U
  have h3 := Hd.Bxn.made ((w.alloc (.cells cs.toArray T)).alloc (.cells rs.toArray U)) os V
  simp only [World.size_alloc] at h2 h3
  exact ⟨(h1.below (al _ _)).below (al _ _), h2.below (al _ _), h3, (((Below.refl _ w).alloc (Nat.le_refl _) _).alloc (by simp) _).alloc (by simp; omega) _, by simp⟩
theorem bxn_in {z z' : World} {B C : Nat} {cs : List Value} (h : Hd.Bxn z B cs) (hb : Below C z z') (hB : B < C) : Hd.Bxn z' B cs := by
  obtain ⟨T, h⟩ := h
  exact ⟨T, (hb.block B hB).trans h⟩
theorem Cp.go {w z z' : World} {cs rs os : List Value} (h : Cp w z cs rs os) (hb : Below (w.heap.size + 1 + 1 + 1) z z') : Cp w z' cs rs os :=
  ⟨bxn_in h.p hb (by omega), bxn_in h.r hb (by omega), bxn_in h.o hb (by omega), h.b.trans (hb.mono (by omega)), Nat.le_trans h.s hb.size⟩
theorem Cp.below {w z z' : World} {cs rs os : List Value} (h : Cp w z cs rs os) (hb : Below z.heap.size z z') : Cp w z' cs rs os := h.go (hb.mono h.s)
theorem Cp.setO {w z : World} {cs rs os : List Value} (h : Cp w z cs rs os) (i : Nat) (v : Value) : Cp w (z.setCell ⟨w.heap.size + 1 + 1, i, none⟩ v) cs rs (os.set i v) :=
  ⟨h.p.apart (by omega) _ _, h.r.apart (by omega) _ _, h.o.set i v, h.b.setCell (by show w.heap.size ≤ w.heap.size + 1 + 1; omega) _, Nat.le_trans h.s (grown_setCell z (w.heap.size + 1 + 1) i v).size⟩
theorem Cp.setR {w z : World} {cs rs os : List Value} (h : Cp w z cs rs os) (vs : List Value) (hl : vs.length = rs.length) : Cp w (z.setCells (w.heap.size + 1) 0 vs) cs vs os :=
  ⟨bxn_far h.p (by omega), h.r.all vs hl, bxn_far h.o (by omega), below_setCells h.b (by omega) _ _, Nat.le_trans h.s (grown_setCells z (w.heap.size + 1) 0 vs).size⟩
/-- How far the copying of the nodes, of the tasks is. -/
structure CsN (w z : World) (va : Value) (m : List NdM) : Prop where
  ow : Own z (w.heap.size + 1 + 1 + 1) 44 va m
  dn : ∀ y ∈ m, OwnN z (w.heap.size + 1 + 1 + 1) y
structure CsT (w z : World) (va : Value) (m : List TdM) : Prop where
  ow : Own z (w.heap.size + 1 + 1 + 1) 36 va m
  dn : ∀ y ∈ m, OwnT z (w.heap.size + 1 + 1 + 1) y
theorem CsN.keep {w z z' : World} {va : Value} {m : List NdM} (h : CsN w z va m) (hb : Below z.heap.size z z') : CsN w z' va m := ⟨h.ow.keep hb, fun y hy => (h.dn y hy).keep hb⟩
theorem CsN.far {w z z' : World} {va : Value} {m : List NdM} {P : Nat} (h : CsN w z va m) (hg : z.grownBy z' (some P)) (hp : P < w.heap.size + 1 + 1 + 1) : CsN w z' va m := ⟨own_far h.ow hg hp, fun y hy => ⟨own_far (h.dn y hy).1 hg hp, own_far (h.dn y hy).2 hg hp⟩⟩
theorem CsN.more {w z z' : World} {va v' : Value} {m : List NdM} {x : NdM} (h : CsN w z va m) (hx : OwnN z (w.heap.size + 1 + 1 + 1) x) (ho : Own z' (w.heap.size + 1 + 1 + 1) 44 v' (m ++ [x])) (hg : z.grownBy z' va.ownBlock) : CsN w z' v' (m ++ [x]) := by
  refine ⟨ho, fun y hy => ?_⟩
  rcases List.mem_append.1 hy with hy | hy
  · exact (h.dn y hy).off h.ow (by decide) hg
  · rw [List.mem_singleton] at hy
    subst hy
    exact hx.off h.ow (by decide) hg
theorem CsT.keep {w z z' : World} {va : Value} {m : List TdM} (h : CsT w z va m) (hb : Below z.heap.size z z') : CsT w z' va m := ⟨h.ow.keep hb, fun y hy => (h.dn y hy).keep hb⟩
theorem CsT.far {w z z' : World} {va : Value} {m : List TdM} {P : Nat} (h : CsT w z va m) (hg : z.grownBy z' (some P)) (hp : P < w.heap.size + 1 + 1 + 1) : CsT w z' va m := ⟨own_far h.ow hg hp, fun y hy => ⟨own_far (h.dn y hy).1 hg hp, own_far (h.dn y hy).2 hg hp⟩⟩
theorem CsT.more {w z z' : World} {va v' : Value} {m : List TdM} {x : TdM} (h : CsT w z va m) (hx : OwnT z (w.heap.size + 1 + 1 + 1) x) (ho : Own z' (w.heap.size + 1 + 1 + 1) 36 v' (m ++ [x])) (hg : z.grownBy z' va.ownBlock) : CsT w z' v' (m ++ [x]) := by
  refine ⟨ho, fun y hy => ?_⟩
  rcases List.mem_append.1 hy with hy | hy
  · exact (h.dn y hy).off h.ow (by decide) hg
  · rw [List.mem_singleton] at hy
    subst hy
    exact hx.off h.ow (by decide) hg
theorem CsN.off {α : Type} [F : Flat α] {w z z' : World} {va vt : Value} {m : List NdM} {l : List α} {b2 : Nat} {e : TypeId} (h : CsN w z va m) (ht : Own z b2 e vt l) (h1 : 44 ≠ e) (h2 : 51 ≠ e) (hg : z.grownBy z' vt.ownBlock) : CsN w z' va m :=
  ⟨h.ow.other hg (h.ow.apart ht h1), fun y hy => (h.dn y hy).off ht h2 hg⟩
theorem CsT.off {α : Type} [F : Flat α] {w z z' : World} {va vt : Value} {m : List TdM} {l : List α} {b2 : Nat} {e : TypeId} (h : CsT w z va m) (ht : Own z b2 e vt l) (h1 : 36 ≠ e) (h2 : 51 ≠ e) (hg : z.grownBy z' vt.ownBlock) : CsT w z' va m :=
  ⟨h.ow.other hg (h.ow.apart ht h1), fun y hy => (h.dn y hy).off ht h2 hg⟩
theorem own_grown {w z z' : World} {α : Type} [F : Flat α] {base : Nat} {e : TypeId} {va : Value} {m : List α} (h : Own z base e va m) (hg : z.grownBy z' va.ownBlock) (hb : base ≤ z.heap.size) : Below base z z' :=
  (Below.refl _ _).grown hg hb (fun k hk => (h.lt k hk).1)
/-- A book's copy, by the document. -/
def CpyB (b : Bk) (w : World) (e : Ending) (w' : World) : Prop := ∃ vn vt vb mn mt, e = .returned (.agg #[vn, vt, vb, .int .u64 (b.fe : Nat)]) ∧ b.ns = mn.map (·.nd) ∧ b.ts = mt.map (·.td) ∧ OwnL w' w.heap.size vn vt vb mn mt b.bs ∧ Below w.heap.size w w'
set_option maxRecDepth 100000 in
set_option maxHeartbeats 4000000 in
theorem copy_bk (b : Bk) (vn vt vb : Value) (w : World) (hB : Books w w.heap.size vn vt vb b) :
    Calls Try.prog 11 #[.agg #[vn, vt, vb, .int .u64 (b.fe : Nat)]] w (CpyB b w) := by
  have hln : b.ns.length * 88 ≤ 140737488355328 := by obtain ⟨m, hm, -, -, hl⟩ := hB.hn; exact hl
  have hlt : b.ts.length * 128 ≤ 140737488355328 := by obtain ⟨m, hm, -, -, hl⟩ := hB.ht; exact hl
  have hlb := hB.hb.2.2
  have hvb := hB.hb.1
  obtain ⟨an, cn, rfl, hN⟩ := hB.hn.row
  obtain ⟨at', ct, rfl, hT⟩ := hB.ht.row
  obtain ⟨ab, cb, rfl⟩ := hB.hb.slice
  have HVN := Lib.hid hN
  have HVT := Lib.hid hT
  have HVB := Lib.hid hvb
  have HLN := Lib.hid hln
  have HLT := Lib.hid hlt
  have HLX := Lib.hid hlb
  have HC0 := Lib.hid (Cp.made w [.slice an b.ns.length cn, .slice at' b.ts.length ct, .slice ab b.bs.length cb, .int .u64 (b.fe : Nat)] [.slice none 0 0, .slice none 0 0, .slice none 0 0, .int .u64 0] [.slice none 0 0, .slice none 0 0, .slice none 0 0, .int .u64 (b.fe : Nat)] 27 27 27)
  clear hN hT hvb hB
  go_enter Try.func11, Try.ntmps11
  have k0 : ((w.alloc (.cells #[.slice an b.ns.length cn, .slice at' b.ts.length ct, .slice ab b.bs.length cb, .int .u64 (b.fe : Nat)] 27)).alloc (.cells #[.slice none 0 0, .slice none 0 0, .slice none 0 0, .int .u64 0] 27)).cell? ⟨w.heap.size, 3, none⟩ = some (.int .u64 (b.fe : Nat)) := ((Hd.Bxn.made w [.slice an b.ns.length cn, .slice at' b.ts.length ct, .slice ab b.bs.length cb, .int .u64 (b.fe : Nat)] 27).below (al _ _)).cell 3
  go_upto_region 2 with fail
  clear k0
  obtain ⟨W1, hW1⟩ : ∃ W1, W1 = ((w.alloc (.cells #[.slice an b.ns.length cn, .slice at' b.ts.length ct, .slice ab b.bs.length cb, .int .u64 (b.fe : Nat)] 27)).alloc (.cells #[.slice none 0 0, .slice none 0 0, .slice none 0 0, .int .u64 0] 27)).alloc (.cells #[.slice none 0 0, .slice none 0 0, .slice none 0 0, .int .u64 (b.fe : Nat)] 27) := ⟨_, rfl⟩
  have HC : Hid (Cp w W1 [.slice an b.ns.length cn, .slice at' b.ts.length ct, .slice ab b.bs.length cb, .int .u64 (b.fe : Nat)] [.slice none 0 0, .slice none 0 0, .slice none 0 0, .int .u64 0] [.slice none 0 0, .slice none 0 0, .slice none 0 0, .int .u64 (b.fe : Nat)]) := by rw [hW1]; exact HC0.out
  rw [← hW1]
  clear hW1 HC0
  have k1 : W1.cell? ⟨w.heap.size, 0, none⟩ = some (.slice an b.ns.length cn) := HC.out.p.cell 0
  go_wp2
  clear k1
  go_loopg [14] b.ns.length (fun gg i wx => ∃ (k : Nat) (va : Value) (m : List NdM), k + gg = b.ns.length ∧ i = .int .i64 k ∧ Aside (Cp w wx [.slice an b.ns.length cn, .slice at' b.ts.length ct, .slice ab b.bs.length cb, .int .u64 (b.fe : Nat)] [.slice none 0 0, .slice none 0 0, .slice none 0 0, .int .u64 0] [va, .slice none 0 0, .slice none 0 0, .int .u64 (b.fe : Nat)] ∧ CsN w wx va m ∧ m.map (·.nd) = b.ns.take k))
  case atStart => exact ⟨0, .slice none 0 0, [], by omega, rfl, ⟨HC.out, ⟨Own.nil _ _ _, by simp⟩, rfl⟩⟩
  case round =>
    obtain ⟨k, va, m, hkg, rfl, HA⟩ := hrel
    have HCr : Hid (Cp w wr [.slice an b.ns.length cn, .slice at' b.ts.length ct, .slice ab b.bs.length cb, .int .u64 (b.fe : Nat)] [.slice none 0 0, .slice none 0 0, .slice none 0 0, .int .u64 0] [va, .slice none 0 0, .slice none 0 0, .int .u64 (b.fe : Nat)]) := HA.out.1
    have HSr : Hid (CsN w wr va m) := HA.out.2.1
    have HEr : Hid (m.map (·.nd) = b.ns.take k) := HA.out.2.2
    clear HA HC
    cases gk with
    | zero =>
      obtain rfl : k = b.ns.length := by omega
      clear hkg
      have HEN : Hid (m.map (·.nd) = b.ns) := by have h := HEr.out; rw [List.take_length] at h; exact h
      obtain ⟨ga, na, rfl⟩ := HSr.out.ow.slice
      have HC := HCr
      have HN := HSr
      clear HCr HSr HEr
      obtain ⟨mn, rfl⟩ : ∃ mn, mn = m := ⟨_, rfl⟩
      have k1 : wr.cell? ⟨w.heap.size, 1, none⟩ = some (.slice at' b.ts.length ct) := HC.out.p.cell 1
      go_wp2
      clear k1
      go_loopg [29] b.ts.length (fun gg i wx => ∃ (k : Nat) (va : Value) (m : List TdM), k + gg = b.ts.length ∧ i = .int .i64 k ∧ Aside (Cp w wx [.slice an b.ns.length cn, .slice at' b.ts.length ct, .slice ab b.bs.length cb, .int .u64 (b.fe : Nat)] [.slice none 0 0, .slice none 0 0, .slice none 0 0, .int .u64 0] [.slice ga mn.length na, va, .slice none 0 0, .int .u64 (b.fe : Nat)] ∧ CsT w wx va m ∧ m.map (·.td) = b.ts.take k ∧ CsN w wx (.slice ga mn.length na) mn))
      case atStart => exact ⟨0, .slice none 0 0, [], by omega, rfl, ⟨HC.out, ⟨Own.nil _ _ _, by simp⟩, rfl, HN.out⟩⟩
      case round =>
        obtain ⟨k, va, m, hkg, rfl, HA⟩ := hrel
        have HCr : Hid (Cp w wr [.slice an b.ns.length cn, .slice at' b.ts.length ct, .slice ab b.bs.length cb, .int .u64 (b.fe : Nat)] [.slice none 0 0, .slice none 0 0, .slice none 0 0, .int .u64 0] [.slice ga mn.length na, va, .slice none 0 0, .int .u64 (b.fe : Nat)]) := HA.out.1
        have HSr : Hid (CsT w wr va m) := HA.out.2.1
        have HEr : Hid (m.map (·.td) = b.ts.take k) := HA.out.2.2.1
        have HNr : Hid (CsN w wr (.slice ga mn.length na) mn) := HA.out.2.2.2
        clear HA HC HN
        cases gk with
        | zero =>
          obtain rfl : k = b.ts.length := by omega
          clear hkg
          have HET : Hid (m.map (·.td) = b.ts) := by have h := HEr.out; rw [List.take_length] at h; exact h
          obtain ⟨gt, nt, rfl⟩ := HSr.out.ow.slice
          clear HEr
          go_upto_region 12 with fail
          refine wp_region_list ?_
          refine wpList_plain rfl fun K hK => ?_
          go_simp
          refine hK _ _ ?_
          clear hK K
          have k1 : wr.cell? ⟨w.heap.size + 1 + 1, 2, none⟩ = some (.slice none 0 0) := HCr.out.o.cell 2
          refine wpList_plain rfl fun K hK => ?_
          go_simp
          refine hK _ _ ?_
          clear hK K
          clear k1
          refine wpList_plain rfl fun K hK => ?_
          go_simp
          refine hK _ _ ?_
          clear hK K
          have k1 : wr.cell? ⟨w.heap.size, 2, none⟩ = some (.slice ab b.bs.length cb) := HCr.out.p.cell 2
          refine wpList_plain rfl fun K hK => ?_
          go_simp
          refine hK _ _ ?_
          clear hK K
          clear k1
          obtain ⟨i0, hi0, hz0, hz1, hz2⟩ := info_parts info_b
          obtain ⟨v7, w7, hr, ho7, hg7, -⟩ := run_app (P := Try.prog) (ty := 24) Try.underlying24 hi0 hz0 hz1 hz2 rfl (Own.nil (α := Rg.Pr) wr (w.heap.size + 1 + 1 + 1) 38) (HVB.out.on HCr.out.b) (by have h := HLX.out; rw [List.length_nil]; omega) (by have h := HLX.out; rw [List.length_nil]; omega) HCr.out.s
          refine wpl_app rfl (.tmp 42) (.tmp 44) 24 rfl _ _ _ rfl rfl hr ?_
          clear hr
          rw [List.nil_append] at ho7
          obtain ⟨gb, nb, hv7⟩ := ho7.slice
          subst hv7
          have hbg : Below wr.heap.size wr w7 := (Below.refl _ _).grown hg7 (Nat.le_refl _) (fun g e => by cases e)
          have HC7 := Lib.hid (HCr.out.below hbg)
          have HS7 := Lib.hid (HSr.out.keep hbg)
          have HN7 := Lib.hid (HNr.out.keep hbg)
          have HO7 := Lib.hid ho7
          clear hbg ho7 hg7 HCr HSr HNr
          refine wpList_plain rfl fun K hK => ?_
          go_simp
          refine hK _ _ ?_
          clear hK K
          have k1 : w7.cell? ⟨w.heap.size + 1 + 1, 2, none⟩ = some (.slice none 0 0) := HC7.out.o.cell 2
          have k2 : w7.frozen? ⟨w.heap.size + 1 + 1, 2, none⟩ = false := HC7.out.o.fz 2
          refine wpList_plain rfl fun K hK => ?_
          go_simp
          refine hK _ _ ?_
          clear hK K
          clear k1 k2
          have HC8 : Hid (Cp w (w7.setCell ⟨w.heap.size + 1 + 1, 2, none⟩ (.slice gb b.bs.length nb)) [.slice an b.ns.length cn, .slice at' b.ts.length ct, .slice ab b.bs.length cb, .int .u64 (b.fe : Nat)] [.slice none 0 0, .slice none 0 0, .slice none 0 0, .int .u64 0] [.slice ga mn.length na, .slice gt m.length nt, .slice gb b.bs.length nb, .int .u64 (b.fe : Nat)]) := HC7.out.setO 2 _
          have HS8 := Lib.hid (HS7.out.far (grown_setCell w7 (w.heap.size + 1 + 1) 2 (.slice gb b.bs.length nb)) (by omega))
          have HN8 := Lib.hid (HN7.out.far (grown_setCell w7 (w.heap.size + 1 + 1) 2 (.slice gb b.bs.length nb)) (by omega))
          have HO8 := Lib.hid (own_far HO7.out (grown_setCell w7 (w.heap.size + 1 + 1) 2 (.slice gb b.bs.length nb)) (by omega))
          clear HC7 HS7 HN7 HO7
          generalize w7.setCell ⟨w.heap.size + 1 + 1, 2, none⟩ (.slice gb b.bs.length nb) = w8 at *
          refine wpList_nil ?_
          go_upto_region 13 with fail
          refine wp_region_list ?_
          refine wpList_load_mid rfl 27 (.tmp 3) rfl (w.heap.size + 1 + 1) (0) rfl [.slice ga mn.length na, .slice gt m.length nt, .slice gb b.bs.length nb, .int .u64 (b.fe : Nat)] _ (HC8.out.o.range 0) Try.underlying27 rfl rfl ?_
          have hth := HC8.out.r.there 4 rfl
          refine wpList_store_mid rfl 27 (.tmp 2) (.tmp 47) rfl (w.heap.size + 1) 0 #[.slice ga mn.length na, .slice gt m.length nt, .slice gb b.bs.length nb, .int .u64 (b.fe : Nat)] rfl rfl hth rfl (all_oneCell_toArray (List.all_eq_true.1 (show List.all ([.slice ga mn.length na, .slice gt m.length nt, .slice gb b.bs.length nb, .int .u64 (b.fe : Nat)] : List Value) (fun v => v.oneCell') = true from rfl))) ?_
          rw [show (#[.slice ga mn.length na, .slice gt m.length nt, .slice gb b.bs.length nb, .int .u64 (b.fe : Nat)] : Array Value).toList = [.slice ga mn.length na, .slice gt m.length nt, .slice gb b.bs.length nb, .int .u64 (b.fe : Nat)] from rfl]
          have HC9 : Hid (Cp w (w8.setCells (w.heap.size + 1) 0 [.slice ga mn.length na, .slice gt m.length nt, .slice gb b.bs.length nb, .int .u64 (b.fe : Nat)]) [.slice an b.ns.length cn, .slice at' b.ts.length ct, .slice ab b.bs.length cb, .int .u64 (b.fe : Nat)] [.slice ga mn.length na, .slice gt m.length nt, .slice gb b.bs.length nb, .int .u64 (b.fe : Nat)] [.slice ga mn.length na, .slice gt m.length nt, .slice gb b.bs.length nb, .int .u64 (b.fe : Nat)]) := HC8.out.setR _ rfl
          have HS9 := Lib.hid (HS8.out.far (grown_setCells w8 (w.heap.size + 1) 0 [.slice ga mn.length na, .slice gt m.length nt, .slice gb b.bs.length nb, .int .u64 (b.fe : Nat)]) (by omega))
          have HN9 := Lib.hid (HN8.out.far (grown_setCells w8 (w.heap.size + 1) 0 [.slice ga mn.length na, .slice gt m.length nt, .slice gb b.bs.length nb, .int .u64 (b.fe : Nat)]) (by omega))
          have HO9 := Lib.hid (own_far HO8.out (grown_setCells w8 (w.heap.size + 1) 0 [.slice ga mn.length na, .slice gt m.length nt, .slice gb b.bs.length nb, .int .u64 (b.fe : Nat)]) (by omega))
          clear hth HC8 HS8 HN8 HO8
          generalize w8.setCells (w.heap.size + 1) 0 [.slice ga mn.length na, .slice gt m.length nt, .slice gb b.bs.length nb, .int .u64 (b.fe : Nat)] = w9 at *
          refine wpList_nil ?_
          go_wp2
          exact Hd.bodyPost_bx rfl (w.heap.size + 1) [.slice ga mn.length na, .slice gt m.length nt, .slice gb b.bs.length nb, .int .u64 (b.fe : Nat)] _ rfl rfl HC9.out.r Try.underlying27 rfl rfl ⟨_, _, _, mn, m, rfl, HEN.out.symm, HET.out.symm, ⟨HN9.out.ow.le (by omega), HS9.out.ow.le (by omega), HO9.out.le (by omega), fun y hy => (HN9.out.dn y hy).le (by omega), fun y hy => (HS9.out.dn y hy).le (by omega)⟩, HC9.out.b⟩
        | succ gg =>
          have hlk : k < b.ts.length := by omega
          have t2 : (k : Int) < (b.ts.length : Int) := by omega
          have t3 : IntKind.i64.wrap ((k : Int) + 1) = (k : Int) + 1 := by rw [IntKind.wrap_i64]; omega
          have t4 : (0 : Int) ≤ (k : Int) := by omega
          have HML : Hid (m.length = k) := by have h := congrArg List.length HEr.out; rw [List.length_map, List.length_take] at h; show _ = _; omega
          obtain ⟨g, o, rfl, hgl, hrr⟩ := HVT.out (by omega)
          obtain ⟨x, hx, hax, hdx, hfx⟩ := hrr k hlk
          have HX : Hid (x.td = b.ts[k]) := hx
          have hrow : wr.rangeAt g (o + k * 9) [.string x.td.n, .int .i64 x.td.z0, .int .i64 x.td.z1, .int .i64 x.td.z2, .slice x.a4 x.td.ws.length x.c4, .slice x.a5 x.td.bs.length x.c5, .string x.td.g, .string x.td.a, .int .i64 x.td.r] := fun j u hj => (hax.keep HCr.out.b hgl) j u hj
          have HCN : Hid (∀ z, Hid (Below w.heap.size w z) → Calls Try.prog 31 #[.agg #[.string x.td.n, .int .i64 x.td.z0, .int .i64 x.td.z1, .int .i64 x.td.z2, .slice x.a4 x.td.ws.length x.c4, .slice x.a5 x.td.bs.length x.c5, .string x.td.g, .string x.td.a, .int .i64 x.td.r]] z fun e w' => ∃ y : TdM, y.td = x.td ∧ e = .returned (.agg #[.string y.td.n, .int .i64 y.td.z0, .int .i64 y.td.z1, .int .i64 y.td.z2, .slice y.a4 y.td.ws.length y.c4, .slice y.a5 y.td.bs.length y.c5, .string y.td.g, .string y.td.a, .int .i64 y.td.r]) ∧ OwnT w' z.heap.size y ∧ Below z.heap.size z w') := fun z hz => copy_t x z (hdx.on hz.out) hfx
          have HVA : Hid (∀ q, va.ownBlock = some q → q < wr.heap.size) := fun q e => (HSr.out.ow.lt q e).2
          obtain ⟨q1, q2, rfl⟩ := HSr.out.ow.slice
          clear hrr hx hax hdx hfx
          go_upto_region 9 with fail
          refine wp_region_list ?_
          refine wpList_plain rfl fun K hK => ?_
          go_simp
          refine hK _ _ ?_
          clear hK K
          refine wpList_load_mid rfl 36 (.tmp 31) rfl (g) (o + k * 9) rfl [.string x.td.n, .int .i64 x.td.z0, .int .i64 x.td.z1, .int .i64 x.td.z2, .slice x.a4 x.td.ws.length x.c4, .slice x.a5 x.td.bs.length x.c5, .string x.td.g, .string x.td.a, .int .i64 x.td.r] _ (hrow) Try.underlying36 rfl rfl ?_
          refine wpList_plain rfl fun K hK => ?_
          go_simp
          refine hK _ _ ?_
          clear hK K
          obtain ⟨th1, hbz, hx1⟩ := one_made wr [.string ⟨#[]⟩, .int .i64 0, .int .i64 0, .int .i64 0, .slice none 0 0, .slice none 0 0, .string ⟨#[]⟩, .string ⟨#[]⟩, .int .i64 0] [.string x.td.n, .int .i64 x.td.z0, .int .i64 x.td.z1, .int .i64 x.td.z2, .slice x.a4 x.td.ws.length x.c4, .slice x.a5 x.td.bs.length x.c5, .string x.td.g, .string x.td.a, .int .i64 x.td.r] 36 rfl
          refine wpList_store_mid rfl 36 (.tmp 7) (.tmp 32) rfl (wr.heap.size) 0 #[.string x.td.n, .int .i64 x.td.z0, .int .i64 x.td.z1, .int .i64 x.td.z2, .slice x.a4 x.td.ws.length x.c4, .slice x.a5 x.td.bs.length x.c5, .string x.td.g, .string x.td.a, .int .i64 x.td.r] rfl rfl th1 rfl (all_oneCell_toArray (List.all_eq_true.1 (show List.all ([.string x.td.n, .int .i64 x.td.z0, .int .i64 x.td.z1, .int .i64 x.td.z2, .slice x.a4 x.td.ws.length x.c4, .slice x.a5 x.td.bs.length x.c5, .string x.td.g, .string x.td.a, .int .i64 x.td.r] : List Value) (fun v => v.oneCell') = true from rfl))) ?_
          rw [show (#[.string x.td.n, .int .i64 x.td.z0, .int .i64 x.td.z1, .int .i64 x.td.z2, .slice x.a4 x.td.ws.length x.c4, .slice x.a5 x.td.bs.length x.c5, .string x.td.g, .string x.td.a, .int .i64 x.td.r] : Array Value).toList = [.string x.td.n, .int .i64 x.td.z0, .int .i64 x.td.z1, .int .i64 x.td.z2, .slice x.a4 x.td.ws.length x.c4, .slice x.a5 x.td.bs.length x.c5, .string x.td.g, .string x.td.a, .int .i64 x.td.r] from rfl]
          clear th1 hrow
          generalize (wr.alloc (.cells #[.string ⟨#[]⟩, .int .i64 0, .int .i64 0, .int .i64 0, .slice none 0 0, .slice none 0 0, .string ⟨#[]⟩, .string ⟨#[]⟩, .int .i64 0] 36)).setCells wr.heap.size 0 [.string x.td.n, .int .i64 x.td.z0, .int .i64 x.td.z1, .int .i64 x.td.z2, .slice x.a4 x.td.ws.length x.c4, .slice x.a5 x.td.bs.length x.c5, .string x.td.g, .string x.td.a, .int .i64 x.td.r] = y0 at *
          have HBd : Hid (Below wr.heap.size wr y0.drew) := below_drew hbz
          have HCy : Hid (Cp w y0.drew [.slice an b.ns.length cn, .slice (some ⟨g, o, none⟩) b.ts.length ct, .slice ab b.bs.length cb, .int .u64 (b.fe : Nat)] [.slice none 0 0, .slice none 0 0, .slice none 0 0, .int .u64 0] [.slice ga mn.length na, .slice q1 m.length q2, .slice none 0 0, .int .u64 (b.fe : Nat)]) := HCr.out.below HBd.out
          have HSy : Hid (CsT w y0.drew (.slice q1 m.length q2) m) := HSr.out.keep HBd.out
          have HNy : Hid (CsN w y0.drew (.slice ga mn.length na) mn) := HNr.out.keep HBd.out
          have HXy : Hid (Hd.Bxn y0.drew wr.heap.size [.string x.td.n, .int .i64 x.td.z0, .int .i64 x.td.z1, .int .i64 x.td.z2, .slice x.a4 x.td.ws.length x.c4, .slice x.a5 x.td.bs.length x.c5, .string x.td.g, .string x.td.a, .int .i64 x.td.r]) := by obtain ⟨T, h⟩ := hx1; exact ⟨T, h⟩
          have HZ : Hid (w.heap.size + 1 + 1 + 1 ≤ wr.heap.size) := HCr.out.s
          have HZy : Hid (wr.heap.size < y0.drew.heap.size) := HXy.out.lt
          clear hbz hx1 HCr HSr HNr
          refine wpList_nil ?_
          have HP : Hid (∀ z, Hd.Bxn z wr.heap.size [.string x.td.n, .int .i64 x.td.z0, .int .i64 x.td.z1, .int .i64 x.td.z2, .slice x.a4 x.td.ws.length x.c4, .slice x.a5 x.td.bs.length x.c5, .string x.td.g, .string x.td.a, .int .i64 x.td.r] → (z.cell? ⟨wr.heap.size, 0, none⟩ = some (.string x.td.n) ∧ z.cell? ⟨wr.heap.size, 1, none⟩ = some (.int .i64 x.td.z0) ∧ z.cell? ⟨wr.heap.size, 2, none⟩ = some (.int .i64 x.td.z1) ∧ z.cell? ⟨wr.heap.size, 3, none⟩ = some (.int .i64 x.td.z2) ∧ z.cell? ⟨wr.heap.size, 4, none⟩ = some (.slice x.a4 x.td.ws.length x.c4) ∧ z.cell? ⟨wr.heap.size, 5, none⟩ = some (.slice x.a5 x.td.bs.length x.c5) ∧ z.cell? ⟨wr.heap.size, 6, none⟩ = some (.string x.td.g) ∧ z.cell? ⟨wr.heap.size, 7, none⟩ = some (.string x.td.a) ∧ z.cell? ⟨wr.heap.size, 8, none⟩ = some (.int .i64 x.td.r))) := fun z h => ⟨h.cell 0, h.cell 1, h.cell 2, h.cell 3, h.cell 4, h.cell 5, h.cell 6, h.cell 7, h.cell 8⟩
          go_upto_region 10 with fail
          refine wp_region_held_drew (S := fun z => z.cell? ⟨wr.heap.size, 0, none⟩ = some (.string x.td.n) ∧ z.cell? ⟨wr.heap.size, 1, none⟩ = some (.int .i64 x.td.z0) ∧ z.cell? ⟨wr.heap.size, 2, none⟩ = some (.int .i64 x.td.z1) ∧ z.cell? ⟨wr.heap.size, 3, none⟩ = some (.int .i64 x.td.z2) ∧ z.cell? ⟨wr.heap.size, 4, none⟩ = some (.slice x.a4 x.td.ws.length x.c4) ∧ z.cell? ⟨wr.heap.size, 5, none⟩ = some (.slice x.a5 x.td.bs.length x.c5) ∧ z.cell? ⟨wr.heap.size, 6, none⟩ = some (.string x.td.g) ∧ z.cell? ⟨wr.heap.size, 7, none⟩ = some (.string x.td.a) ∧ z.cell? ⟨wr.heap.size, 8, none⟩ = some (.int .i64 x.td.r)) (by kernel_rfl) (HP.out _ HXy.out) (fun hHeld => ?_)
          clear HBd
          generalize y0.drew = yd at *
          refine wpAnyH_take (i := 0) (v := ?_) rfl (by kernel_rfl) (by kernel_rfl) (by kernel_rfl) (fun _ _ _ h => h) (Or.inl ⟨by rfl, ?_⟩) (by assumption) ?_
          rotate_left
          · intro z hSz
            obtain ⟨c0, c1, c2, c3, c4, c5, c6, c7, c8⟩ := hSz
            go_simp
            try with_reducible rfl
          try simp only [Act.put, List.setIfInBounds_toArray, List.set_cons_zero, List.set_cons_succ, List.getElem_toArray, List.getElem_cons_zero]
          refine wpAnyH_take (i := 2) (v := ?_) rfl (by kernel_rfl) (by kernel_rfl) (by kernel_rfl) (fun _ _ _ h => h) (Or.inl ⟨by rfl, ?_⟩) (by assumption) ?_
          rotate_left
          · intro z hSz
            obtain ⟨c0, c1, c2, c3, c4, c5, c6, c7, c8⟩ := hSz
            go_simp
            try with_reducible rfl
          try simp only [Act.put, List.setIfInBounds_toArray, List.set_cons_zero, List.set_cons_succ, List.getElem_toArray, List.getElem_cons_succ, List.getElem_cons_zero]
          have HLB : Hid (b.ts.length * 128 ≤ 140737488355328 ∧ k + 1 ≤ b.ts.length) := ⟨HLT.out, hlk⟩
          have HCc := HCy
          have HSc := HSy
          have HXc := HXy
          clear HCy HSy HXy
          have HNc := HNy
          clear HNy
          refine wpAnyH_ready (rs := [1, 3]) (by kernel_rfl) (by simp) ?_
          refine AllReadyH.cons rfl (fun K hK => ?_) ?_
          · have kl : yd.cell? ⟨w.heap.size + 1 + 1, 1, none⟩ = some (.slice q1 m.length q2) := HCc.out.o.cell 1
            go_simp
            refine hK.out _ _ (HP.out _ HXc.out) (fun hHeld2 => ?_)
            clear hK K hHeld
            have hHeld := hHeld2
            clear hHeld2
            try simp only [Act.put, List.setIfInBounds_toArray, List.set_cons_zero, List.set_cons_succ, List.getElem_toArray, List.getElem_cons_succ, List.getElem_cons_zero]
            clear kl
            refine wpAnyH_ready (rs := [3]) (by kernel_rfl) (by simp) ?_
            refine AllReadyH.cons rfl (fun K hK => ?_) AllReadyH.nil
            go_simp
            refine (HCN.out _ HCc.out.b).mono ?_
            rintro e w5 ⟨x2, hx2, rfl, ho2, hb⟩
            have HX2 : Hid (x2.td = x.td) := hx2
            have HC5 := Lib.hid (HCc.out.below hb)
            have HS5 := Lib.hid (HSc.out.keep hb)
            have HN5 := Lib.hid (HNc.out.keep hb)
            have HX5 := Lib.hid (HXc.out.below hb)
            have HO5 : Hid (OwnT w5 (w.heap.size + 1 + 1 + 1) x2) := ho2.le HCc.out.s
            have HL5 : Hid (wr.heap.size < w5.heap.size) := Nat.lt_of_lt_of_le HXc.out.lt hb.size
            clear hx2 ho2 hb HCc HSc HXc HNc
            refine hK.out _ _ (HP.out _ HX5.out) (fun hHeld2 => ?_)
            clear hK K hHeld
            have hHeld := hHeld2
            clear hHeld2
            try simp only [Act.put, List.setIfInBounds_toArray, List.set_cons_zero, List.set_cons_succ, List.getElem_toArray, List.getElem_cons_succ, List.getElem_cons_zero]
            have HCc := HC5
            have HSc := HS5
            have HXc := HX5
            have HOc := HO5
            clear HC5 HS5 HX5 HO5
            have HNc := HN5
            clear HN5
            refine wpAnyH_ready (rs := [4]) (by kernel_rfl) (by simp) ?_
            refine AllReadyH.cons rfl (fun K hK => ?_) AllReadyH.nil
            go_simp
            have ha : Below w5.heap.size w5 (w5.alloc (.cells #[.string x2.td.n, .int .i64 x2.td.z0, .int .i64 x2.td.z1, .int .i64 x2.td.z2, .slice x2.a4 x2.td.ws.length x2.c4, .slice x2.a5 x2.td.bs.length x2.c5, .string x2.td.g, .string x2.td.a, .int .i64 x2.td.r] 36)) := al _ _
            have HC6 := Lib.hid (HCc.out.below ha)
            have HS6 := Lib.hid (HSc.out.keep ha)
            have HN6 := Lib.hid (HNc.out.keep ha)
            have HX6 := Lib.hid (HXc.out.below ha)
            have HO6 := Lib.hid (HOc.out.keep ha)
            have HSL : Hid (Sl (w5.alloc (.cells #[.string x2.td.n, .int .i64 x2.td.z0, .int .i64 x2.td.z1, .int .i64 x2.td.z2, .slice x2.a4 x2.td.ws.length x2.c4, .slice x2.a5 x2.td.bs.length x2.c5, .string x2.td.g, .string x2.td.a, .int .i64 x2.td.r] 36)) w5.heap.size (w5.alloc (.cells #[.string x2.td.n, .int .i64 x2.td.z0, .int .i64 x2.td.z1, .int .i64 x2.td.z2, .slice x2.a4 x2.td.ws.length x2.c4, .slice x2.a5 x2.td.bs.length x2.c5, .string x2.td.g, .string x2.td.a, .int .i64 x2.td.r] 36)).heap.size (.slice (some ⟨w5.heap.size, 0, none⟩) 1 1) [x2]) := sl_one w5 x2 _
            clear ha HCc HSc HXc HOc HNc
            refine hK.out _ _ (HP.out _ HX6.out) (fun hHeld2 => ?_)
            clear hK K hHeld
            have hHeld := hHeld2
            clear hHeld2
            try simp only [Act.put, List.setIfInBounds_toArray, List.set_cons_zero, List.set_cons_succ, List.getElem_toArray, List.getElem_cons_succ, List.getElem_cons_zero]
            have HCc := HC6
            have HSc := HS6
            have HXc := HX6
            have HOc := HO6
            clear HC6 HS6 HX6 HO6
            have HNc := HN6
            clear HN6
            refine wpAnyH_ready (rs := [5]) (by kernel_rfl) (by simp) ?_
            refine AllReadyH.cons rfl (fun K hK => ?_) AllReadyH.nil
            obtain ⟨i0, hi0, hz0, hz1, hz2⟩ := info_parts info_t
            obtain ⟨v7, w7, hr, ho7, hg7, -⟩ := run_app (P := Try.prog) (ty := 23) Try.underlying23 hi0 hz0 hz1 hz2 rfl HSc.out.ow HSL.out (by have h := HLB.out; rw [HML.out, List.length_singleton]; omega) (by have h := HLB.out; rw [HML.out, List.length_singleton]; omega) HCc.out.s
            obtain ⟨g7, n7, hv7⟩ := ho7.slice
            generalize (m ++ [x2]).length = L7 at hv7
            subst hv7
            refine step_app rfl (.tmp 34) (.tmp 37) 23 rfl _ _ _ rfl rfl hr ?_
            clear hr
            have hbg := own_grown (w := w) HSc.out.ow hg7 HCc.out.s
            have HC7 := Lib.hid (HCc.out.go hbg)
            have HS7 := Lib.hid (HSc.out.more HOc.out ho7 hg7)
            have HN7 := Lib.hid (HNc.out.off HSc.out.ow (by decide) (by decide) hg7)
            have HX7 : Hid (Hd.Bxn w7 wr.heap.size [.string x.td.n, .int .i64 x.td.z0, .int .i64 x.td.z1, .int .i64 x.td.z2, .slice x.a4 x.td.ws.length x.c4, .slice x.a5 x.td.bs.length x.c5, .string x.td.g, .string x.td.a, .int .i64 x.td.r]) := by
              obtain ⟨T, h⟩ := HXc.out
              exact ⟨T, (hg7.block _ (Hd.Bxn.lt ⟨T, h⟩) (fun e => by have := HVA.out _ e.symm; omega)).trans h⟩
            have hm7 : (m ++ [x2]).map (·.td) = b.ts.take (k + 1) := by rw [List.map_append, HEr.out, List.map_singleton, HX2.out, HX.out, List.take_succ_eq_append_getElem hlk]
            have HM7 := Lib.hid hm7
            clear hm7
            clear hbg ho7 hg7 HCc HSc HXc HOc HSL HNc
            refine hK.out _ _ (HP.out _ HX7.out) (fun hHeld2 => ?_)
            clear hK K hHeld
            have hHeld := hHeld2
            clear hHeld2
            try simp only [Act.put, List.setIfInBounds_toArray, List.set_cons_zero, List.set_cons_succ, List.getElem_toArray, List.getElem_cons_succ, List.getElem_cons_zero]
            refine wpAnyH_take (i := 6) (v := ?_) rfl (by kernel_rfl) (by kernel_rfl) (by kernel_rfl) (fun _ _ _ h => h) (Or.inl ⟨by rfl, ?_⟩) (by assumption) ?_
            rotate_left
            · intro z hSz
              obtain ⟨c0, c1, c2, c3, c4, c5, c6, c7, c8⟩ := hSz
              go_simp
              try with_reducible rfl
            try simp only [Act.put, List.setIfInBounds_toArray, List.set_cons_zero, List.set_cons_succ, List.getElem_toArray, List.getElem_cons_succ, List.getElem_cons_zero]
            refine wpAnyH_ready (rs := [7]) (by kernel_rfl) (by simp) ?_
            refine AllReadyH.cons rfl (fun K hK => ?_) AllReadyH.nil
            have kl : w7.cell? ⟨w.heap.size + 1 + 1, 1, none⟩ = some (.slice q1 m.length q2) := HC7.out.o.cell 1
            have kf : w7.frozen? ⟨w.heap.size + 1 + 1, 1, none⟩ = false := HC7.out.o.fz 1
            go_simp
            have HC8 : Hid (Cp w (w7.setCell ⟨w.heap.size + 1 + 1, 1, none⟩ (.slice g7 L7 n7)) [.slice an b.ns.length cn, .slice (some ⟨g, o, none⟩) b.ts.length ct, .slice ab b.bs.length cb, .int .u64 (b.fe : Nat)] [.slice none 0 0, .slice none 0 0, .slice none 0 0, .int .u64 0] [.slice ga mn.length na, .slice g7 L7 n7, .slice none 0 0, .int .u64 (b.fe : Nat)]) := HC7.out.setO 1 _
            have HS8 : Hid (CsT w (w7.setCell ⟨w.heap.size + 1 + 1, 1, none⟩ (.slice g7 L7 n7)) (.slice g7 L7 n7) (m ++ [x2])) := HS7.out.far (grown_setCell _ _ _ _) (by omega)
            have HN8 : Hid (CsN w (w7.setCell ⟨w.heap.size + 1 + 1, 1, none⟩ (.slice g7 L7 n7)) (.slice ga mn.length na) mn) := HN7.out.far (grown_setCell _ _ _ _) (by omega)
            have HX8 : Hid (Hd.Bxn (w7.setCell ⟨w.heap.size + 1 + 1, 1, none⟩ (.slice g7 L7 n7)) wr.heap.size [.string x.td.n, .int .i64 x.td.z0, .int .i64 x.td.z1, .int .i64 x.td.z2, .slice x.a4 x.td.ws.length x.c4, .slice x.a5 x.td.bs.length x.c5, .string x.td.g, .string x.td.a, .int .i64 x.td.r]) := HX7.out.apart (by have := HZ.out; omega) _ _
            clear kl kf HC7 HS7 HX7 HN7
            refine hK.out _ _ (HP.out _ HX8.out) (fun hHeld2 => ?_)
            clear hK K hHeld
            have hHeld := hHeld2
            clear hHeld2
            try simp only [Act.put, List.setIfInBounds_toArray, List.set_cons_zero, List.set_cons_succ, List.getElem_toArray, List.getElem_cons_succ, List.getElem_cons_zero]
            refine wpAnyH_done (by kernel_rfl) ?_ _
            clear hHeld
            go_wp2
            go_roundg gg
            case measure => omega
            case rel => exact ⟨k + 1, .slice g7 L7 n7, m ++ [x2], by omega, by simp, ⟨HC8.out, HS8.out, HM7.out, HN8.out⟩⟩
          refine AllReadyH.cons rfl (fun K hK => ?_) AllReadyH.nil
          go_simp
          refine (HCN.out _ HCc.out.b).mono ?_
          rintro e w5 ⟨x2, hx2, rfl, ho2, hb⟩
          have HX2 : Hid (x2.td = x.td) := hx2
          have HC5 := Lib.hid (HCc.out.below hb)
          have HS5 := Lib.hid (HSc.out.keep hb)
          have HN5 := Lib.hid (HNc.out.keep hb)
          have HX5 := Lib.hid (HXc.out.below hb)
          have HO5 : Hid (OwnT w5 (w.heap.size + 1 + 1 + 1) x2) := ho2.le HCc.out.s
          have HL5 : Hid (wr.heap.size < w5.heap.size) := Nat.lt_of_lt_of_le HXc.out.lt hb.size
          clear hx2 ho2 hb HCc HSc HXc HNc
          refine hK.out _ _ (HP.out _ HX5.out) (fun hHeld2 => ?_)
          clear hK K hHeld
          have hHeld := hHeld2
          clear hHeld2
          try simp only [Act.put, List.setIfInBounds_toArray, List.set_cons_zero, List.set_cons_succ, List.getElem_toArray, List.getElem_cons_succ, List.getElem_cons_zero]
          have HCc := HC5
          have HSc := HS5
          have HXc := HX5
          have HOc := HO5
          clear HC5 HS5 HX5 HO5
          have HNc := HN5
          clear HN5
          refine wpAnyH_ready (rs := [1, 4]) (by kernel_rfl) (by simp) ?_
          refine AllReadyH.cons rfl (fun K hK => ?_) ?_
          · have kl : w5.cell? ⟨w.heap.size + 1 + 1, 1, none⟩ = some (.slice q1 m.length q2) := HCc.out.o.cell 1
            go_simp
            refine hK.out _ _ (HP.out _ HXc.out) (fun hHeld2 => ?_)
            clear hK K hHeld
            have hHeld := hHeld2
            clear hHeld2
            try simp only [Act.put, List.setIfInBounds_toArray, List.set_cons_zero, List.set_cons_succ, List.getElem_toArray, List.getElem_cons_succ, List.getElem_cons_zero]
            clear kl
            refine wpAnyH_ready (rs := [4]) (by kernel_rfl) (by simp) ?_
            refine AllReadyH.cons rfl (fun K hK => ?_) AllReadyH.nil
            go_simp
            have ha : Below w5.heap.size w5 (w5.alloc (.cells #[.string x2.td.n, .int .i64 x2.td.z0, .int .i64 x2.td.z1, .int .i64 x2.td.z2, .slice x2.a4 x2.td.ws.length x2.c4, .slice x2.a5 x2.td.bs.length x2.c5, .string x2.td.g, .string x2.td.a, .int .i64 x2.td.r] 36)) := al _ _
            have HC6 := Lib.hid (HCc.out.below ha)
            have HS6 := Lib.hid (HSc.out.keep ha)
            have HN6 := Lib.hid (HNc.out.keep ha)
            have HX6 := Lib.hid (HXc.out.below ha)
            have HO6 := Lib.hid (HOc.out.keep ha)
            have HSL : Hid (Sl (w5.alloc (.cells #[.string x2.td.n, .int .i64 x2.td.z0, .int .i64 x2.td.z1, .int .i64 x2.td.z2, .slice x2.a4 x2.td.ws.length x2.c4, .slice x2.a5 x2.td.bs.length x2.c5, .string x2.td.g, .string x2.td.a, .int .i64 x2.td.r] 36)) w5.heap.size (w5.alloc (.cells #[.string x2.td.n, .int .i64 x2.td.z0, .int .i64 x2.td.z1, .int .i64 x2.td.z2, .slice x2.a4 x2.td.ws.length x2.c4, .slice x2.a5 x2.td.bs.length x2.c5, .string x2.td.g, .string x2.td.a, .int .i64 x2.td.r] 36)).heap.size (.slice (some ⟨w5.heap.size, 0, none⟩) 1 1) [x2]) := sl_one w5 x2 _
            clear ha HCc HSc HXc HOc HNc
            refine hK.out _ _ (HP.out _ HX6.out) (fun hHeld2 => ?_)
            clear hK K hHeld
            have hHeld := hHeld2
            clear hHeld2
            try simp only [Act.put, List.setIfInBounds_toArray, List.set_cons_zero, List.set_cons_succ, List.getElem_toArray, List.getElem_cons_succ, List.getElem_cons_zero]
            have HCc := HC6
            have HSc := HS6
            have HXc := HX6
            have HOc := HO6
            clear HC6 HS6 HX6 HO6
            have HNc := HN6
            clear HN6
            refine wpAnyH_ready (rs := [5]) (by kernel_rfl) (by simp) ?_
            refine AllReadyH.cons rfl (fun K hK => ?_) AllReadyH.nil
            obtain ⟨i0, hi0, hz0, hz1, hz2⟩ := info_parts info_t
            obtain ⟨v7, w7, hr, ho7, hg7, -⟩ := run_app (P := Try.prog) (ty := 23) Try.underlying23 hi0 hz0 hz1 hz2 rfl HSc.out.ow HSL.out (by have h := HLB.out; rw [HML.out, List.length_singleton]; omega) (by have h := HLB.out; rw [HML.out, List.length_singleton]; omega) HCc.out.s
            obtain ⟨g7, n7, hv7⟩ := ho7.slice
            generalize (m ++ [x2]).length = L7 at hv7
            subst hv7
            refine step_app rfl (.tmp 34) (.tmp 37) 23 rfl _ _ _ rfl rfl hr ?_
            clear hr
            have hbg := own_grown (w := w) HSc.out.ow hg7 HCc.out.s
            have HC7 := Lib.hid (HCc.out.go hbg)
            have HS7 := Lib.hid (HSc.out.more HOc.out ho7 hg7)
            have HN7 := Lib.hid (HNc.out.off HSc.out.ow (by decide) (by decide) hg7)
            have HX7 : Hid (Hd.Bxn w7 wr.heap.size [.string x.td.n, .int .i64 x.td.z0, .int .i64 x.td.z1, .int .i64 x.td.z2, .slice x.a4 x.td.ws.length x.c4, .slice x.a5 x.td.bs.length x.c5, .string x.td.g, .string x.td.a, .int .i64 x.td.r]) := by
              obtain ⟨T, h⟩ := HXc.out
              exact ⟨T, (hg7.block _ (Hd.Bxn.lt ⟨T, h⟩) (fun e => by have := HVA.out _ e.symm; omega)).trans h⟩
            have hm7 : (m ++ [x2]).map (·.td) = b.ts.take (k + 1) := by rw [List.map_append, HEr.out, List.map_singleton, HX2.out, HX.out, List.take_succ_eq_append_getElem hlk]
            have HM7 := Lib.hid hm7
            clear hm7
            clear hbg ho7 hg7 HCc HSc HXc HOc HSL HNc
            refine hK.out _ _ (HP.out _ HX7.out) (fun hHeld2 => ?_)
            clear hK K hHeld
            have hHeld := hHeld2
            clear hHeld2
            try simp only [Act.put, List.setIfInBounds_toArray, List.set_cons_zero, List.set_cons_succ, List.getElem_toArray, List.getElem_cons_succ, List.getElem_cons_zero]
            refine wpAnyH_take (i := 6) (v := ?_) rfl (by kernel_rfl) (by kernel_rfl) (by kernel_rfl) (fun _ _ _ h => h) (Or.inl ⟨by rfl, ?_⟩) (by assumption) ?_
            rotate_left
            · intro z hSz
              obtain ⟨c0, c1, c2, c3, c4, c5, c6, c7, c8⟩ := hSz
              go_simp
              try with_reducible rfl
            try simp only [Act.put, List.setIfInBounds_toArray, List.set_cons_zero, List.set_cons_succ, List.getElem_toArray, List.getElem_cons_succ, List.getElem_cons_zero]
            refine wpAnyH_ready (rs := [7]) (by kernel_rfl) (by simp) ?_
            refine AllReadyH.cons rfl (fun K hK => ?_) AllReadyH.nil
            have kl : w7.cell? ⟨w.heap.size + 1 + 1, 1, none⟩ = some (.slice q1 m.length q2) := HC7.out.o.cell 1
            have kf : w7.frozen? ⟨w.heap.size + 1 + 1, 1, none⟩ = false := HC7.out.o.fz 1
            go_simp
            have HC8 : Hid (Cp w (w7.setCell ⟨w.heap.size + 1 + 1, 1, none⟩ (.slice g7 L7 n7)) [.slice an b.ns.length cn, .slice (some ⟨g, o, none⟩) b.ts.length ct, .slice ab b.bs.length cb, .int .u64 (b.fe : Nat)] [.slice none 0 0, .slice none 0 0, .slice none 0 0, .int .u64 0] [.slice ga mn.length na, .slice g7 L7 n7, .slice none 0 0, .int .u64 (b.fe : Nat)]) := HC7.out.setO 1 _
            have HS8 : Hid (CsT w (w7.setCell ⟨w.heap.size + 1 + 1, 1, none⟩ (.slice g7 L7 n7)) (.slice g7 L7 n7) (m ++ [x2])) := HS7.out.far (grown_setCell _ _ _ _) (by omega)
            have HN8 : Hid (CsN w (w7.setCell ⟨w.heap.size + 1 + 1, 1, none⟩ (.slice g7 L7 n7)) (.slice ga mn.length na) mn) := HN7.out.far (grown_setCell _ _ _ _) (by omega)
            have HX8 : Hid (Hd.Bxn (w7.setCell ⟨w.heap.size + 1 + 1, 1, none⟩ (.slice g7 L7 n7)) wr.heap.size [.string x.td.n, .int .i64 x.td.z0, .int .i64 x.td.z1, .int .i64 x.td.z2, .slice x.a4 x.td.ws.length x.c4, .slice x.a5 x.td.bs.length x.c5, .string x.td.g, .string x.td.a, .int .i64 x.td.r]) := HX7.out.apart (by have := HZ.out; omega) _ _
            clear kl kf HC7 HS7 HX7 HN7
            refine hK.out _ _ (HP.out _ HX8.out) (fun hHeld2 => ?_)
            clear hK K hHeld
            have hHeld := hHeld2
            clear hHeld2
            try simp only [Act.put, List.setIfInBounds_toArray, List.set_cons_zero, List.set_cons_succ, List.getElem_toArray, List.getElem_cons_succ, List.getElem_cons_zero]
            refine wpAnyH_done (by kernel_rfl) ?_ _
            clear hHeld
            go_wp2
            go_roundg gg
            case measure => omega
            case rel => exact ⟨k + 1, .slice g7 L7 n7, m ++ [x2], by omega, by simp, ⟨HC8.out, HS8.out, HM7.out, HN8.out⟩⟩
          refine AllReadyH.cons rfl (fun K hK => ?_) AllReadyH.nil
          go_simp
          have ha : Below w5.heap.size w5 (w5.alloc (.cells #[.string x2.td.n, .int .i64 x2.td.z0, .int .i64 x2.td.z1, .int .i64 x2.td.z2, .slice x2.a4 x2.td.ws.length x2.c4, .slice x2.a5 x2.td.bs.length x2.c5, .string x2.td.g, .string x2.td.a, .int .i64 x2.td.r] 36)) := al _ _
          have HC6 := Lib.hid (HCc.out.below ha)
          have HS6 := Lib.hid (HSc.out.keep ha)
          have HN6 := Lib.hid (HNc.out.keep ha)
          have HX6 := Lib.hid (HXc.out.below ha)
          have HO6 := Lib.hid (HOc.out.keep ha)
          have HSL : Hid (Sl (w5.alloc (.cells #[.string x2.td.n, .int .i64 x2.td.z0, .int .i64 x2.td.z1, .int .i64 x2.td.z2, .slice x2.a4 x2.td.ws.length x2.c4, .slice x2.a5 x2.td.bs.length x2.c5, .string x2.td.g, .string x2.td.a, .int .i64 x2.td.r] 36)) w5.heap.size (w5.alloc (.cells #[.string x2.td.n, .int .i64 x2.td.z0, .int .i64 x2.td.z1, .int .i64 x2.td.z2, .slice x2.a4 x2.td.ws.length x2.c4, .slice x2.a5 x2.td.bs.length x2.c5, .string x2.td.g, .string x2.td.a, .int .i64 x2.td.r] 36)).heap.size (.slice (some ⟨w5.heap.size, 0, none⟩) 1 1) [x2]) := sl_one w5 x2 _
          clear ha HCc HSc HXc HOc HNc
          refine hK.out _ _ (HP.out _ HX6.out) (fun hHeld2 => ?_)
          clear hK K hHeld
          have hHeld := hHeld2
          clear hHeld2
          try simp only [Act.put, List.setIfInBounds_toArray, List.set_cons_zero, List.set_cons_succ, List.getElem_toArray, List.getElem_cons_succ, List.getElem_cons_zero]
          have HCc := HC6
          have HSc := HS6
          have HXc := HX6
          have HOc := HO6
          clear HC6 HS6 HX6 HO6
          have HNc := HN6
          clear HN6
          refine wpAnyH_ready (rs := [1]) (by kernel_rfl) (by simp) ?_
          refine AllReadyH.cons rfl (fun K hK => ?_) AllReadyH.nil
          have kl : (w5.alloc (.cells #[.string x2.td.n, .int .i64 x2.td.z0, .int .i64 x2.td.z1, .int .i64 x2.td.z2, .slice x2.a4 x2.td.ws.length x2.c4, .slice x2.a5 x2.td.bs.length x2.c5, .string x2.td.g, .string x2.td.a, .int .i64 x2.td.r] 36)).cell? ⟨w.heap.size + 1 + 1, 1, none⟩ = some (.slice q1 m.length q2) := HCc.out.o.cell 1
          go_simp
          refine hK.out _ _ (HP.out _ HXc.out) (fun hHeld2 => ?_)
          clear hK K hHeld
          have hHeld := hHeld2
          clear hHeld2
          try simp only [Act.put, List.setIfInBounds_toArray, List.set_cons_zero, List.set_cons_succ, List.getElem_toArray, List.getElem_cons_succ, List.getElem_cons_zero]
          clear kl
          refine wpAnyH_ready (rs := [5]) (by kernel_rfl) (by simp) ?_
          refine AllReadyH.cons rfl (fun K hK => ?_) AllReadyH.nil
          obtain ⟨i0, hi0, hz0, hz1, hz2⟩ := info_parts info_t
          obtain ⟨v7, w7, hr, ho7, hg7, -⟩ := run_app (P := Try.prog) (ty := 23) Try.underlying23 hi0 hz0 hz1 hz2 rfl HSc.out.ow HSL.out (by have h := HLB.out; rw [HML.out, List.length_singleton]; omega) (by have h := HLB.out; rw [HML.out, List.length_singleton]; omega) HCc.out.s
          obtain ⟨g7, n7, hv7⟩ := ho7.slice
          generalize (m ++ [x2]).length = L7 at hv7
          subst hv7
          refine step_app rfl (.tmp 34) (.tmp 37) 23 rfl _ _ _ rfl rfl hr ?_
          clear hr
          have hbg := own_grown (w := w) HSc.out.ow hg7 HCc.out.s
          have HC7 := Lib.hid (HCc.out.go hbg)
          have HS7 := Lib.hid (HSc.out.more HOc.out ho7 hg7)
          have HN7 := Lib.hid (HNc.out.off HSc.out.ow (by decide) (by decide) hg7)
          have HX7 : Hid (Hd.Bxn w7 wr.heap.size [.string x.td.n, .int .i64 x.td.z0, .int .i64 x.td.z1, .int .i64 x.td.z2, .slice x.a4 x.td.ws.length x.c4, .slice x.a5 x.td.bs.length x.c5, .string x.td.g, .string x.td.a, .int .i64 x.td.r]) := by
            obtain ⟨T, h⟩ := HXc.out
            exact ⟨T, (hg7.block _ (Hd.Bxn.lt ⟨T, h⟩) (fun e => by have := HVA.out _ e.symm; omega)).trans h⟩
          have hm7 : (m ++ [x2]).map (·.td) = b.ts.take (k + 1) := by rw [List.map_append, HEr.out, List.map_singleton, HX2.out, HX.out, List.take_succ_eq_append_getElem hlk]
          have HM7 := Lib.hid hm7
          clear hm7
          clear hbg ho7 hg7 HCc HSc HXc HOc HSL HNc
          refine hK.out _ _ (HP.out _ HX7.out) (fun hHeld2 => ?_)
          clear hK K hHeld
          have hHeld := hHeld2
          clear hHeld2
          try simp only [Act.put, List.setIfInBounds_toArray, List.set_cons_zero, List.set_cons_succ, List.getElem_toArray, List.getElem_cons_succ, List.getElem_cons_zero]
          refine wpAnyH_take (i := 6) (v := ?_) rfl (by kernel_rfl) (by kernel_rfl) (by kernel_rfl) (fun _ _ _ h => h) (Or.inl ⟨by rfl, ?_⟩) (by assumption) ?_
          rotate_left
          · intro z hSz
            obtain ⟨c0, c1, c2, c3, c4, c5, c6, c7, c8⟩ := hSz
            go_simp
            try with_reducible rfl
          try simp only [Act.put, List.setIfInBounds_toArray, List.set_cons_zero, List.set_cons_succ, List.getElem_toArray, List.getElem_cons_succ, List.getElem_cons_zero]
          refine wpAnyH_ready (rs := [7]) (by kernel_rfl) (by simp) ?_
          refine AllReadyH.cons rfl (fun K hK => ?_) AllReadyH.nil
          have kl : w7.cell? ⟨w.heap.size + 1 + 1, 1, none⟩ = some (.slice q1 m.length q2) := HC7.out.o.cell 1
          have kf : w7.frozen? ⟨w.heap.size + 1 + 1, 1, none⟩ = false := HC7.out.o.fz 1
          go_simp
          have HC8 : Hid (Cp w (w7.setCell ⟨w.heap.size + 1 + 1, 1, none⟩ (.slice g7 L7 n7)) [.slice an b.ns.length cn, .slice (some ⟨g, o, none⟩) b.ts.length ct, .slice ab b.bs.length cb, .int .u64 (b.fe : Nat)] [.slice none 0 0, .slice none 0 0, .slice none 0 0, .int .u64 0] [.slice ga mn.length na, .slice g7 L7 n7, .slice none 0 0, .int .u64 (b.fe : Nat)]) := HC7.out.setO 1 _
          have HS8 : Hid (CsT w (w7.setCell ⟨w.heap.size + 1 + 1, 1, none⟩ (.slice g7 L7 n7)) (.slice g7 L7 n7) (m ++ [x2])) := HS7.out.far (grown_setCell _ _ _ _) (by omega)
          have HN8 : Hid (CsN w (w7.setCell ⟨w.heap.size + 1 + 1, 1, none⟩ (.slice g7 L7 n7)) (.slice ga mn.length na) mn) := HN7.out.far (grown_setCell _ _ _ _) (by omega)
          have HX8 : Hid (Hd.Bxn (w7.setCell ⟨w.heap.size + 1 + 1, 1, none⟩ (.slice g7 L7 n7)) wr.heap.size [.string x.td.n, .int .i64 x.td.z0, .int .i64 x.td.z1, .int .i64 x.td.z2, .slice x.a4 x.td.ws.length x.c4, .slice x.a5 x.td.bs.length x.c5, .string x.td.g, .string x.td.a, .int .i64 x.td.r]) := HX7.out.apart (by have := HZ.out; omega) _ _
          clear kl kf HC7 HS7 HX7 HN7
          refine hK.out _ _ (HP.out _ HX8.out) (fun hHeld2 => ?_)
          clear hK K hHeld
          have hHeld := hHeld2
          clear hHeld2
          try simp only [Act.put, List.setIfInBounds_toArray, List.set_cons_zero, List.set_cons_succ, List.getElem_toArray, List.getElem_cons_succ, List.getElem_cons_zero]
          refine wpAnyH_done (by kernel_rfl) ?_ _
          clear hHeld
          go_wp2
          go_roundg gg
          case measure => omega
          case rel => exact ⟨k + 1, .slice g7 L7 n7, m ++ [x2], by omega, by simp, ⟨HC8.out, HS8.out, HM7.out, HN8.out⟩⟩
    | succ gg =>
      have hlk : k < b.ns.length := by omega
      have t2 : (k : Int) < (b.ns.length : Int) := by omega
      have t3 : IntKind.i64.wrap ((k : Int) + 1) = (k : Int) + 1 := by rw [IntKind.wrap_i64]; omega
      have t4 : (0 : Int) ≤ (k : Int) := by omega
      have HML : Hid (m.length = k) := by have h := congrArg List.length HEr.out; rw [List.length_map, List.length_take] at h; show _ = _; omega
      obtain ⟨g, o, rfl, hgl, hrr⟩ := HVN.out (by omega)
      obtain ⟨x, hx, hax, hdx, hfx⟩ := hrr k hlk
      have HX : Hid (x.nd = b.ns[k]) := hx
      have hrow : wr.rangeAt g (o + k * 6) [.string x.nd.n, .int .i64 x.nd.z0, .int .i64 x.nd.z1, .int .i64 x.nd.z2, .slice x.a2 x.nd.ls.length x.c2, .slice x.a3 x.nd.ts.length x.c3] := fun j u hj => (hax.keep HCr.out.b hgl) j u hj
      have HCN : Hid (∀ z, Hid (Below w.heap.size w z) → Calls Try.prog 30 #[.agg #[.string x.nd.n, .int .i64 x.nd.z0, .int .i64 x.nd.z1, .int .i64 x.nd.z2, .slice x.a2 x.nd.ls.length x.c2, .slice x.a3 x.nd.ts.length x.c3]] z fun e w' => ∃ y : NdM, y.nd = x.nd ∧ e = .returned (.agg #[.string y.nd.n, .int .i64 y.nd.z0, .int .i64 y.nd.z1, .int .i64 y.nd.z2, .slice y.a2 y.nd.ls.length y.c2, .slice y.a3 y.nd.ts.length y.c3]) ∧ OwnN w' z.heap.size y ∧ Below z.heap.size z w') := fun z hz => copy_n x z (hdx.on hz.out) hfx
      have HVA : Hid (∀ q, va.ownBlock = some q → q < wr.heap.size) := fun q e => (HSr.out.ow.lt q e).2
      obtain ⟨q1, q2, rfl⟩ := HSr.out.ow.slice
      clear hrr hx hax hdx hfx
      go_upto_region 4 with fail
      refine wp_region_list ?_
      refine wpList_plain rfl fun K hK => ?_
      go_simp
      refine hK _ _ ?_
      clear hK K
      refine wpList_load_mid rfl 44 (.tmp 16) rfl (g) (o + k * 6) rfl [.string x.nd.n, .int .i64 x.nd.z0, .int .i64 x.nd.z1, .int .i64 x.nd.z2, .slice x.a2 x.nd.ls.length x.c2, .slice x.a3 x.nd.ts.length x.c3] _ (hrow) Try.underlying44 rfl rfl ?_
      refine wpList_plain rfl fun K hK => ?_
      go_simp
      refine hK _ _ ?_
      clear hK K
      obtain ⟨th1, hbz, hx1⟩ := one_made wr [.string ⟨#[]⟩, .int .i64 0, .int .i64 0, .int .i64 0, .slice none 0 0, .slice none 0 0] [.string x.nd.n, .int .i64 x.nd.z0, .int .i64 x.nd.z1, .int .i64 x.nd.z2, .slice x.a2 x.nd.ls.length x.c2, .slice x.a3 x.nd.ts.length x.c3] 44 rfl
      refine wpList_store_mid rfl 44 (.tmp 5) (.tmp 17) rfl (wr.heap.size) 0 #[.string x.nd.n, .int .i64 x.nd.z0, .int .i64 x.nd.z1, .int .i64 x.nd.z2, .slice x.a2 x.nd.ls.length x.c2, .slice x.a3 x.nd.ts.length x.c3] rfl rfl th1 rfl (all_oneCell_toArray (List.all_eq_true.1 (show List.all ([.string x.nd.n, .int .i64 x.nd.z0, .int .i64 x.nd.z1, .int .i64 x.nd.z2, .slice x.a2 x.nd.ls.length x.c2, .slice x.a3 x.nd.ts.length x.c3] : List Value) (fun v => v.oneCell') = true from rfl))) ?_
      rw [show (#[.string x.nd.n, .int .i64 x.nd.z0, .int .i64 x.nd.z1, .int .i64 x.nd.z2, .slice x.a2 x.nd.ls.length x.c2, .slice x.a3 x.nd.ts.length x.c3] : Array Value).toList = [.string x.nd.n, .int .i64 x.nd.z0, .int .i64 x.nd.z1, .int .i64 x.nd.z2, .slice x.a2 x.nd.ls.length x.c2, .slice x.a3 x.nd.ts.length x.c3] from rfl]
      clear th1 hrow
      generalize (wr.alloc (.cells #[.string ⟨#[]⟩, .int .i64 0, .int .i64 0, .int .i64 0, .slice none 0 0, .slice none 0 0] 44)).setCells wr.heap.size 0 [.string x.nd.n, .int .i64 x.nd.z0, .int .i64 x.nd.z1, .int .i64 x.nd.z2, .slice x.a2 x.nd.ls.length x.c2, .slice x.a3 x.nd.ts.length x.c3] = y0 at *
      have HBd : Hid (Below wr.heap.size wr y0.drew) := below_drew hbz
      have HCy : Hid (Cp w y0.drew [.slice (some ⟨g, o, none⟩) b.ns.length cn, .slice at' b.ts.length ct, .slice ab b.bs.length cb, .int .u64 (b.fe : Nat)] [.slice none 0 0, .slice none 0 0, .slice none 0 0, .int .u64 0] [.slice q1 m.length q2, .slice none 0 0, .slice none 0 0, .int .u64 (b.fe : Nat)]) := HCr.out.below HBd.out
      have HSy : Hid (CsN w y0.drew (.slice q1 m.length q2) m) := HSr.out.keep HBd.out
      have HXy : Hid (Hd.Bxn y0.drew wr.heap.size [.string x.nd.n, .int .i64 x.nd.z0, .int .i64 x.nd.z1, .int .i64 x.nd.z2, .slice x.a2 x.nd.ls.length x.c2, .slice x.a3 x.nd.ts.length x.c3]) := by obtain ⟨T, h⟩ := hx1; exact ⟨T, h⟩
      have HZ : Hid (w.heap.size + 1 + 1 + 1 ≤ wr.heap.size) := HCr.out.s
      have HZy : Hid (wr.heap.size < y0.drew.heap.size) := HXy.out.lt
      clear hbz hx1 HCr HSr
      refine wpList_nil ?_
      have HP : Hid (∀ z, Hd.Bxn z wr.heap.size [.string x.nd.n, .int .i64 x.nd.z0, .int .i64 x.nd.z1, .int .i64 x.nd.z2, .slice x.a2 x.nd.ls.length x.c2, .slice x.a3 x.nd.ts.length x.c3] → (z.cell? ⟨wr.heap.size, 0, none⟩ = some (.string x.nd.n) ∧ z.cell? ⟨wr.heap.size, 1, none⟩ = some (.int .i64 x.nd.z0) ∧ z.cell? ⟨wr.heap.size, 2, none⟩ = some (.int .i64 x.nd.z1) ∧ z.cell? ⟨wr.heap.size, 3, none⟩ = some (.int .i64 x.nd.z2) ∧ z.cell? ⟨wr.heap.size, 4, none⟩ = some (.slice x.a2 x.nd.ls.length x.c2) ∧ z.cell? ⟨wr.heap.size, 5, none⟩ = some (.slice x.a3 x.nd.ts.length x.c3))) := fun z h => ⟨h.cell 0, h.cell 1, h.cell 2, h.cell 3, h.cell 4, h.cell 5⟩
      go_upto_region 5 with fail
      refine wp_region_held_drew (S := fun z => z.cell? ⟨wr.heap.size, 0, none⟩ = some (.string x.nd.n) ∧ z.cell? ⟨wr.heap.size, 1, none⟩ = some (.int .i64 x.nd.z0) ∧ z.cell? ⟨wr.heap.size, 2, none⟩ = some (.int .i64 x.nd.z1) ∧ z.cell? ⟨wr.heap.size, 3, none⟩ = some (.int .i64 x.nd.z2) ∧ z.cell? ⟨wr.heap.size, 4, none⟩ = some (.slice x.a2 x.nd.ls.length x.c2) ∧ z.cell? ⟨wr.heap.size, 5, none⟩ = some (.slice x.a3 x.nd.ts.length x.c3)) (by kernel_rfl) (HP.out _ HXy.out) (fun hHeld => ?_)
      clear HBd
      generalize y0.drew = yd at *
      refine wpAnyH_take (i := 0) (v := ?_) rfl (by kernel_rfl) (by kernel_rfl) (by kernel_rfl) (fun _ _ _ h => h) (Or.inl ⟨by rfl, ?_⟩) (by assumption) ?_
      rotate_left
      · intro z hSz
        obtain ⟨c0, c1, c2, c3, c4, c5⟩ := hSz
        go_simp
        try with_reducible rfl
      try simp only [Act.put, List.setIfInBounds_toArray, List.set_cons_zero, List.set_cons_succ, List.getElem_toArray, List.getElem_cons_zero]
      refine wpAnyH_take (i := 2) (v := ?_) rfl (by kernel_rfl) (by kernel_rfl) (by kernel_rfl) (fun _ _ _ h => h) (Or.inl ⟨by rfl, ?_⟩) (by assumption) ?_
      rotate_left
      · intro z hSz
        obtain ⟨c0, c1, c2, c3, c4, c5⟩ := hSz
        go_simp
        try with_reducible rfl
      try simp only [Act.put, List.setIfInBounds_toArray, List.set_cons_zero, List.set_cons_succ, List.getElem_toArray, List.getElem_cons_succ, List.getElem_cons_zero]
      have HLB : Hid (b.ns.length * 88 ≤ 140737488355328 ∧ k + 1 ≤ b.ns.length) := ⟨HLN.out, hlk⟩
      have HCc := HCy
      have HSc := HSy
      have HXc := HXy
      clear HCy HSy HXy
      refine wpAnyH_ready (rs := [1, 3]) (by kernel_rfl) (by simp) ?_
      refine AllReadyH.cons rfl (fun K hK => ?_) ?_
      · have kl : yd.cell? ⟨w.heap.size + 1 + 1, 0, none⟩ = some (.slice q1 m.length q2) := HCc.out.o.cell 0
        go_simp
        refine hK.out _ _ (HP.out _ HXc.out) (fun hHeld2 => ?_)
        clear hK K hHeld
        have hHeld := hHeld2
        clear hHeld2
        try simp only [Act.put, List.setIfInBounds_toArray, List.set_cons_zero, List.set_cons_succ, List.getElem_toArray, List.getElem_cons_succ, List.getElem_cons_zero]
        clear kl
        refine wpAnyH_ready (rs := [3]) (by kernel_rfl) (by simp) ?_
        refine AllReadyH.cons rfl (fun K hK => ?_) AllReadyH.nil
        go_simp
        refine (HCN.out _ HCc.out.b).mono ?_
        rintro e w5 ⟨x2, hx2, rfl, ho2, hb⟩
        have HX2 : Hid (x2.nd = x.nd) := hx2
        have HC5 := Lib.hid (HCc.out.below hb)
        have HS5 := Lib.hid (HSc.out.keep hb)
        have HX5 := Lib.hid (HXc.out.below hb)
        have HO5 : Hid (OwnN w5 (w.heap.size + 1 + 1 + 1) x2) := ho2.le HCc.out.s
        have HL5 : Hid (wr.heap.size < w5.heap.size) := Nat.lt_of_lt_of_le HXc.out.lt hb.size
        clear hx2 ho2 hb HCc HSc HXc
        refine hK.out _ _ (HP.out _ HX5.out) (fun hHeld2 => ?_)
        clear hK K hHeld
        have hHeld := hHeld2
        clear hHeld2
        try simp only [Act.put, List.setIfInBounds_toArray, List.set_cons_zero, List.set_cons_succ, List.getElem_toArray, List.getElem_cons_succ, List.getElem_cons_zero]
        have HCc := HC5
        have HSc := HS5
        have HXc := HX5
        have HOc := HO5
        clear HC5 HS5 HX5 HO5
        refine wpAnyH_ready (rs := [4]) (by kernel_rfl) (by simp) ?_
        refine AllReadyH.cons rfl (fun K hK => ?_) AllReadyH.nil
        go_simp
        have ha : Below w5.heap.size w5 (w5.alloc (.cells #[.string x2.nd.n, .int .i64 x2.nd.z0, .int .i64 x2.nd.z1, .int .i64 x2.nd.z2, .slice x2.a2 x2.nd.ls.length x2.c2, .slice x2.a3 x2.nd.ts.length x2.c3] 44)) := al _ _
        have HC6 := Lib.hid (HCc.out.below ha)
        have HS6 := Lib.hid (HSc.out.keep ha)
        have HX6 := Lib.hid (HXc.out.below ha)
        have HO6 := Lib.hid (HOc.out.keep ha)
        have HSL : Hid (Sl (w5.alloc (.cells #[.string x2.nd.n, .int .i64 x2.nd.z0, .int .i64 x2.nd.z1, .int .i64 x2.nd.z2, .slice x2.a2 x2.nd.ls.length x2.c2, .slice x2.a3 x2.nd.ts.length x2.c3] 44)) w5.heap.size (w5.alloc (.cells #[.string x2.nd.n, .int .i64 x2.nd.z0, .int .i64 x2.nd.z1, .int .i64 x2.nd.z2, .slice x2.a2 x2.nd.ls.length x2.c2, .slice x2.a3 x2.nd.ts.length x2.c3] 44)).heap.size (.slice (some ⟨w5.heap.size, 0, none⟩) 1 1) [x2]) := sl_one w5 x2 _
        clear ha HCc HSc HXc HOc
        refine hK.out _ _ (HP.out _ HX6.out) (fun hHeld2 => ?_)
        clear hK K hHeld
        have hHeld := hHeld2
        clear hHeld2
        try simp only [Act.put, List.setIfInBounds_toArray, List.set_cons_zero, List.set_cons_succ, List.getElem_toArray, List.getElem_cons_succ, List.getElem_cons_zero]
        have HCc := HC6
        have HSc := HS6
        have HXc := HX6
        have HOc := HO6
        clear HC6 HS6 HX6 HO6
        refine wpAnyH_ready (rs := [5]) (by kernel_rfl) (by simp) ?_
        refine AllReadyH.cons rfl (fun K hK => ?_) AllReadyH.nil
        obtain ⟨i0, hi0, hz0, hz1, hz2⟩ := info_parts info_n
        obtain ⟨v7, w7, hr, ho7, hg7, -⟩ := run_app (P := Try.prog) (ty := 22) Try.underlying22 hi0 hz0 hz1 hz2 rfl HSc.out.ow HSL.out (by have h := HLB.out; rw [HML.out, List.length_singleton]; omega) (by have h := HLB.out; rw [HML.out, List.length_singleton]; omega) HCc.out.s
        obtain ⟨g7, n7, hv7⟩ := ho7.slice
        generalize (m ++ [x2]).length = L7 at hv7
        subst hv7
        refine step_app rfl (.tmp 19) (.tmp 22) 22 rfl _ _ _ rfl rfl hr ?_
        clear hr
        have hbg := own_grown (w := w) HSc.out.ow hg7 HCc.out.s
        have HC7 := Lib.hid (HCc.out.go hbg)
        have HS7 := Lib.hid (HSc.out.more HOc.out ho7 hg7)
        have HX7 : Hid (Hd.Bxn w7 wr.heap.size [.string x.nd.n, .int .i64 x.nd.z0, .int .i64 x.nd.z1, .int .i64 x.nd.z2, .slice x.a2 x.nd.ls.length x.c2, .slice x.a3 x.nd.ts.length x.c3]) := by
          obtain ⟨T, h⟩ := HXc.out
          exact ⟨T, (hg7.block _ (Hd.Bxn.lt ⟨T, h⟩) (fun e => by have := HVA.out _ e.symm; omega)).trans h⟩
        have hm7 : (m ++ [x2]).map (·.nd) = b.ns.take (k + 1) := by rw [List.map_append, HEr.out, List.map_singleton, HX2.out, HX.out, List.take_succ_eq_append_getElem hlk]
        have HM7 := Lib.hid hm7
        clear hm7
        clear hbg ho7 hg7 HCc HSc HXc HOc HSL
        refine hK.out _ _ (HP.out _ HX7.out) (fun hHeld2 => ?_)
        clear hK K hHeld
        have hHeld := hHeld2
        clear hHeld2
        try simp only [Act.put, List.setIfInBounds_toArray, List.set_cons_zero, List.set_cons_succ, List.getElem_toArray, List.getElem_cons_succ, List.getElem_cons_zero]
        refine wpAnyH_take (i := 6) (v := ?_) rfl (by kernel_rfl) (by kernel_rfl) (by kernel_rfl) (fun _ _ _ h => h) (Or.inl ⟨by rfl, ?_⟩) (by assumption) ?_
        rotate_left
        · intro z hSz
          obtain ⟨c0, c1, c2, c3, c4, c5⟩ := hSz
          go_simp
          try with_reducible rfl
        try simp only [Act.put, List.setIfInBounds_toArray, List.set_cons_zero, List.set_cons_succ, List.getElem_toArray, List.getElem_cons_succ, List.getElem_cons_zero]
        refine wpAnyH_ready (rs := [7]) (by kernel_rfl) (by simp) ?_
        refine AllReadyH.cons rfl (fun K hK => ?_) AllReadyH.nil
        have kl : w7.cell? ⟨w.heap.size + 1 + 1, 0, none⟩ = some (.slice q1 m.length q2) := HC7.out.o.cell 0
        have kf : w7.frozen? ⟨w.heap.size + 1 + 1, 0, none⟩ = false := HC7.out.o.fz 0
        go_simp
        have HC8 : Hid (Cp w (w7.setCell ⟨w.heap.size + 1 + 1, 0, none⟩ (.slice g7 L7 n7)) [.slice (some ⟨g, o, none⟩) b.ns.length cn, .slice at' b.ts.length ct, .slice ab b.bs.length cb, .int .u64 (b.fe : Nat)] [.slice none 0 0, .slice none 0 0, .slice none 0 0, .int .u64 0] [.slice g7 L7 n7, .slice none 0 0, .slice none 0 0, .int .u64 (b.fe : Nat)]) := HC7.out.setO 0 _
        have HS8 : Hid (CsN w (w7.setCell ⟨w.heap.size + 1 + 1, 0, none⟩ (.slice g7 L7 n7)) (.slice g7 L7 n7) (m ++ [x2])) := HS7.out.far (grown_setCell _ _ _ _) (by omega)
        have HX8 : Hid (Hd.Bxn (w7.setCell ⟨w.heap.size + 1 + 1, 0, none⟩ (.slice g7 L7 n7)) wr.heap.size [.string x.nd.n, .int .i64 x.nd.z0, .int .i64 x.nd.z1, .int .i64 x.nd.z2, .slice x.a2 x.nd.ls.length x.c2, .slice x.a3 x.nd.ts.length x.c3]) := HX7.out.apart (by have := HZ.out; omega) _ _
        clear kl kf HC7 HS7 HX7
        refine hK.out _ _ (HP.out _ HX8.out) (fun hHeld2 => ?_)
        clear hK K hHeld
        have hHeld := hHeld2
        clear hHeld2
        try simp only [Act.put, List.setIfInBounds_toArray, List.set_cons_zero, List.set_cons_succ, List.getElem_toArray, List.getElem_cons_succ, List.getElem_cons_zero]
        refine wpAnyH_done (by kernel_rfl) ?_ _
        clear hHeld
        go_wp2
        go_roundg gg
        case measure => omega
        case rel => exact ⟨k + 1, .slice g7 L7 n7, m ++ [x2], by omega, by simp, ⟨HC8.out, HS8.out, HM7.out⟩⟩
      refine AllReadyH.cons rfl (fun K hK => ?_) AllReadyH.nil
      go_simp
      refine (HCN.out _ HCc.out.b).mono ?_
      rintro e w5 ⟨x2, hx2, rfl, ho2, hb⟩
      have HX2 : Hid (x2.nd = x.nd) := hx2
      have HC5 := Lib.hid (HCc.out.below hb)
      have HS5 := Lib.hid (HSc.out.keep hb)
      have HX5 := Lib.hid (HXc.out.below hb)
      have HO5 : Hid (OwnN w5 (w.heap.size + 1 + 1 + 1) x2) := ho2.le HCc.out.s
      have HL5 : Hid (wr.heap.size < w5.heap.size) := Nat.lt_of_lt_of_le HXc.out.lt hb.size
      clear hx2 ho2 hb HCc HSc HXc
      refine hK.out _ _ (HP.out _ HX5.out) (fun hHeld2 => ?_)
      clear hK K hHeld
      have hHeld := hHeld2
      clear hHeld2
      try simp only [Act.put, List.setIfInBounds_toArray, List.set_cons_zero, List.set_cons_succ, List.getElem_toArray, List.getElem_cons_succ, List.getElem_cons_zero]
      have HCc := HC5
      have HSc := HS5
      have HXc := HX5
      have HOc := HO5
      clear HC5 HS5 HX5 HO5
      refine wpAnyH_ready (rs := [1, 4]) (by kernel_rfl) (by simp) ?_
      refine AllReadyH.cons rfl (fun K hK => ?_) ?_
      · have kl : w5.cell? ⟨w.heap.size + 1 + 1, 0, none⟩ = some (.slice q1 m.length q2) := HCc.out.o.cell 0
        go_simp
        refine hK.out _ _ (HP.out _ HXc.out) (fun hHeld2 => ?_)
        clear hK K hHeld
        have hHeld := hHeld2
        clear hHeld2
        try simp only [Act.put, List.setIfInBounds_toArray, List.set_cons_zero, List.set_cons_succ, List.getElem_toArray, List.getElem_cons_succ, List.getElem_cons_zero]
        clear kl
        refine wpAnyH_ready (rs := [4]) (by kernel_rfl) (by simp) ?_
        refine AllReadyH.cons rfl (fun K hK => ?_) AllReadyH.nil
        go_simp
        have ha : Below w5.heap.size w5 (w5.alloc (.cells #[.string x2.nd.n, .int .i64 x2.nd.z0, .int .i64 x2.nd.z1, .int .i64 x2.nd.z2, .slice x2.a2 x2.nd.ls.length x2.c2, .slice x2.a3 x2.nd.ts.length x2.c3] 44)) := al _ _
        have HC6 := Lib.hid (HCc.out.below ha)
        have HS6 := Lib.hid (HSc.out.keep ha)
        have HX6 := Lib.hid (HXc.out.below ha)
        have HO6 := Lib.hid (HOc.out.keep ha)
        have HSL : Hid (Sl (w5.alloc (.cells #[.string x2.nd.n, .int .i64 x2.nd.z0, .int .i64 x2.nd.z1, .int .i64 x2.nd.z2, .slice x2.a2 x2.nd.ls.length x2.c2, .slice x2.a3 x2.nd.ts.length x2.c3] 44)) w5.heap.size (w5.alloc (.cells #[.string x2.nd.n, .int .i64 x2.nd.z0, .int .i64 x2.nd.z1, .int .i64 x2.nd.z2, .slice x2.a2 x2.nd.ls.length x2.c2, .slice x2.a3 x2.nd.ts.length x2.c3] 44)).heap.size (.slice (some ⟨w5.heap.size, 0, none⟩) 1 1) [x2]) := sl_one w5 x2 _
        clear ha HCc HSc HXc HOc
        refine hK.out _ _ (HP.out _ HX6.out) (fun hHeld2 => ?_)
        clear hK K hHeld
        have hHeld := hHeld2
        clear hHeld2
        try simp only [Act.put, List.setIfInBounds_toArray, List.set_cons_zero, List.set_cons_succ, List.getElem_toArray, List.getElem_cons_succ, List.getElem_cons_zero]
        have HCc := HC6
        have HSc := HS6
        have HXc := HX6
        have HOc := HO6
        clear HC6 HS6 HX6 HO6
        refine wpAnyH_ready (rs := [5]) (by kernel_rfl) (by simp) ?_
        refine AllReadyH.cons rfl (fun K hK => ?_) AllReadyH.nil
        obtain ⟨i0, hi0, hz0, hz1, hz2⟩ := info_parts info_n
        obtain ⟨v7, w7, hr, ho7, hg7, -⟩ := run_app (P := Try.prog) (ty := 22) Try.underlying22 hi0 hz0 hz1 hz2 rfl HSc.out.ow HSL.out (by have h := HLB.out; rw [HML.out, List.length_singleton]; omega) (by have h := HLB.out; rw [HML.out, List.length_singleton]; omega) HCc.out.s
        obtain ⟨g7, n7, hv7⟩ := ho7.slice
        generalize (m ++ [x2]).length = L7 at hv7
        subst hv7
        refine step_app rfl (.tmp 19) (.tmp 22) 22 rfl _ _ _ rfl rfl hr ?_
        clear hr
        have hbg := own_grown (w := w) HSc.out.ow hg7 HCc.out.s
        have HC7 := Lib.hid (HCc.out.go hbg)
        have HS7 := Lib.hid (HSc.out.more HOc.out ho7 hg7)
        have HX7 : Hid (Hd.Bxn w7 wr.heap.size [.string x.nd.n, .int .i64 x.nd.z0, .int .i64 x.nd.z1, .int .i64 x.nd.z2, .slice x.a2 x.nd.ls.length x.c2, .slice x.a3 x.nd.ts.length x.c3]) := by
          obtain ⟨T, h⟩ := HXc.out
          exact ⟨T, (hg7.block _ (Hd.Bxn.lt ⟨T, h⟩) (fun e => by have := HVA.out _ e.symm; omega)).trans h⟩
        have hm7 : (m ++ [x2]).map (·.nd) = b.ns.take (k + 1) := by rw [List.map_append, HEr.out, List.map_singleton, HX2.out, HX.out, List.take_succ_eq_append_getElem hlk]
        have HM7 := Lib.hid hm7
        clear hm7
        clear hbg ho7 hg7 HCc HSc HXc HOc HSL
        refine hK.out _ _ (HP.out _ HX7.out) (fun hHeld2 => ?_)
        clear hK K hHeld
        have hHeld := hHeld2
        clear hHeld2
        try simp only [Act.put, List.setIfInBounds_toArray, List.set_cons_zero, List.set_cons_succ, List.getElem_toArray, List.getElem_cons_succ, List.getElem_cons_zero]
        refine wpAnyH_take (i := 6) (v := ?_) rfl (by kernel_rfl) (by kernel_rfl) (by kernel_rfl) (fun _ _ _ h => h) (Or.inl ⟨by rfl, ?_⟩) (by assumption) ?_
        rotate_left
        · intro z hSz
          obtain ⟨c0, c1, c2, c3, c4, c5⟩ := hSz
          go_simp
          try with_reducible rfl
        try simp only [Act.put, List.setIfInBounds_toArray, List.set_cons_zero, List.set_cons_succ, List.getElem_toArray, List.getElem_cons_succ, List.getElem_cons_zero]
        refine wpAnyH_ready (rs := [7]) (by kernel_rfl) (by simp) ?_
        refine AllReadyH.cons rfl (fun K hK => ?_) AllReadyH.nil
        have kl : w7.cell? ⟨w.heap.size + 1 + 1, 0, none⟩ = some (.slice q1 m.length q2) := HC7.out.o.cell 0
        have kf : w7.frozen? ⟨w.heap.size + 1 + 1, 0, none⟩ = false := HC7.out.o.fz 0
        go_simp
        have HC8 : Hid (Cp w (w7.setCell ⟨w.heap.size + 1 + 1, 0, none⟩ (.slice g7 L7 n7)) [.slice (some ⟨g, o, none⟩) b.ns.length cn, .slice at' b.ts.length ct, .slice ab b.bs.length cb, .int .u64 (b.fe : Nat)] [.slice none 0 0, .slice none 0 0, .slice none 0 0, .int .u64 0] [.slice g7 L7 n7, .slice none 0 0, .slice none 0 0, .int .u64 (b.fe : Nat)]) := HC7.out.setO 0 _
        have HS8 : Hid (CsN w (w7.setCell ⟨w.heap.size + 1 + 1, 0, none⟩ (.slice g7 L7 n7)) (.slice g7 L7 n7) (m ++ [x2])) := HS7.out.far (grown_setCell _ _ _ _) (by omega)
        have HX8 : Hid (Hd.Bxn (w7.setCell ⟨w.heap.size + 1 + 1, 0, none⟩ (.slice g7 L7 n7)) wr.heap.size [.string x.nd.n, .int .i64 x.nd.z0, .int .i64 x.nd.z1, .int .i64 x.nd.z2, .slice x.a2 x.nd.ls.length x.c2, .slice x.a3 x.nd.ts.length x.c3]) := HX7.out.apart (by have := HZ.out; omega) _ _
        clear kl kf HC7 HS7 HX7
        refine hK.out _ _ (HP.out _ HX8.out) (fun hHeld2 => ?_)
        clear hK K hHeld
        have hHeld := hHeld2
        clear hHeld2
        try simp only [Act.put, List.setIfInBounds_toArray, List.set_cons_zero, List.set_cons_succ, List.getElem_toArray, List.getElem_cons_succ, List.getElem_cons_zero]
        refine wpAnyH_done (by kernel_rfl) ?_ _
        clear hHeld
        go_wp2
        go_roundg gg
        case measure => omega
        case rel => exact ⟨k + 1, .slice g7 L7 n7, m ++ [x2], by omega, by simp, ⟨HC8.out, HS8.out, HM7.out⟩⟩
      refine AllReadyH.cons rfl (fun K hK => ?_) AllReadyH.nil
      go_simp
      have ha : Below w5.heap.size w5 (w5.alloc (.cells #[.string x2.nd.n, .int .i64 x2.nd.z0, .int .i64 x2.nd.z1, .int .i64 x2.nd.z2, .slice x2.a2 x2.nd.ls.length x2.c2, .slice x2.a3 x2.nd.ts.length x2.c3] 44)) := al _ _
      have HC6 := Lib.hid (HCc.out.below ha)
      have HS6 := Lib.hid (HSc.out.keep ha)
      have HX6 := Lib.hid (HXc.out.below ha)
      have HO6 := Lib.hid (HOc.out.keep ha)
      have HSL : Hid (Sl (w5.alloc (.cells #[.string x2.nd.n, .int .i64 x2.nd.z0, .int .i64 x2.nd.z1, .int .i64 x2.nd.z2, .slice x2.a2 x2.nd.ls.length x2.c2, .slice x2.a3 x2.nd.ts.length x2.c3] 44)) w5.heap.size (w5.alloc (.cells #[.string x2.nd.n, .int .i64 x2.nd.z0, .int .i64 x2.nd.z1, .int .i64 x2.nd.z2, .slice x2.a2 x2.nd.ls.length x2.c2, .slice x2.a3 x2.nd.ts.length x2.c3] 44)).heap.size (.slice (some ⟨w5.heap.size, 0, none⟩) 1 1) [x2]) := sl_one w5 x2 _
      clear ha HCc HSc HXc HOc
      refine hK.out _ _ (HP.out _ HX6.out) (fun hHeld2 => ?_)
      clear hK K hHeld
      have hHeld := hHeld2
      clear hHeld2
      try simp only [Act.put, List.setIfInBounds_toArray, List.set_cons_zero, List.set_cons_succ, List.getElem_toArray, List.getElem_cons_succ, List.getElem_cons_zero]
      have HCc := HC6
      have HSc := HS6
      have HXc := HX6
      have HOc := HO6
      clear HC6 HS6 HX6 HO6
      refine wpAnyH_ready (rs := [1]) (by kernel_rfl) (by simp) ?_
      refine AllReadyH.cons rfl (fun K hK => ?_) AllReadyH.nil
      have kl : (w5.alloc (.cells #[.string x2.nd.n, .int .i64 x2.nd.z0, .int .i64 x2.nd.z1, .int .i64 x2.nd.z2, .slice x2.a2 x2.nd.ls.length x2.c2, .slice x2.a3 x2.nd.ts.length x2.c3] 44)).cell? ⟨w.heap.size + 1 + 1, 0, none⟩ = some (.slice q1 m.length q2) := HCc.out.o.cell 0
      go_simp
      refine hK.out _ _ (HP.out _ HXc.out) (fun hHeld2 => ?_)
      clear hK K hHeld
      have hHeld := hHeld2
      clear hHeld2
      try simp only [Act.put, List.setIfInBounds_toArray, List.set_cons_zero, List.set_cons_succ, List.getElem_toArray, List.getElem_cons_succ, List.getElem_cons_zero]
      clear kl
      refine wpAnyH_ready (rs := [5]) (by kernel_rfl) (by simp) ?_
      refine AllReadyH.cons rfl (fun K hK => ?_) AllReadyH.nil
      obtain ⟨i0, hi0, hz0, hz1, hz2⟩ := info_parts info_n
      obtain ⟨v7, w7, hr, ho7, hg7, -⟩ := run_app (P := Try.prog) (ty := 22) Try.underlying22 hi0 hz0 hz1 hz2 rfl HSc.out.ow HSL.out (by have h := HLB.out; rw [HML.out, List.length_singleton]; omega) (by have h := HLB.out; rw [HML.out, List.length_singleton]; omega) HCc.out.s
      obtain ⟨g7, n7, hv7⟩ := ho7.slice
      generalize (m ++ [x2]).length = L7 at hv7
      subst hv7
      refine step_app rfl (.tmp 19) (.tmp 22) 22 rfl _ _ _ rfl rfl hr ?_
      clear hr
      have hbg := own_grown (w := w) HSc.out.ow hg7 HCc.out.s
      have HC7 := Lib.hid (HCc.out.go hbg)
      have HS7 := Lib.hid (HSc.out.more HOc.out ho7 hg7)
      have HX7 : Hid (Hd.Bxn w7 wr.heap.size [.string x.nd.n, .int .i64 x.nd.z0, .int .i64 x.nd.z1, .int .i64 x.nd.z2, .slice x.a2 x.nd.ls.length x.c2, .slice x.a3 x.nd.ts.length x.c3]) := by
        obtain ⟨T, h⟩ := HXc.out
        exact ⟨T, (hg7.block _ (Hd.Bxn.lt ⟨T, h⟩) (fun e => by have := HVA.out _ e.symm; omega)).trans h⟩
      have hm7 : (m ++ [x2]).map (·.nd) = b.ns.take (k + 1) := by rw [List.map_append, HEr.out, List.map_singleton, HX2.out, HX.out, List.take_succ_eq_append_getElem hlk]
      have HM7 := Lib.hid hm7
      clear hm7
      clear hbg ho7 hg7 HCc HSc HXc HOc HSL
      refine hK.out _ _ (HP.out _ HX7.out) (fun hHeld2 => ?_)
      clear hK K hHeld
      have hHeld := hHeld2
      clear hHeld2
      try simp only [Act.put, List.setIfInBounds_toArray, List.set_cons_zero, List.set_cons_succ, List.getElem_toArray, List.getElem_cons_succ, List.getElem_cons_zero]
      refine wpAnyH_take (i := 6) (v := ?_) rfl (by kernel_rfl) (by kernel_rfl) (by kernel_rfl) (fun _ _ _ h => h) (Or.inl ⟨by rfl, ?_⟩) (by assumption) ?_
      rotate_left
      · intro z hSz
        obtain ⟨c0, c1, c2, c3, c4, c5⟩ := hSz
        go_simp
        try with_reducible rfl
      try simp only [Act.put, List.setIfInBounds_toArray, List.set_cons_zero, List.set_cons_succ, List.getElem_toArray, List.getElem_cons_succ, List.getElem_cons_zero]
      refine wpAnyH_ready (rs := [7]) (by kernel_rfl) (by simp) ?_
      refine AllReadyH.cons rfl (fun K hK => ?_) AllReadyH.nil
      have kl : w7.cell? ⟨w.heap.size + 1 + 1, 0, none⟩ = some (.slice q1 m.length q2) := HC7.out.o.cell 0
      have kf : w7.frozen? ⟨w.heap.size + 1 + 1, 0, none⟩ = false := HC7.out.o.fz 0
      go_simp
      have HC8 : Hid (Cp w (w7.setCell ⟨w.heap.size + 1 + 1, 0, none⟩ (.slice g7 L7 n7)) [.slice (some ⟨g, o, none⟩) b.ns.length cn, .slice at' b.ts.length ct, .slice ab b.bs.length cb, .int .u64 (b.fe : Nat)] [.slice none 0 0, .slice none 0 0, .slice none 0 0, .int .u64 0] [.slice g7 L7 n7, .slice none 0 0, .slice none 0 0, .int .u64 (b.fe : Nat)]) := HC7.out.setO 0 _
      have HS8 : Hid (CsN w (w7.setCell ⟨w.heap.size + 1 + 1, 0, none⟩ (.slice g7 L7 n7)) (.slice g7 L7 n7) (m ++ [x2])) := HS7.out.far (grown_setCell _ _ _ _) (by omega)
      have HX8 : Hid (Hd.Bxn (w7.setCell ⟨w.heap.size + 1 + 1, 0, none⟩ (.slice g7 L7 n7)) wr.heap.size [.string x.nd.n, .int .i64 x.nd.z0, .int .i64 x.nd.z1, .int .i64 x.nd.z2, .slice x.a2 x.nd.ls.length x.c2, .slice x.a3 x.nd.ts.length x.c3]) := HX7.out.apart (by have := HZ.out; omega) _ _
      clear kl kf HC7 HS7 HX7
      refine hK.out _ _ (HP.out _ HX8.out) (fun hHeld2 => ?_)
      clear hK K hHeld
      have hHeld := hHeld2
      clear hHeld2
      try simp only [Act.put, List.setIfInBounds_toArray, List.set_cons_zero, List.set_cons_succ, List.getElem_toArray, List.getElem_cons_succ, List.getElem_cons_zero]
      refine wpAnyH_done (by kernel_rfl) ?_ _
      clear hHeld
      go_wp2
      go_roundg gg
      case measure => omega
      case rel => exact ⟨k + 1, .slice g7 L7 n7, m ++ [x2], by omega, by simp, ⟨HC8.out, HS8.out, HM7.out⟩⟩
end Bo
end Go.Proofs.Ythbmnkeigmbbdaa

/-
  WHAT IS WRITTEN INTO ROWS of some types alone: what stays.
-/
namespace Go.Proofs.Ythbmnkeigmbbdaa
open Go.RowKit Go.Lib
namespace Bo
open Rw
set_option linter.unusedVariables false
/-- Only blocks from base on, below top, of these types have turned. -/
structure Wr (Ts : List TypeId) (base top : Nat) (w w' : World) : Prop where
  os : w'.os = w.os
  tape : w'.tape = w.tape
  output : w'.output = w.output
  size : w'.heap.size = w.heap.size
  blk : ∀ b, (b < base ∨ top ≤ b ∨ ∃ cs T f, w.heap[b]? = some (.cells cs T f) ∧ ¬ T ∈ Ts) → w'.heap[b]? = w.heap[b]?
theorem Wr.refl (Ts : List TypeId) (base top : Nat) (w : World) : Wr Ts base top w w := ⟨rfl, rfl, rfl, rfl, fun _ _ => rfl⟩
/-- A row of n cells at least. -/
def Row (w : World) (g n : Nat) (T : TypeId) : Prop := ∃ cs : List Value, w.heap[g]? = some (.cells cs.toArray T (0, 0)) ∧ n ≤ cs.length
theorem Row.cell {w : World} {g n : Nat} {T : TypeId} (h : Row w g n T) (j : Nat) (hj : j < n) : ∃ u, w.cell? ⟨g, j, none⟩ = some u := by
  obtain ⟨cs, h, hl⟩ := h
  exact ⟨cs[j]'(by omega), by simp [World.cell?, h, List.getElem?_eq_getElem (show j < cs.length by omega)]⟩
theorem Row.fz {w : World} {g n : Nat} {T : TypeId} (h : Row w g n T) (j : Nat) : w.frozen? ⟨g, j, none⟩ = false := by
  obtain ⟨cs, h, hl⟩ := h
  simp [World.frozen?, h]
theorem Row.put {w : World} {g n : Nat} {T : TypeId} (h : Row w g n T) (b o : Nat) (u : Value) : Row (w.setCell ⟨b, o, none⟩ u) g n T := by
  obtain ⟨cs, h, hl⟩ := h
  by_cases hb : b = g
  · subst hb
    exact ⟨cs.set o u, by simp [World.setCell, Array.getElem?_modify, h], by rw [List.length_set]; exact hl⟩
  · exact ⟨cs, (Below.heap_setCell w ⟨b, o, none⟩ u g (by rintro rfl; exact hb rfl)).trans h, hl⟩
theorem Row.ne {w : World} {g g2 n n2 : Nat} {T T2 : TypeId} (h : Row w g n T) (h2 : Row w g2 n2 T2) (hT : T ≠ T2) : g ≠ g2 := by
  rintro rfl
  obtain ⟨cs, h, -⟩ := h
  obtain ⟨cs2, h2, -⟩ := h2
  rw [h] at h2
  simp only [Option.some.injEq, Obj.cells.injEq] at h2
  exact hT h2.2.1
theorem Row.off {Ts : List TypeId} {base top : Nat} {w w' : World} {g n : Nat} {T : TypeId} (h : Row w g n T) (hw : Wr Ts base top w w') (hT : ¬ T ∈ Ts) : Row w' g n T := by
  obtain ⟨cs, h, hl⟩ := h
  exact ⟨cs, (hw.blk g (.inr (.inr ⟨_, T, _, h, hT⟩))).trans h, hl⟩
theorem Wr.put {Ts : List TypeId} {base top : Nat} {w w' : World} (h : Wr Ts base top w w') {g n : Nat} {T : TypeId} (hr : Row w' g n T) (hT : T ∈ Ts) (hb : base ≤ g) (ht : g < top) (o : Nat) (u : Value) : Wr Ts base top w (w'.setCell ⟨g, o, none⟩ u) := by
  have hg := grown_setCell w' g o u
  refine ⟨hg.os.trans h.os, hg.tape.trans h.tape, hg.output.trans h.output, by rw [← h.size]; simp, fun b hb2 => ?_⟩
  by_cases he : b = g
  · subst he
    rcases hb2 with h1 | h1 | ⟨cs, T2, f, h1, h2⟩
    · omega
    · omega
    · exfalso
      have h3 := h.blk b (.inr (.inr ⟨cs, T2, f, h1, h2⟩))
      obtain ⟨cs2, h4, -⟩ := hr
      rw [h4, h1] at h3
      simp only [Option.some.injEq, Obj.cells.injEq] at h3
      exact h2 (h3.2.1 ▸ hT)
  · exact (Below.heap_setCell w' ⟨g, o, none⟩ u b (by rintro rfl; exact he rfl)).trans (h.blk b hb2)
theorem Wr.below {Ts : List TypeId} {base top : Nat} {w w' : World} (h : Wr Ts base top w w') : Below base w w' := ⟨h.os, h.tape, h.output, by rw [h.size]; exact Nat.le_refl _, fun k hk => h.blk k (.inl hk)⟩
theorem Wr.bxn {Ts : List TypeId} {base top B : Nat} {w w' : World} {cs : List Value} (h : Wr Ts base top w w') (hx : Hd.Bxn w B cs) (hB : B < base ∨ top ≤ B) : Hd.Bxn w' B cs := by
  obtain ⟨T, hx⟩ := hx
  exact ⟨T, (h.blk B (by rcases hB with h | h; exact .inl h; exact .inr (.inl h))).trans hx⟩
section
variable {α : Type} [F : Flat α]
theorem Wr.own {Ts : List TypeId} {base top b2 : Nat} {e : TypeId} {w w' : World} {v : Value} {l : List α} (h : Wr Ts base top w w') (ho : Own w b2 e v l) (he : ¬ e ∈ Ts) : Own w' b2 e v l := by
  refine ⟨ho.1, ?_⟩
  rcases ho.2 with h2 | ⟨g, cap, cur, rfl, h4, h5, h6⟩
  · exact .inl h2
  · exact .inr ⟨g, cap, cur, rfl, h4, (h.blk g (.inr (.inr ⟨_, _, _, h5, he⟩))).trans h5, h6⟩
theorem own_row {w : World} {base : Nat} {e : TypeId} {v : Value} {l : List α} (h : Own w base e v l) (hn : 0 < l.length) : ∃ g cap, v = .slice (some ⟨g, 0, none⟩) l.length cap ∧ base ≤ g ∧ g < w.heap.size ∧ Row w g (l.length * F.k) e ∧ ∀ i (hi : i < l.length), At w g (i * F.k) l[i] := by
  have h' := h
  obtain ⟨g, cap, hv, hb, hg, hat, -⟩ := h.form hn
  rcases h'.2 with ⟨_, h0⟩ | ⟨g2, cap2, cur, hv2, hb2, hg2, h1, h2, h3, h4⟩
  · omega
  · rw [hv] at hv2
    simp only [Value.slice.injEq, Option.some.injEq, Addr.mk.injEq, and_true] at hv2
    obtain ⟨rfl, -, rfl⟩ := hv2
    refine ⟨g, cap, hv, hb, hg, ⟨cur.toList, by simpa using hg2, ?_⟩, hat⟩
    have h5 : cur.toList.length = cap * F.k := by rw [Array.length_toList]; exact h3
    rw [h5]
    exact Nat.mul_le_mul_right _ h1
end
/-- The nodes as they are spoilt: their names, their labels' keys. -/
structure Sn (base top : Nat) (W : World) (g : Nat) (mn : List NdM) (z : World) : Prop where
  wr : Wr [44, 51] base top W z
  rn : 0 < mn.length → Row z g (mn.length * 6) 44 ∧ base ≤ g ∧ g < top
  lb : ∀ i (hi : i < mn.length), z.cell? ⟨g, i * 6 + 4, none⟩ = some mn[i].v2
  rp : ∀ i (hi : i < mn.length), ∀ gp, mn[i].a2 = some ⟨gp, 0, none⟩ → 0 < mn[i].nd.ls.length → Row z gp (mn[i].nd.ls.length * 2) 51 ∧ base ≤ gp ∧ gp < top
  ra : ∀ i (hi : i < mn.length), 0 < mn[i].nd.ls.length → ∃ gp, mn[i].a2 = some ⟨gp, 0, none⟩
theorem Sn.name {base top : Nat} {W z : World} {g : Nat} {mn : List NdM} (h : Sn base top W g mn z) (i : Nat) (hi : i < mn.length) (u : Value) : Sn base top W g mn (z.setCell ⟨g, i * 6, none⟩ u) := by
  obtain ⟨r1, r2, r3⟩ := h.rn (by omega)
  refine ⟨h.wr.put r1 (by simp) r2 r3 _ _, fun hp => ⟨r1.put _ _ _, r2, r3⟩, fun j hj => ?_, fun j hj gp e hp => ?_, h.ra⟩
  · exact (World.cell?_setCell_other _ _ _ _ (by intro e; have e := congrArg Addr.off e; simp only at e; omega)).trans (h.lb j hj)
  · obtain ⟨q1, q2, q3⟩ := h.rp j hj gp e hp
    exact ⟨q1.put _ _ _, q2, q3⟩
theorem Sn.key {base top : Nat} {W z : World} {g : Nat} {mn : List NdM} (h : Sn base top W g mn z) (i : Nat) (hi : i < mn.length) (gp : Nat) (e : mn[i].a2 = some ⟨gp, 0, none⟩) (hp : 0 < mn[i].nd.ls.length) (o : Nat) (u : Value) : Sn base top W g mn (z.setCell ⟨gp, o, none⟩ u) := by
  obtain ⟨r1, r2, r3⟩ := h.rn (by omega)
  obtain ⟨q1, q2, q3⟩ := h.rp i hi gp e hp
  have hne := r1.ne q1 (by decide)
  refine ⟨h.wr.put q1 (by simp) q2 q3 _ _, fun hp => ⟨r1.put _ _ _, r2, r3⟩, fun j hj => ?_, fun j hj gp2 e2 hp2 => ?_, h.ra⟩
  · exact (World.cell?_setCell_other _ _ _ _ (by intro e; exact hne (congrArg Addr.block e).symm)).trans (h.lb j hj)
  · obtain ⟨p1, p2, p3⟩ := h.rp j hj gp2 e2 hp2
    exact ⟨p1.put _ _ _, p2, p3⟩
theorem Row.keep {w w' : World} {g n B : Nat} {T : TypeId} (h : Row w g n T) (hb : Below B w w') (hg : g < B) : Row w' g n T := by
  obtain ⟨cs, h, hl⟩ := h
  exact ⟨cs, (hb.block g hg).trans h, hl⟩
theorem slice_inj {a a' : Option Addr} {n n' c c' : Nat} (h : Value.slice a n c = Value.slice a' n' c') : a = a' ∧ c = c' := by
  simp only [Value.slice.injEq] at h
  exact ⟨h.1, h.2.2⟩
theorem Sn.start {base : Nat} {vn vt vb : Value} {mn : List NdM} {mt : List TdM} {bs : List Rg.Pr} {x W : World} (h : OwnL x base vn vt vb mn mt bs) (hb : Below x.heap.size x W) : ∃ g c, (0 < mn.length → vn = .slice (some ⟨g, 0, none⟩) mn.length c) ∧ Sn base x.heap.size W g mn W := by
  have key : ∀ i (hi : i < mn.length), 0 < mn[i].nd.ls.length → ∃ gp, mn[i].a2 = some ⟨gp, 0, none⟩ ∧ Row W gp (mn[i].nd.ls.length * 2) 51 ∧ base ≤ gp ∧ gp < x.heap.size := by
    intro i hi hp
    obtain ⟨gp, cap, hv, h1, h2, h3, -⟩ := own_row (h.dn _ (List.getElem_mem hi)).1 hp
    exact ⟨gp, (slice_inj hv).1, h3.keep hb h2, h1, h2⟩
  have rp : ∀ i (hi : i < mn.length), ∀ gp, mn[i].a2 = some ⟨gp, 0, none⟩ → 0 < mn[i].nd.ls.length → Row W gp (mn[i].nd.ls.length * 2) 51 ∧ base ≤ gp ∧ gp < x.heap.size := by
    intro i hi gp e hp
    obtain ⟨gq, e2, q⟩ := key i hi hp
    rw [e] at e2
    simp only [Option.some.injEq, Addr.mk.injEq, and_true] at e2
    subst e2
    exact q
  have ra : ∀ i (hi : i < mn.length), 0 < mn[i].nd.ls.length → ∃ gp, mn[i].a2 = some ⟨gp, 0, none⟩ := fun i hi hp => by
    obtain ⟨gq, e2, -⟩ := key i hi hp
    exact ⟨gq, e2⟩
  by_cases hn : 0 < mn.length
  · obtain ⟨g, cap, hv, h1, h2, h3, h4⟩ := own_row h.hn hn
    exact ⟨g, cap, fun _ => hv, ⟨Wr.refl _ _ _ _, fun _ => ⟨h3.keep hb h2, h1, h2⟩, fun i hi => (hb.cell (by exact h2)).trans (h4 i hi 4 _ rfl), rp, ra⟩⟩
  · exact ⟨0, 0, fun hp => absurd hp hn, ⟨Wr.refl _ _ _ _, fun hp => absurd hp hn, fun i hi => absurd (Nat.lt_of_le_of_lt (Nat.zero_le _) hi) hn, rp, ra⟩⟩
theorem cell_blk {w z : World} {b o : Nat} (h : z.heap[b]? = w.heap[b]?) : z.cell? ⟨b, o, none⟩ = w.cell? ⟨b, o, none⟩ := by
  simp [World.cell?, h]
/-- The tasks as their ranks are spoilt. -/
structure Tn (base top : Nat) (W : World) (g n : Nat) (z : World) : Prop where
  wr : Wr [36] base top W z
  rt : 0 < n → Row z g (n * 9) 36 ∧ base ≤ g ∧ g < top
  rk : ∀ i, i < n → ∃ r : Int, z.cell? ⟨g, i * 9 + 8, none⟩ = some (.int .i64 r)
theorem Tn.put {base top : Nat} {W z : World} {g n : Nat} (h : Tn base top W g n z) (i : Nat) (hi : i < n) (r : Int) : Tn base top W g n (z.setCell ⟨g, i * 9 + 8, none⟩ (.int .i64 r)) := by
  obtain ⟨r1, r2, r3⟩ := h.rt (by omega)
  refine ⟨h.wr.put r1 (by simp) r2 r3 _ _, fun hp => ⟨r1.put _ _ _, r2, r3⟩, fun j hj => ?_⟩
  by_cases he : j = i
  · subst he
    obtain ⟨q, hq⟩ := h.rk j hj
    exact ⟨r, World.cell?_setCell_same _ _ _ hq⟩
  · obtain ⟨q, hq⟩ := h.rk j hj
    exact ⟨q, (World.cell?_setCell_other _ _ _ _ (by intro e; have e := congrArg Addr.off e; simp only at e; omega)).trans hq⟩
theorem Tn.start {Ts : List TypeId} {base : Nat} {vn vt vb : Value} {mn : List NdM} {mt : List TdM} {bs : List Rg.Pr} {x W z : World} (h : OwnL x base vn vt vb mn mt bs) (hb : Below x.heap.size x W) (hw : Wr Ts base x.heap.size W z) (hT : ¬ 36 ∈ Ts) : ∃ g c, (0 < mt.length → vt = .slice (some ⟨g, 0, none⟩) mt.length c) ∧ Tn base x.heap.size z g mt.length z := by
  by_cases hn : 0 < mt.length
  · obtain ⟨g, cap, hv, h1, h2, h3, h4⟩ := own_row h.ht hn
    have hk := h3.keep hb h2
    refine ⟨g, cap, fun _ => hv, ⟨Wr.refl _ _ _ _, fun _ => ⟨hk.off hw hT, h1, h2⟩, fun i hi => ⟨mt[i].td.r, ?_⟩⟩⟩
    obtain ⟨cs, hg, -⟩ := hk
    exact (cell_blk (hw.blk g (.inr (.inr ⟨_, _, _, hg, hT⟩)))).trans ((hb.cell (by exact h2)).trans (h4 i hi 8 _ rfl))
  · exact ⟨0, 0, fun hp => absurd hp hn, ⟨Wr.refl _ _ _ _, fun hp => absurd hp hn, fun i hi => absurd (Nat.lt_of_le_of_lt (Nat.zero_le _) hi) hn⟩⟩
/-- The binds as their nodes are spoilt. -/
structure Bn (base top : Nat) (W : World) (g n : Nat) (z : World) : Prop where
  wr : Wr [38] base top W z
  rb : 0 < n → Row z g (n * 2) 38 ∧ base ≤ g ∧ g < top
theorem Bn.put {base top : Nat} {W z : World} {g n : Nat} (h : Bn base top W g n z) (hn : 0 < n) (o : Nat) (u : Value) : Bn base top W g n (z.setCell ⟨g, o, none⟩ u) := by
  obtain ⟨r1, r2, r3⟩ := h.rb hn
  exact ⟨h.wr.put r1 (by simp) r2 r3 _ _, fun hp => ⟨r1.put _ _ _, r2, r3⟩⟩
theorem Bn.start {Ts Us : List TypeId} {base : Nat} {vn vt vb : Value} {mn : List NdM} {mt : List TdM} {bs : List Rg.Pr} {x W z y : World} (h : OwnL x base vn vt vb mn mt bs) (hb : Below x.heap.size x W) (hw : Wr Ts base x.heap.size W z) (hT : ¬ 38 ∈ Ts) (hy : Wr Us base x.heap.size z y) (hU : ¬ 38 ∈ Us) :
    ∃ g c, (0 < bs.length → vb = .slice (some ⟨g, 0, none⟩) bs.length c) ∧ Bn base x.heap.size y g bs.length y := by
  by_cases hn : 0 < bs.length
  · obtain ⟨g, cap, hv, h1, h2, h3, h4⟩ := own_row h.hb hn
    exact ⟨g, cap, fun _ => hv, ⟨Wr.refl _ _ _ _, fun _ => ⟨((h3.keep hb h2).off hw hT).off hy hU, h1, h2⟩⟩⟩
  · exact ⟨0, 0, fun hp => absurd hp hn, ⟨Wr.refl _ _ _ _, fun hp => absurd hp hn⟩⟩
end Bo
end Go.Proofs.Ythbmnkeigmbbdaa
