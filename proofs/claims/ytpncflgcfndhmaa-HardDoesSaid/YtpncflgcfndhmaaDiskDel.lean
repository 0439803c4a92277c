/-
  slices.Delete: a file taken out.
-/
import Derived.Test.YtpncflgcfndhmaaDiskIns
namespace Go.Proofs.Ytpncflgcfndhmaa
open Go.RowKit Go.Lib Go.Sort
namespace Dk
theorem step_append_runI {P : Program} {w : World} {ops : Array Oper} {o : Oper} {a : Act} {K : Act → World → Prop} {Q : Exit → Act → World → Prop} {E : Prop}
    (hg : o.guard = none) (d x : Operand) (dT sT : TypeId) (hop : o.op = Op.call { callee := Callee.builtin Builtin.append, args := #[d, x], argTypes := #[dT, sT] })
    (v u : Value) (hd : a.eval d = v) (hx : a.eval x = u) {v' : Value} {w' : World} (hr : (Builtin.append_ #[dT, sT] o.type #[v, u]).run P w = .ok v' w') (hK : K (a.put o.dst v') w') :
    if Region.wanted o (yielded ops a.tmps) = true then Oper.wp P o a w K Q else E := by
  have hw : Region.wanted o (yielded ops a.tmps) = true := by simp [Region.wanted, hg]
  rw [if_pos hw]
  unfold Oper.wp
  simp [execOp, hop, resolve, invoke, builtin, hd, hx, hr, Result.andThen]
  exact hK

set_option maxRecDepth 100000 in
set_option maxHeartbeats 4000000 in
theorem delete_own (v : Value) (fs : List Fl) (i base : Nat) (w : World) (ho : Own w base v fs) (h4 : fs.length ≤ 4096) (hi : i < fs.length) :
    Calls Try.prog 82 #[v, .int .i64 i, .int .i64 ((i : Int) + 1)] w fun e w' => ∃ v', e = .returned v' ∧ Own w' base v' (fs.eraseIdx i) ∧ w.grownBy w' v.ownBlock := by
  rcases ho.2 with ⟨_, h0⟩ | ⟨g, cap, cur, rfl, hbg, hg, hnc, hcm, hcs, hL⟩
  · omega
  · obtain ⟨i0, hi0, hz0, hz1, hz2⟩ := info_parts info_file
    have hcl : cur.toList.length = cap * 3 := by rw [Array.length_toList, hcs]
    have hg : w.heap[g]? = some (.cells cur.toList.toArray 59 (0, 0)) := by simpa using hg
    generalize cur.toList = L at *
    have hdl : (flat (fs.drop (i + 1))).length = (fs.length - (i + 1)) * 3 := by rw [flat_len, List.length_drop]
    have hcm' : cap ≤ 9223372036854775807 := by simpa [maxLen] using hcm
    have hw0 : ∀ sp sc, (i + 1 < fs.length → sp = some ⟨g, (i + 1) * 3, none⟩) → (Builtin.append_ #[22, 22] 22 #[.slice (some ⟨g, 0, none⟩) i cap, .slice sp (fs.length - (i + 1)) sc]).run Try.prog w.drew = .ok (.slice (some ⟨g, 0, none⟩) (i + (fs.length - (i + 1))) cap) (w.drew.setRow g (splice L (i * 3) (flat (fs.drop (i + 1)))).toArray) := by
      intro sp sc hsp
      refine run_append3 w.drew _ _ 59 i0 Try.underlying22 hi0 hz1 g i cap L 59 hg sp (fs.length - (i + 1)) sc (flat (fs.drop (i + 1))) hdl (fun hp => ⟨_, hsp (by omega), fun j v hj => ?_⟩) (flat_one _) (by omega) (by rw [hdl, hcl]; omega)
      rw [Addr.add_lit]
      show w.cell? _ = _
      rw [cell_of_row w g ((i + 1) * 3 + j) L.toArray _ (0, 0) hg]
      rw [← flat_drop, List.getElem?_drop] at hj
      have hjl := (List.getElem?_eq_some_iff.1 hj).1
      rw [flat_len] at hjl
      rw [← hL, List.getElem?_take, if_pos hjl] at hj
      simpa using hj
    rw [show i + (fs.length - (i + 1)) = fs.length - 1 by omega] at hw0
    have hz3 : ∀ w, (zeroValue 59).run Try.prog w = .ok (.agg #[.string ByteArray.empty, .string ByteArray.empty, .int .i64 0]) w := by
      intro w
      simp [zeroValue, typeInfo, hi0, hz0]
    have hL1 := setRow_heap w.drew g L.toArray (splice L (i * 3) (flat (fs.drop (i + 1)))).toArray _ _ hg
    have hsl : (splice L (i * 3) (flat (fs.drop (i + 1)))).length = cap * 3 := by rw [length_splice _ _ _ (by rw [hdl, hcl]; omega), hcl]
    have hfin := splice_del L [.string ByteArray.empty, .string ByteArray.empty, .int .i64 0] fs i hi hL
    generalize splice L (i * 3) (flat (fs.drop (i + 1))) = L1 at *
    have hclr : ∀ m c, m = 1 → (Builtin.clear_ #[22] 0 #[.slice (some ⟨g, (fs.length - 1) * 3, none⟩) m c]).run Try.prog (w.drew.setRow g L1.toArray) = .ok (.tuple #[]) ((w.drew.setRow g L1.toArray).setRow g (splice L1 ((fs.length - 1) * 3) [.string ByteArray.empty, .string ByteArray.empty, .int .i64 0]).toArray) := fun m c hm => by
      subst hm
      exact run_clear3 _ _ _ 59 _ _ _ g _ c L1 59 Try.underlying22 (hz3 _) (by intro v hv; simp at hv; rcases hv with rfl | rfl <;> rfl) hL1 (by rw [hsl]; omega)
    have hw1 : IntKind.i64.wrap ((i : Int) + 1) = (i : Int) + 1 := by rw [IntKind.wrap_i64]; omega
    have ht0 : (i : Int) + 1 ≤ (fs.length : Int) := by omega
    have ht1 : (0 : Int) ≤ (i : Int) + 1 := by omega
    have ht2 : (i : Int) ≤ (i : Int) + 1 := by omega
    have ht3 : ((i : Int) + 1).toNat = i + 1 := by omega
    have ht4 : ¬ ((i : Int) = (i : Int) + 1) := by omega
    have ht5 : (fs.length : Int) ≤ (cap : Int) := by omega
    have ht6 : (i : Int) ≤ (fs.length : Int) := by omega
    have ht7 : (i : Int) ≤ (cap : Int) := by omega
    have hnf : ¬ (fs.length = i) := by omega
    have hnc2 : ¬ (cap = i) := by omega
    go_enter Try.func82, Try.ntmps82
    go_wp2
    have HW0 := Lib.hid hw0
    have HCL := Lib.hid hclr
    have HFIN : Hid (Own ((w.drew.setRow g L1.toArray).setRow g (splice L1 ((fs.length - 1) * 3) [.string ByteArray.empty, .string ByteArray.empty, .int .i64 0]).toArray) base (.slice (some ⟨g, 0, none⟩) (fs.length - 1) cap) (fs.eraseIdx i) ∧ w.grownBy ((w.drew.setRow g L1.toArray).setRow g (splice L1 ((fs.length - 1) * 3) [.string ByteArray.empty, .string ByteArray.empty, .int .i64 0]).toArray) (some g)) := by
      have hel : (fs.eraseIdx i).length = fs.length - 1 := by rw [List.length_eraseIdx_of_lt hi]
      refine ⟨?_, ⟨rfl, rfl, rfl, by simp [World.setRow], fun k _ hk => ?_⟩⟩
      · unfold Own
        rw [hel]
        refine ⟨by rw [flat_len, hel], .inr ⟨g, cap, _, rfl, hbg, setRow_heap _ g _ _ _ _ hL1, by omega, hcm, ?_, ?_⟩⟩
        · rw [List.size_toArray, length_splice _ _ _ (by rw [hsl]; simp; omega), hsl]
        · exact hfin
      · have hkg : k ≠ g := fun e => hk (by rw [e])
        rw [setRow_other _ g k _ hkg, setRow_other _ g k _ hkg]
        rfl
    clear hclr hw0 hfin hL1 hg ho hz3
    by_cases hce : cap = i + 1
    · subst hce
      have hfi : fs.length = i + 1 := by omega
      go_region_law (refine step_append_runI rfl _ _ 22 22 rfl (.slice (some ⟨g, 0, none⟩) i (i + 1)) (.slice (some ⟨g, 0, none⟩) (fs.length - (i + 1)) 0) (by simp [Act.eval, Act.put]) (by simp [Act.eval, Act.put]; omega) (HW0.out _ _ (fun h => absurd h (by omega))) ?_)
      have h7 := HCL.out 1 1 rfl
      rw [hfi] at h7 HFIN
      simp only [Nat.add_sub_cancel] at h7 HFIN
      all_goals go_wp2
      all_goals go_ret
      all_goals exact ⟨_, rfl, HFIN.out.1, HFIN.out.2⟩
    · go_region_law (refine step_append_runI rfl _ _ 22 22 rfl (.slice (some ⟨g, 0, none⟩) i cap) (.slice (some ⟨g, (i + 1) * 3, none⟩) (fs.length - (i + 1)) (cap - (i + 1))) (by simp [Act.eval, Act.put]) (by simp [Act.eval, Act.put]) (HW0.out _ _ (fun _ => rfl)) ?_)
      have h7 := HCL.out (fs.length - (fs.length - 1)) (cap - (fs.length - 1)) (by omega)
      all_goals go_wp2
      all_goals go_ret
      all_goals exact ⟨_, rfl, HFIN.out.1, HFIN.out.2⟩
end Dk
end Go.Proofs.Ytpncflgcfndhmaa
