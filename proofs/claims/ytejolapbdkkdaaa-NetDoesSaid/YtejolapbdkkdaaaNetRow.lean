/-
  PACKETS OF THE CALL's OWN: slices.Clone, slices.Delete; net.refuse.
-/
import Derived.Test.YtejolapbdkkdaaaNetChk
namespace Go.Proofs.Ytejolapbdkkdaaa
open Go.RowKit Go.Lib
namespace Nt
open Rw
set_option linter.unusedVariables false
theorem info_pk : (Try.prog.info? 30).map (fun i => (i.zero, i.size, i.bytes)) = some (some (.agg #[.int .i64 0, .int .i64 0, .string ByteArray.empty]), 3, 32) := by kernel_rfl
theorem zero_pk (w : World) : (zeroValue 30).run Try.prog w = .ok (.agg #[.int .i64 0, .int .i64 0, .string ByteArray.empty]) w := by
  obtain ⟨i0, hi0, hz0, hz1, hz2⟩ := info_parts info_pk
  simp [zeroValue, typeInfo, hi0, hz0]
/-- v is a row of packets of the call's own. -/
def OwnP (w : World) (base : Nat) (v : Value) (l : List Pk) : Prop := Own w base 30 v l
set_option maxHeartbeats 1000000 in
theorem clone_own (v : Value) (l : List Pk) (w : World) {A : Nat} (hv : Sl w A w.heap.size v l) :
    Calls Try.prog 22 #[v] w fun e w' => ∃ v', e = .returned v' ∧ OwnP w' w.heap.size v' l ∧ Below w.heap.size w w' := by
  have q22 : ∀ (w : World) (a : Option Addr) (n c n' c' : Nat), (binOp .eql 22 (.slice a n c) (.slice none n' c')).run Try.prog w = .ok (.bool a.isNone) w := fun w a n c n' c' => Lib.run_eql_slice_nil w _ _ a n c n' c' Try.underlying22
  have hv2 := hv
  obtain ⟨a, c, rfl, hc0, hnil, hl, hc⟩ := hv
  cases a with
  | none =>
    have h0 : l = [] := List.eq_nil_of_length_eq_zero (by have := hnil rfl; omega)
    subst h0
    clear hc hv2 hl hnil hc0
    go_enter Try.func22, Try.ntmps22
    go_wp2
    go_ret
    exact ⟨_, rfl, Own.nil _ _ _, Below.refl _ _⟩
  | some ad =>
    obtain ⟨i0, hi, hz0, hz1, hz2⟩ := info_parts info_pk
    have A := Lib.hid hv2.news
    have hmx : l.length ≤ maxLen := by simp only [maxLen]; omega
    have hl3 : (flat l).length = l.length * 3 := flat_len l
    have h1 := flat_one l
    have HLL := Lib.hid hl
    clear hc hv2 hnil hc0
    have H3 := Lib.hid hl3
    have H1 := Lib.hid h1
    clear hl3 h1
    have HF : Hid (∀ (w1 : World) (v' : Value), w1.ownsRow w.heap.size 30 3 v' l.length (flat l) → OwnP w1 w.heap.size v' l) := fun _ _ h => h
    generalize flat l = xs at A H3 H1 HF
    go_enter Try.func22, Try.ntmps22
    go_wp2_with (at_builtin; refine wpList_append_own _ rfl _ _ 22 rfl w.heap.size 30 i0 _ 3 32 Try.underlying22 hi hz0 hz1 hz2 rfl (by omega) _ _ _ rfl (World.ownsRow_made w #[] 0 (Nat.le_refl _) (Nat.zero_le _) (by simp)) ad l.length c xs rfl H3.out (fun j u hj => Lib.cell?_alloc_some _ (A.out j u hj)) H1.out (by rw [Nat.zero_add]; exact hmx) (by rw [Nat.zero_add]; have := HLL.out; omega) (by simp) ?_; intro v' w1 hown hgrow hnil)
    go_ret
    exact ⟨_, rfl, HF.out _ _ (by simpa using hown), ((Below.refl _ w).alloc (Nat.le_refl _) _).grown hgrow (by simp) (fun k hk => Nat.le_of_eq (Option.some.inj hk))⟩
set_option maxRecDepth 100000 in
set_option maxHeartbeats 4000000 in
theorem delete_own (v : Value) (fs : List Pk) (i base : Nat) (w : World) (ho : OwnP w base v fs) (h4 : fs.length ≤ 4096) (hi : i < fs.length) :
    Calls Try.prog 25 #[v, .int .i64 i, .int .i64 ((i : Int) + 1)] w fun e w' => ∃ v', e = .returned v' ∧ OwnP w' base v' (fs.eraseIdx i) ∧ w.grownBy w' v.ownBlock := by
  rcases ho.2 with ⟨_, h0⟩ | ⟨g, cap, cur, rfl, hbg, hg, hnc, hcm, hcs, hL⟩
  · omega
  · obtain ⟨i0, hi0, hz0, hz1, hz2⟩ := info_parts info_pk
    have hcs : cur.size = cap * 3 := hcs
    have hL : cur.toList.take (fs.length * 3) = flat fs := hL
    have hcl : cur.toList.length = cap * 3 := by rw [Array.length_toList, hcs]
    have hg : w.heap[g]? = some (.cells cur.toList.toArray 30 (0, 0)) := by simpa using hg
    generalize cur.toList = L at *
    have hdl : (flat (fs.drop (i + 1))).length = (fs.length - (i + 1)) * 3 := by rw [flat_len, List.length_drop]; rfl
    have hcm' : cap ≤ 9223372036854775807 := by simpa [maxLen] using hcm
    have hw0 : ∀ sp sc, (i + 1 < fs.length → sp = some ⟨g, (i + 1) * 3, none⟩) → (Builtin.append_ #[22, 22] 22 #[.slice (some ⟨g, 0, none⟩) i cap, .slice sp (fs.length - (i + 1)) sc]).run Try.prog w.drew = .ok (.slice (some ⟨g, 0, none⟩) (i + (fs.length - (i + 1))) cap) (w.drew.setRow g (splice L (i * 3) (flat (fs.drop (i + 1)))).toArray) := by
      intro sp sc hsp
      refine run_append_in w.drew _ _ 30 i0 3 Try.underlying22 hi0 hz1 g i cap L 30 hg sp (fs.length - (i + 1)) sc (flat (fs.drop (i + 1))) hdl (fun hp => ⟨_, hsp (by omega), fun j v hj => ?_⟩) (flat_one _) (by omega) (by rw [hdl, hcl]; omega)
      rw [Addr.add_lit]
      show w.cell? _ = _
      rw [cell_of_row w g ((i + 1) * 3 + j) L.toArray _ (0, 0) hg]
      have e : (flat fs).drop ((i + 1) * 3) = flat (fs.drop (i + 1)) := flat_drop fs (i + 1)
      rw [← e, List.getElem?_drop] at hj
      have hjl := (List.getElem?_eq_some_iff.1 hj).1
      have e2 : (flat fs).length = fs.length * 3 := flat_len fs
      rw [e2] at hjl
      rw [← hL, List.getElem?_take, if_pos hjl] at hj
      simpa using hj
    rw [show i + (fs.length - (i + 1)) = fs.length - 1 by omega] at hw0
    have hz3 := zero_pk
    have hL1 := setRow_heap w.drew g L.toArray (splice L (i * 3) (flat (fs.drop (i + 1)))).toArray _ _ hg
    have hsl : (splice L (i * 3) (flat (fs.drop (i + 1)))).length = cap * 3 := by rw [length_splice _ _ _ (by rw [hdl, hcl]; omega), hcl]
    have hfin : (splice (splice L (i * 3) (flat (fs.drop (i + 1)))) ((fs.length - 1) * 3) [.int .i64 0, .int .i64 0, .string ByteArray.empty]).take ((fs.length - 1) * 3) = flat (fs.eraseIdx i) := splice_del L [.int .i64 0, .int .i64 0, .string ByteArray.empty] fs i hi hL
    generalize splice L (i * 3) (flat (fs.drop (i + 1))) = L1 at *
    have hclr : ∀ m c, m = 1 → (Builtin.clear_ #[22] 0 #[.slice (some ⟨g, (fs.length - 1) * 3, none⟩) m c]).run Try.prog (w.drew.setRow g L1.toArray) = .ok (.tuple #[]) ((w.drew.setRow g L1.toArray).setRow g (splice L1 ((fs.length - 1) * 3) [.int .i64 0, .int .i64 0, .string ByteArray.empty]).toArray) := fun m c hm => by
      subst hm
      exact run_clear_one _ _ _ 30 _ 3 g _ c L1 30 Try.underlying22 (hz3 _) rfl (by intro v hv; simp [Value.cells] at hv; rcases hv with rfl | rfl | rfl <;> rfl) hL1 (by rw [hsl]; omega)
    have hw1 : IntKind.i64.wrap ((i : Int) + 1) = (i : Int) + 1 := by rw [IntKind.wrap_i64]; omega
    have ht0 : (i : Int) + 1 ≤ (fs.length : Int) := by omega
    have ht1 : (0 : Int) ≤ (i : Int) + 1 := by omega
    have ht2 : (i : Int) ≤ (i : Int) + 1 := by omega
    have ht3 : ((i : Int) + 1).toNat = i + 1 := by omega
    have ht4 : ¬ ((i : Int) = (i : Int) + 1) := by omega
    have ht5 : (fs.length : Int) ≤ (cap : Int) := by omega
    have ht6 : (i : Int) ≤ (fs.length : Int) := by omega
    have ht7 : (i : Int) ≤ (cap : Int) := by omega
    have hnf : ¬ (fs.length = i) := by omega
    have hnc2 : ¬ (cap = i) := by omega
    go_enter Try.func25, Try.ntmps25
    go_wp2
    have HW0 := Lib.hid hw0
    have HCL := Lib.hid hclr
    have HFIN : Hid (OwnP ((w.drew.setRow g L1.toArray).setRow g (splice L1 ((fs.length - 1) * 3) [.int .i64 0, .int .i64 0, .string ByteArray.empty]).toArray) base (.slice (some ⟨g, 0, none⟩) (fs.length - 1) cap) (fs.eraseIdx i) ∧ w.grownBy ((w.drew.setRow g L1.toArray).setRow g (splice L1 ((fs.length - 1) * 3) [.int .i64 0, .int .i64 0, .string ByteArray.empty]).toArray) (some g)) := by
      have hel : (fs.eraseIdx i).length = fs.length - 1 := by rw [List.length_eraseIdx_of_lt hi]
      refine ⟨?_, ⟨rfl, rfl, rfl, by simp [World.setRow], fun k _ hk => ?_⟩⟩
      · unfold OwnP Own
        rw [hel]
        refine ⟨by rw [flat_len, hel], .inr ⟨g, cap, _, rfl, hbg, setRow_heap _ g _ _ _ _ hL1, by omega, hcm, ?_, ?_⟩⟩
        · rw [List.size_toArray, length_splice _ _ _ (by rw [hsl]; simp; omega), hsl]; rfl
        · exact hfin
      · have hkg : k ≠ g := fun e => hk (by rw [e])
        rw [setRow_other _ g k _ hkg, setRow_other _ g k _ hkg]
        rfl
    clear hclr hw0 hfin hL1 hg ho hz3
    by_cases hce : cap = i + 1
    · subst hce
      have hfi : fs.length = i + 1 := by omega
      go_region_law (refine step_append_runI rfl _ _ 22 22 rfl (.slice (some ⟨g, 0, none⟩) i (i + 1)) (.slice (some ⟨g, 0, none⟩) (fs.length - (i + 1)) 0) (by simp [Act.eval, Act.put]) (by simp [Act.eval, Act.put]; omega) (HW0.out _ _ (fun h => absurd h (by omega))) ?_)
      have h7 := HCL.out 1 1 rfl
      rw [hfi] at h7 HFIN
      simp only [Nat.add_sub_cancel] at h7 HFIN
      all_goals go_wp2
      all_goals go_ret
      all_goals exact ⟨_, rfl, HFIN.out.1, HFIN.out.2⟩
    · go_region_law (refine step_append_runI rfl _ _ 22 22 rfl (.slice (some ⟨g, 0, none⟩) i cap) (.slice (some ⟨g, (i + 1) * 3, none⟩) (fs.length - (i + 1)) (cap - (i + 1))) (by simp [Act.eval, Act.put]) (by simp [Act.eval, Act.put]) (HW0.out _ _ (fun _ => rfl)) ?_)
      have h7 := HCL.out (fs.length - (fs.length - 1)) (cap - (fs.length - 1)) (by omega)
      all_goals go_wp2
      all_goals go_ret
      all_goals exact ⟨_, rfl, HFIN.out.1, HFIN.out.2⟩
/-- Why there is no i-th packet. -/
def refN (l : List Pk) (i : Int) : Int := if netB l then (if 0 ≤ i ∧ i < l.length then 0 else 1) else 10
set_option maxHeartbeats 1000000 in
theorem refuse_own (v : Value) (l : List Pk) (i : Int) (w : World) {A : Nat} (h : Sl w A w.heap.size v l) :
    Calls Try.prog 24 #[.agg #[v], .int .i64 i] w fun e w' => e = .returned (.int .i64 (refN l i)) ∧ Below w.heap.size w w' := by
  have HX : Hid (∀ z, Below w.heap.size w z → Calls Try.prog 18 #[.agg #[v]] z fun e w' => e = .returned (.int .i64 (errN l)) ∧ Below z.heap.size z w') := fun z hz => check_own v l z (h.on hz)
  have hlen := h.len
  obtain ⟨a, c, rfl⟩ := h.slice
  clear h
  have HB := Lib.hid ((Below.refl _ w).alloc (Nat.le_refl _) (.cells #[.slice a l.length c] 24))
  have HE : Hid (errN l = if netB l then 0 else 10) := rfl
  have HF : Hid (refN l i = if netB l then (if 0 ≤ i ∧ i < l.length then 0 else 1) else 10) := rfl
  generalize errN l = r at *
  generalize refN l i = q at *
  cases hq : netB l
  · rw [hq] at HE HF
    obtain rfl : r = 10 := HE.out
    have HR : Hid (q = 10) := HF.out
    clear HE HF hq
    go_enter Try.func24, Try.ntmps24
    go_wp2_with (go_at_call 18; go_loud ((with_reducible refine (HX.out _ HB.out).mono ?_); rintro e w1 ⟨rfl, hb⟩; have HB1 := Lib.hid (HB.out.trans (hb.mono HB.out.size)); have h0 := hb.cell (p := ⟨w.heap.size, 0, none⟩) (by show w.heap.size < (w.alloc _).heap.size; rw [World.size_alloc]; exact Nat.lt_succ_self _); clear hb))
    go_wp2
    go_ret
    exact ⟨by rw [HR.out]; rfl, HB1.out⟩
  · rw [hq] at HE HF
    obtain rfl : r = 0 := HE.out
    clear HE hq
    by_cases h1 : 0 ≤ i
    · by_cases h2 : i < (l.length : Int)
      · have HR : Hid (q = 0) := HF.out.trans ((if_pos rfl).trans (if_pos ⟨h1, h2⟩))
        have t1 : decide (i < 0) = false := by simp; omega
        have t2 : decide ((l.length : Int) ≤ i) = false := by simp; omega
        clear HF
        go_enter Try.func24, Try.ntmps24
        go_wp2_with (go_at_call 18; go_loud ((with_reducible refine (HX.out _ HB.out).mono ?_); rintro e w1 ⟨rfl, hb⟩; have HB1 := Lib.hid (HB.out.trans (hb.mono HB.out.size)); have h0 := (hb.cell (p := ⟨w.heap.size, 0, none⟩) (by show w.heap.size < (w.alloc _).heap.size; rw [World.size_alloc]; exact Nat.lt_succ_self _)).trans (cell_new w _ _); clear hb))
        go_wp2
        go_ret
        exact ⟨by rw [HR.out]; rfl, HB1.out⟩
      · have HR : Hid (q = 1) := HF.out.trans ((if_pos rfl).trans (if_neg (fun h => h2 h.2)))
        have t1 : decide (i < 0) = false := by simp; omega
        have t2 : decide ((l.length : Int) ≤ i) = true := by simp; omega
        have t3 : (l.length : Int) ≤ i := by omega
        clear HF
        go_enter Try.func24, Try.ntmps24
        go_wp2_with (go_at_call 18; go_loud ((with_reducible refine (HX.out _ HB.out).mono ?_); rintro e w1 ⟨rfl, hb⟩; have HB1 := Lib.hid (HB.out.trans (hb.mono HB.out.size)); have h0 := (hb.cell (p := ⟨w.heap.size, 0, none⟩) (by show w.heap.size < (w.alloc _).heap.size; rw [World.size_alloc]; exact Nat.lt_succ_self _)).trans (cell_new w _ _); clear hb))
        go_wp2
        go_ret
        exact ⟨by rw [HR.out]; rfl, HB1.out⟩
    · have HR : Hid (q = 1) := HF.out.trans ((if_pos rfl).trans (if_neg (fun h => h1 h.1)))
      have t1 : decide (i < 0) = true := by simp; omega
      clear HF
      go_enter Try.func24, Try.ntmps24
      go_wp2_with (go_at_call 18; go_loud ((with_reducible refine (HX.out _ HB.out).mono ?_); rintro e w1 ⟨rfl, hb⟩; have HB1 := Lib.hid (HB.out.trans (hb.mono HB.out.size)); clear hb))
      go_wp2
      go_ret
      exact ⟨by rw [HR.out]; rfl, HB1.out⟩
end Nt
end Go.Proofs.Ytejolapbdkkdaaa
