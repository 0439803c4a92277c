/-
  gafferref18.Copy; NetOwn.
-/
import Derived.Test.YtejolapbdkkdaaaNetLaw2
namespace Go.Proofs.Ytejolapbdkkdaaa
open Go.RowKit Go.Lib
namespace Nt
open Rw
set_option linter.unusedVariables false
theorem results_cell_one {fn : Func} {p : Tmp} {ty : TypeId} (h : fn.results = #[.cell p ty]) (tmps : Array Value) (P : Program) (w : World) :
    (results fn tmps).run P w = ((asAddr (tmps.getD p undef)).run P w).andThen fun a w₁ => (loadVar ty a).run P w₁ := by
  simp only [results, h]
  simp [Sem.run_bind, Result.andThen]
theorem bodyPost_one {fn : Func} {p : Tmp} (h : fn.results = #[.cell p 24]) {R : Ending → World → Prop} {a : Act} {w : World} (B : Nat) (v : Value) (hd : a.defers = [])
    (hp : a.tmps.getD p undef = .pointer (some ⟨B, 0, none⟩)) (h0 : w.cell? ⟨B, 0, none⟩ = some v) (hR : R (.returned (.agg #[v])) w) : bodyPost Try.prog fn R .ret a w := by
  refine bodyPost_ret ?_ hd hR
  rw [results_cell_one h, hp]
  have := load_net w B v h0
  simp [asAddr, this, Result.andThen]
def CopyIs (w : World) (n : List Pk) (e : Ending) (w' : World) : Prop := ∃ v', e = .returned (.agg #[v']) ∧ OwnP w' w.heap.size v' n ∧ Below w.heap.size w w'
set_option maxRecDepth 100000 in
set_option maxHeartbeats 4000000 in
theorem copy_ref (v : Value) (n : List Pk) (w : World) {A : Nat} (hv : Sl w A w.heap.size v n) : Calls Try.prog 7 #[.agg #[v]] w (CopyIs w n) := by
  have hv2 := hv
  obtain ⟨a, c, rfl, hc0, hnil, hl, hc⟩ := hv
  have HT : Hid (∀ e w' v', e = .returned (.agg #[v']) → OwnP w' w.heap.size v' n → Below w.heap.size w w' → CopyIs w n e w') := fun e w' v' h1 h2 h3 => ⟨v', h1, h2, h3⟩
  obtain ⟨i0, hi, hz0, hz1, hz2⟩ := info_parts info_pk
  obtain ⟨⟨hp0, hp1, hf1⟩, hb0, hs0⟩ := boxes2 w (.slice a n.length c)
  have hbe := hb0.alloc hb0.size (.cells #[] 30)
  have hown := Own.made (α := Pk) ((w.alloc (.cells #[.slice a n.length c] 24)).alloc (.cells #[.slice none 0 0] 24)) 30
  simp only [World.size_alloc] at hown
  have HBE := Lib.hid hbe
  have HOW := Lib.hid hown
  have y0 := cell_old (.cells #[] 30) hp0
  have y1 := cell_old (.cells #[] 30) hp1
  have f1 : (((w.alloc (.cells #[.slice a n.length c] 24)).alloc (.cells #[.slice none 0 0] 24)).alloc (.cells #[] 30)).frozen? ⟨w.heap.size + 1, 0, none⟩ = false := ((al ((w.alloc (.cells #[.slice a n.length c] 24)).alloc (.cells #[.slice none 0 0] 24)) _).frozen (by show w.heap.size + 1 < _; simp)).trans hf1
  clear hb0 hp0 hp1 hf1 hbe hown hs0
  cases a with
  | none =>
    have h0 : n = [] := List.eq_nil_of_length_eq_zero (by have := hnil rfl; omega)
    subst h0
    clear hc hv2 hl hnil hc0
    go_enter Try.func7, Try.ntmps7
    go_wp2
    have q1 := cell_new (w.alloc (.cells #[.slice none 0 c] 24)) (.slice (some ⟨w.heap.size + 1 + 1, 0, none⟩) 0 0) 24
    rw [World.size_alloc] at q1
    have q2 := Own.made (α := Pk) ((w.alloc (.cells #[.slice none 0 c] 24)).alloc (.cells #[.slice (some ⟨w.heap.size + 1 + 1, 0, none⟩) 0 0] 24)) 30
    simp only [World.size_alloc] at q2
    refine bodyPost_one rfl (w.heap.size + 1) (.slice (some ⟨w.heap.size + 1 + 1, 0, none⟩) 0 0) rfl rfl (cell_old _ q1) (HT.out _ _ _ rfl (Own.le q2 (by omega)) ((((Below.refl _ w).alloc (Nat.le_refl _) _).alloc (by simp) _).alloc (by simp; omega) _))
  | some ad =>
    have A := Lib.hid hv2.news
    have hmx : 0 + n.length ≤ maxLen := by simp only [maxLen]; omega
    have HMX := Lib.hid hmx
    have HBY : Hid ((0 + n.length) * 32 ≤ 140737488355328) := by show _ ≤ _; omega
    have hl3 : (flat n).length = n.length * 3 := flat_len n
    have h1 := flat_one n
    clear hc hv2 hnil hc0 hmx
    have H3 := Lib.hid hl3
    have H1 := Lib.hid h1
    clear hl3 h1
    have HF : Hid (∀ (w1 : World) (v' : Value) base, w1.ownsRow base 30 3 v' n.length (flat n) → OwnP w1 base v' n) := fun _ _ _ h => h
    generalize flat n = xs at A H3 H1 HF
    go_enter Try.func7, Try.ntmps7
    go_wp2_with (at_builtin; go_loud (refine wpList_append_own _ rfl _ _ 22 rfl (w.heap.size + 1 + 1) 30 i0 _ 3 32 Try.underlying22 hi hz0 hz1 hz2 rfl (by omega) _ 0 [] rfl HOW.out ad n.length c xs rfl H3.out (fun j u hj => Lib.cell?_alloc_some _ (Lib.cell?_alloc_some _ (Lib.cell?_alloc_some _ (A.out j u hj)))) H1.out HMX.out HBY.out (by simp only [World.size_alloc]; omega) ?_; intro v' w1 hown hgrow hnil; have HO := Lib.hid (HF.out _ _ _ (by simpa using hown)); obtain ⟨a1, c1, rfl⟩ := Own.slice HO.out; have z1 := hgrow.cell y1 (fun e => absurd (Option.some.inj e) (by show w.heap.size + 1 ≠ w.heap.size + 1 + 1; omega)); have g1 := (World.frozen?_of_block (hgrow.block (w.heap.size + 1) (by simp only [World.size_alloc]; omega) (fun e => absurd (Option.some.inj e) (by show w.heap.size + 1 ≠ w.heap.size + 1 + 1; omega)))).trans f1; have HB1 := Lib.hid (HBE.out.grown hgrow (by simp only [World.size_alloc]; omega) (fun k hk => by have h7 : w.heap.size + 1 + 1 = k := Option.some.inj hk; omega)); clear hown hgrow hnil))
    go_wp2
    refine bodyPost_one rfl (w.heap.size + 1) (.slice a1 n.length c1) rfl rfl (World.cell?_setCell_same _ _ _ z1) (HT.out _ _ _ rfl ?_ (HB1.out.setCell (p := ⟨w.heap.size + 1, 0, none⟩) (by show w.heap.size ≤ w.heap.size + 1; omega) _))
    exact Own.le (own_put HO.out (fun e => by have := (Own.lt HO.out _ e).1; omega)) (by omega)
end Nt
end Go.Proofs.Ytejolapbdkkdaaa
