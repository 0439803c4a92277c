/-
  WHAT TopFull's STEPS COME TO, as plain data; the best of loads that are all right.
-/
import Derived.Test.YthbmnkeigmbbdaaGreatScPlan
import Derived.Test.YthbmnkeigmbbdaaGreatBgA
namespace Go.Proofs.YthbmnkeigmbbdaaGreat
open Go.RowKit Go.Lib
namespace Bo
open Rw
set_option linter.unusedVariables false
section
variable {te : Nat} {E F : Rg.Ld → Nat} {V : Rg.Ld → Int} {l : List Rg.Ld}
theorem bestK_some {ok : Nat → Bool} {v : Nat → Int} {lt : Nat → Nat → Bool} : ∀ k i, i < k → ok i = true → Rg.bestK ok v lt k ≠ none
  | 0, i, h, _ => absurd h (Nat.not_lt_zero i)
  | k + 1, i, h, hi => by
    unfold Rg.bestK
    by_cases hk : ok k = true
    · rw [if_pos hk]
      cases Rg.bestK ok v lt k with
      | none => simp
      | some b => dsimp only; split <;> simp
    · rw [if_neg hk]
      refine bestK_some k i ?_ hi
      rcases Nat.lt_succ_iff_lt_or_eq.1 h with h | rfl
      · exact h
      · exact absurd hi hk
theorem badK_0 (h : ∀ x ∈ l, F x = 0) : ∀ k, Rg.badK F l k = 0
  | 0 => rfl
  | k + 1 => by
    unfold Rg.badK
    rw [badK_0 h k, if_pos rfl]
    cases hx : l[k]? with
    | none => rfl
    | some x => exact h x (List.mem_of_getElem? hx)
theorem bestE_0 (ht : te = 0) (hD : ∀ x ∈ l, F x = 0) (hE : ∀ x ∈ l, E x = 0) : Rg.bestE te F E V l = if l.length = 0 then 13 else 0 := by
  unfold Rg.bestE
  rw [if_pos ht, badK_0 hD, if_pos rfl]
  by_cases h0 : l.length = 0
  · rw [if_pos h0, h0]; rfl
  · rw [if_neg h0]
    have hp : 0 < l.length := Nat.pos_of_ne_zero h0
    have hs := bestK_some (ok := Rg.okSc E l) (v := Rg.vK V l) (lt := Rg.ltK l) l.length 0 hp (by
      unfold Rg.okSc
      rw [List.getElem?_eq_getElem hp]
      exact decide_eq_true (hE _ (List.getElem_mem hp)))
    unfold Rg.bestN
    cases hb : Rg.bestK (Rg.okSc E l) (Rg.vK V l) (Rg.ltK l) l.length with
    | none => exact absurd hb hs
    | some b => rfl
end
/-- A right book's load of a node is right; a task that can be on it has a score there. -/
theorem load_ok {b : Bk} (h : RB b) {x : NdM} (hn : x.nd ∈ b.ns) : Rg.ldE (toLd (mkL b x)) = 0 := by
  have h1 : erN x.nd = 0 := of_decide_eq_true (h.kn _ hn)
  have hh : hasK (b.ns.map (·.n)) x.nd.n = true := has_iff.2 (List.mem_map_of_mem hn)
  have h2 := h.ro x.nd.n hh
  have h3 := h.lists.used x.nd.n
  have h4 : nOf b.ns x.nd.n = x.nd := nOf_at h.rn hn
  rw [h4] at h2
  unfold erN at h1
  show Rg.loadE x.nd.n x.nd.z0 x.nd.z1 x.nd.z2 x.nd.ls x.nd.ts (us0 b x.nd.n) (us1 b x.nd.n) (us2 b x.nd.n) = 0
  unfold Rg.loadE
  rw [if_pos h1]
  unfold Rg.usedE
  refine if_pos ?_
  unfold Rg.usedB Rg.inB
  simp only [Bool.and_eq_true, decide_eq_true_eq]
  omega
theorem score_ok {b : Bk} (h : RB b) {x : NdM} (hn : x.nd ∈ b.ns) {t : Hd.Td} (ht : t ∈ b.ts) (hc : canE b t.n x.nd.n = 0) : Rg.scE (erT t) t.ws t.bs t.z0 t.z1 t.z2 (toLd (mkL b x)) = 0 := by
  obtain ⟨-, -, h3, h4, -⟩ := can0.1 hc
  rw [tOf_at h.rt ht, nOf_at h.rn hn] at h3 h4
  exact (Rg.fitE_0 _ _ _ _).2 ⟨of_decide_eq_true (h.kt _ ht), load_ok h hn, h3, h4⟩
theorem loads_rowD {w : World} {base : Nat} {v : Value} {l : List LdM} (h : Own w base 47 v l) (hl : l.length ≤ 4096) (hn : ∀ y ∈ l, DeepN w w.heap.size y.x ∧ FitN y.x.nd) : Rg.Loads w w.heap.size v (l.map toLd) := by
  obtain ⟨a, c, rfl, h1, h2, h3, h4⟩ := h.sl (by omega)
  refine ⟨a, c, by rw [List.length_map], by rw [List.length_map]; omega, fun x hx => ?_, fun hp => ?_⟩
  · obtain ⟨y, hy, rfl⟩ := List.mem_map.1 hx
    obtain ⟨o1, o2⟩ := hn y hy
    have hd := o1.pr o2
    exact ⟨o2.1, hd.1, hd.2⟩
  · rw [List.length_map] at hp
    obtain ⟨g, off, rfl, -, hlt, hc⟩ := h4 hp
    refine ⟨g, off, rfl, hlt, fun i hi => ?_⟩
    rw [List.length_map] at hi
    simp only [List.getElem_map]
    exact at_ld (show At w g (off + i * 9) l[i] from hc i hi)
/-- The best of loads on each of which the task can be. -/
theorem best_at {b : Bk} (h : RB b) (x : TdM) (hx : x.td ∈ b.ts) (lm : List NdM) (hlm : ∀ y ∈ lm, y.nd ∈ b.ns ∧ canE b x.td.n y.nd.n = 0) {base : Nat} (v : Value) (w : World) (hO : Own w base 47 v (lm.map (mkL b))) (hl : lm.length ≤ 4096) (hn : ∀ y ∈ lm, DeepN w w.heap.size y ∧ FitN y.nd) (hdt : DeepT w w.heap.size x) (hft : FitT x.td) :
    Calls Tryz.prog 32 #[.agg #[.string x.td.n, .int .i64 x.td.z0, .int .i64 x.td.z1, .int .i64 x.td.z2, .slice x.a4 x.td.ws.length x.c4, .slice x.a5 x.td.bs.length x.c5, .string x.td.g, .string x.td.a, .int .i64 x.td.r], v] w fun e w' => ∃ i : Nat, e = .returned (.tuple #[.int .i64 (i : Nat), .int .i64 ((if lm.length = 0 then 13 else 0 : Nat) : Nat)]) ∧ (lm.length ≠ 0 → i < lm.length) ∧ Below w.heap.size w w' := by
  have hlr := loads_rowD hO (by rw [List.length_map]; exact hl) (fun y hy => by
    obtain ⟨z, hz, rfl⟩ := List.mem_map.1 hy
    exact hn z hz)
  refine (Rg.best_of x.td.n x.td.g x.td.a x.td.z0 x.td.z1 x.td.z2 x.td.r x.a4 x.a5 x.td.ws.length x.c4 x.td.bs.length x.c5 x.td.ws x.td.bs ((lm.map (mkL b)).map toLd) v w hlr hft.1 (hdt.pr hft).1 (hdt.pr hft).2).mono ?_
  rintro e w' ⟨he, hb⟩
  have hte : Rg.taskE x.td.n x.td.g x.td.a x.td.z0 x.td.z1 x.td.z2 x.td.r x.td.ws x.td.bs = 0 := of_decide_eq_true (h.kt _ hx)
  have hbe := bestE_0 (V := Rg.scV x.td.z0 x.td.z1 x.td.z2) (F := Rg.ldE) (E := Rg.scE (Rg.taskE x.td.n x.td.g x.td.a x.td.z0 x.td.z1 x.td.z2 x.td.r x.td.ws x.td.bs) x.td.ws x.td.bs x.td.z0 x.td.z1 x.td.z2) (l := (lm.map (mkL b)).map toLd) hte (fun y hy => by
    obtain ⟨u, hu, rfl⟩ := List.mem_map.1 hy
    obtain ⟨z, hz, rfl⟩ := List.mem_map.1 hu
    exact load_ok h (hlm z hz).1) (fun y hy => by
    obtain ⟨u, hu, rfl⟩ := List.mem_map.1 hy
    obtain ⟨z, hz, rfl⟩ := List.mem_map.1 hu
    exact score_ok h (hlm z hz).1 hx (hlm z hz).2)
  have hlen : ((lm.map (mkL b)).map toLd).length = lm.length := by rw [List.length_map, List.length_map]
  unfold Rg.BestIs at he
  rw [hbe, hlen] at he
  exact ⟨_, he, fun h0 => by rw [← hlen]; exact best_lt _ _ _ _ _ (by rw [hlen]; omega), hb⟩
/-! ### What the orders do -/
def oNde (n : Hd.Nd) : Hd.Cd := lvO n Hd.td0 1 ⟨#[]⟩ ⟨#[]⟩ 0
def oTsk (t : Hd.Td) : Hd.Cd := lvO Hd.nd0 t 3 ⟨#[]⟩ ⟨#[]⟩ 0
theorem do_nde {b : Bk} (h : chkB b = true) (n : Hd.Nd) : doF b (oNde n) = ((adN b n).1, (adN b n).2, ByteArray.empty) := by
  unfold doF
  rw [if_pos h]
  unfold doV
  rw [if_pos (show Hd.coB (oNde n) = true from rfl), if_neg (show ¬ (oNde n).k = 7 from by show ¬ (1 : Nat) = 7; decide)]
  rfl
theorem do_tsk {b : Bk} (h : chkB b = true) (t : Hd.Td) : doF b (oTsk t) = ((adT b t).1, (adT b t).2, ByteArray.empty) := by
  unfold doF
  rw [if_pos h]
  unfold doV
  rw [if_pos (show Hd.coB (oTsk t) = true from rfl), if_neg (show ¬ (oTsk t).k = 7 from by show ¬ (3 : Nat) = 7; decide)]
  rfl
theorem adN_fe (b : Bk) (n : Hd.Nd) : (adN b n).1.fe = b.fe := by unfold adN; (repeat' split) <;> rfl
theorem chk0 : chkB bk0 = true := chk_of_rb rb0
/-- A task that is put is there, and waits. -/
theorem put_tsk {b : Bk} (hc : chkB b = true) {t : Hd.Td} (h0 : (adT b t).2 = 0) : chkB (adT b t).1 = true ∧ (adT b t).1.fe = b.fe ∧ t ∈ (adT b t).1.ts := by
  have hr := (rb_of_chk hc).adT t
  refine ⟨chk_of_rb hr, ?_, ?_⟩
  · unfold adT; (repeat' split) <;> rfl
  · unfold adT at h0 ⊢
    split at h0
    · rename_i he
      split at h0
      · cases h0
      · rename_i hh
        split at h0
        · cases h0
        · rename_i hl
          rw [if_pos he, if_neg hh, if_neg hl]
          exact in_mem.2 (.inl rfl)
    · rename_i he
      exact absurd h0 he
/-- A bind at a place where it can be. -/
theorem put_bnd {b : Bk} (hc : chkB b = true) (hf : b.fe = 0) {k v : ByteArray} (h0 : canE b k v = 0) : ∃ c, doF b (oBnd k v 0) = (c, 0, ByteArray.empty) ∧ chkB c = true ∧ c.fe = 0 := by
  have hb : biB b k v 0 = (⟨b.ns, b.ts, insR b.bs (lbB b.bs k) ⟨k, v⟩, b.fe⟩, 0) := by
    unfold biB
    rw [if_neg (by omega), if_pos h0]
  exact ⟨_, by rw [do_bnd hc, hb], chk_of_rb ((rb_of_chk hc).bind h0), hf⟩
end Bo
end Go.Proofs.YthbmnkeigmbbdaaGreat
