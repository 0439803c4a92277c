/-
  SCORES of tasks and loads that are there: both Bests put together; the examples.
-/
import Derived.Test.YthnajkpnchaciaaScoreBestR
namespace Go.Proofs.Ythnajkpnchaciaa
open Go.RowKit
namespace Rg
def ldE (x : Ld) : Nat := loadE x.n x.h0 x.h1 x.h2 x.ls x.ts x.u0 x.u1 x.u2
def scE (te : Nat) (ws bs : List Pr) (y0 y1 y2 : Int) (x : Ld) : Nat := fitE te (ldE x) (suitB ws x.ls x.ts bs) (roomB x.h0 x.h1 x.h2 x.u0 x.u1 x.u2 y0 y1 y2)
def scV (y0 y1 y2 : Int) (x : Ld) : Int := sumS x.h0 x.h1 x.h2 x.u0 x.u1 x.u2 y0 y1 y2
theorem scV_in (te : Nat) (ws bs : List Pr) (y0 y1 y2 : Int) (x : Ld) (h : scE te ws bs y0 y1 y2 x = 0) : 0 ≤ scV y0 y1 y2 x ∧ scV y0 y1 y2 x ≤ 3000 :=
  sumS_in _ _ _ _ _ _ _ _ _ ((fitE_0 _ _ _ _).1 h).2.2.2
theorem scE_kinds (ws bs : List Pr) (y0 y1 y2 : Int) (x : Ld) : (scE 0 ws bs y0 y1 y2 x = 0 ∨ scE 0 ws bs y0 y1 y2 x = 13) ∧ ldE x = 0 ∨ scE 0 ws bs y0 y1 y2 x = ldE x ∧ ¬ scE 0 ws bs y0 y1 y2 x = 0 ∧ ¬ scE 0 ws bs y0 y1 y2 x = 13 := by
  have hlt : ldE x ≤ 5 := loadE_lt _ _ _ _ _ _ _ _ _
  unfold scE
  generalize ldE x = le at *
  generalize suitB ws x.ls x.ts bs = s
  generalize roomB x.h0 x.h1 x.h2 x.u0 x.u1 x.u2 y0 y1 y2 = r
  unfold fitE
  rw [if_pos rfl]
  by_cases hl : le = 0
  · left
    subst hl
    cases s <;> cases r <;> simp
  · right
    rw [if_neg hl]
    exact ⟨rfl, hl, by omega⟩
theorem best_of (yn yg ya : ByteArray) (y0 y1 y2 yr : Int) (ywa yba : Option Addr) (ywn ywc ybn ybc : Nat) (ws bs : List Pr) (l : List Ld) (v : Value) (w : World) (hl : Loads w w.heap.size v l) (hy : yn.size ≤ maxLen ∧ yg.size ≤ maxLen ∧ ya.size ≤ maxLen)
    (h1 : Pairs w w.heap.size (.slice ywa ywn ywc) ws) (h2 : Pairs w w.heap.size (.slice yba ybn ybc) bs) :
    Calls Try.prog 14 #[.agg #[.string yn, .int .i64 y0, .int .i64 y1, .int .i64 y2, .slice ywa ywn ywc, .slice yba ybn ybc, .string yg, .string ya, .int .i64 yr], v] w fun e w' => BestIs (taskE yn yg ya y0 y1 y2 yr ws bs) ldE (scE (taskE yn yg ya y0 y1 y2 yr ws bs) ws bs y0 y1 y2) (scV y0 y1 y2) l e ∧ Below w.heap.size w w' := by
  have hm : ∀ x ∈ l, x.n.size ≤ maxLen ∧ Pairs w w.heap.size (.slice x.la x.ls.length x.lc) x.ls ∧ Pairs w w.heap.size (.slice x.ta x.ts.length x.tc) x.ts := by
    obtain ⟨_, _, _, _, h, _⟩ := hl
    exact h
  refine best_any yn yg ya y0 y1 y2 yr ywa yba ywn ywc ybn ybc _ ldE _ _ l v w hl (fun z hb => task_any yn yg ya y0 y1 y2 yr ywa yba ywn ywc ybn ybc ws bs z hy (h1.ovr hb) (h2.ovr hb)) (fun _ x hx z hb => ?_) (fun _ x _ h => (scV_in _ _ _ _ _ _ _ h).1) (fun h x _ => ?_)
  · obtain ⟨m1, m2, m3⟩ := hm x hx
    exact score_any yn yg ya y0 y1 y2 yr ywa yba ywn ywc ybn ybc x.n x.h0 x.h1 x.h2 x.la x.ta x.ls.length x.lc x.ts.length x.tc x.u0 x.u1 x.u2 ws bs x.ls x.ts z m1 hy (h1.ovr hb) (h2.ovr hb) (m2.ovr hb) (m3.ovr hb)
  · rw [h]
    exact scE_kinds ws bs y0 y1 y2 x
theorem best_of_ref (yn yg ya : ByteArray) (y0 y1 y2 yr : Int) (ywa yba : Option Addr) (ywn ywc ybn ybc : Nat) (ws bs : List Pr) (l : List Ld) (v : Value) (w : World) (hl : Loads w w.heap.size v l) (hy : yn.size ≤ maxLen ∧ yg.size ≤ maxLen ∧ ya.size ≤ maxLen)
    (h1 : Pairs w w.heap.size (.slice ywa ywn ywc) ws) (h2 : Pairs w w.heap.size (.slice yba ybn ybc) bs) :
    Calls Try.prog 15 #[.agg #[.string yn, .int .i64 y0, .int .i64 y1, .int .i64 y2, .slice ywa ywn ywc, .slice yba ybn ybc, .string yg, .string ya, .int .i64 yr], v] w fun e w' => BestIs (taskE yn yg ya y0 y1 y2 yr ws bs) ldE (scE (taskE yn yg ya y0 y1 y2 yr ws bs) ws bs y0 y1 y2) (scV y0 y1 y2) l e ∧ Below w.heap.size w w' := by
  have hm : ∀ x ∈ l, x.n.size ≤ maxLen ∧ Pairs w w.heap.size (.slice x.la x.ls.length x.lc) x.ls ∧ Pairs w w.heap.size (.slice x.ta x.ts.length x.tc) x.ts := by
    obtain ⟨_, _, _, _, h, _⟩ := hl
    exact h
  refine best_ref yn yg ya y0 y1 y2 yr ywa yba ywn ywc ybn ybc _ ldE _ _ l v w hl (fun z hb => task_ref yn yg ya y0 y1 y2 yr ywa yba ywn ywc ybn ybc ws bs z hy (h1.ovr hb) (h2.ovr hb)) (fun _ x hx z hb => ?_) (fun _ x hx z hb => ?_) (fun _ x _ h => (scV_in _ _ _ _ _ _ _ h).1)
  · obtain ⟨m1, m2, m3⟩ := hm x hx
    exact lcheck_ref x.n x.h0 x.h1 x.h2 x.la x.ta x.ls.length x.lc x.ts.length x.tc x.u0 x.u1 x.u2 x.ls x.ts z m1 (m2.ovr hb) (m3.ovr hb)
  · obtain ⟨m1, m2, m3⟩ := hm x hx
    exact score_ref yn yg ya y0 y1 y2 yr ywa yba ywn ywc ybn ybc x.n x.h0 x.h1 x.h2 x.la x.ta x.ls.length x.lc x.ts.length x.tc x.u0 x.u1 x.u2 ws bs x.ls x.ts z m1 hy (h1.ovr hb) (h2.ovr hb) (m2.ovr hb) (m3.ovr hb)
/-- The examples' loads. -/
def lvL : Ld := ⟨⟨#[110]⟩, 4, 2, 1, none, 0, none, 0, 1, 0, 0, [], []⟩
def lvM : Ld := ⟨⟨#[109]⟩, 0, 0, 0, none, 0, none, 0, 0, 0, 0, [], []⟩
theorem lv_task : taskE ⟨#[116]⟩ ⟨#[]⟩ ⟨#[]⟩ 1 1 1 0 [] [] = 0 := by decide +kernel
theorem lv_e : bestE 0 ldE (scE 0 [] [] 1 1 1) (scV 1 1 1) [lvM, lvL] = 0 := by decide +kernel
theorem lv_v : bestV 0 ldE (scE 0 [] [] 1 1 1) (scV 1 1 1) [lvM, lvL] = 1 := by decide +kernel
theorem lv_e0 : bestE 0 ldE (scE 0 [] [] 1 1 1) (scV 1 1 1) [] = 13 := by decide +kernel
theorem lv_v0 : bestV 0 ldE (scE 0 [] [] 1 1 1) (scV 1 1 1) [] = 0 := by decide +kernel
theorem lv_s : fitE (taskE ⟨#[116]⟩ ⟨#[]⟩ ⟨#[]⟩ 1 1 1 0 [] []) (loadE ⟨#[110]⟩ 4 2 1 [] [] 1 0 0) (suitB [] [] [] []) (roomB 4 2 1 1 0 0 1 1 1) = 0 := by decide +kernel
theorem lv_sum : sumS 4 2 1 1 0 0 1 1 1 = 2000 := by decide +kernel
set_option maxRecDepth 100000 in
theorem lv_loads (w : World) : Loads (w.alloc (.cells #[.string ⟨#[109]⟩, .int .i64 0, .int .i64 0, .int .i64 0, .slice none 0 0, .slice none 0 0, .int .i64 0, .int .i64 0, .int .i64 0, .string ⟨#[110]⟩, .int .i64 4, .int .i64 2, .int .i64 1, .slice none 0 0, .slice none 0 0, .int .i64 1, .int .i64 0, .int .i64 0] 29)) (w.alloc (.cells #[.string ⟨#[109]⟩, .int .i64 0, .int .i64 0, .int .i64 0, .slice none 0 0, .slice none 0 0, .int .i64 0, .int .i64 0, .int .i64 0, .string ⟨#[110]⟩, .int .i64 4, .int .i64 2, .int .i64 1, .slice none 0 0, .slice none 0 0, .int .i64 1, .int .i64 0, .int .i64 0] 29)).heap.size (.slice (some ⟨w.heap.size, 0, none⟩) 2 2) [lvM, lvL] := by
  refine ⟨_, _, rfl, by simp, fun x hx => ?_, fun _ => ⟨_, _, rfl, by simp, fun i hi => ?_⟩⟩
  · simp only [List.mem_cons, List.not_mem_nil, or_false] at hx
    rcases hx with rfl | rfl <;> exact ⟨by decide, Pairs.none_ _ _, Pairs.none_ _ _⟩
  · have h2 : i = 0 ∨ i = 1 := by simp at hi; omega
    rcases h2 with rfl | rfl <;> simp [go_sem, lvM, lvL]
set_option maxRecDepth 100000 in
set_option maxHeartbeats 4000000 in
theorem lives_true (w : World) : Calls Try.prog 11 #[] w fun e w' => e = .returned (.bool true) ∧ Below w.heap.size w w' := by
  have K1 : Hid (∀ z, Calls Try.prog 9 #[.agg #[.string ⟨#[116]⟩, .int .i64 1, .int .i64 1, .int .i64 1, .slice none 0 0, .slice none 0 0, .string ⟨#[]⟩, .string ⟨#[]⟩, .int .i64 0], .agg #[.string ⟨#[110]⟩, .int .i64 4, .int .i64 2, .int .i64 1, .slice none 0 0, .slice none 0 0, .int .i64 1, .int .i64 0, .int .i64 0]] z fun e w' => e = .returned (.tuple #[.int .i64 2000, .int .i64 0]) ∧ Below z.heap.size z w') := by
    intro z
    refine (score_any _ _ _ _ _ _ _ _ _ _ _ _ _ _ _ _ _ _ _ _ _ _ _ _ _ _ [] [] [] [] z (by decide) (by decide) (Pairs.none_ _ _) (Pairs.none_ _ _) (Pairs.none_ _ _) (Pairs.none_ _ _)).mono fun e w' ⟨he, hb⟩ => ⟨?_, hb⟩
    unfold ScoreIs at he
    rw [lv_s, lv_sum] at he
    exact he
  have K2 : Hid (∀ z v, Loads z z.heap.size v [lvM, lvL] → Calls Try.prog 14 #[.agg #[.string ⟨#[116]⟩, .int .i64 1, .int .i64 1, .int .i64 1, .slice none 0 0, .slice none 0 0, .string ⟨#[]⟩, .string ⟨#[]⟩, .int .i64 0], v] z fun e w' => e = .returned (.tuple #[.int .i64 1, .int .i64 0]) ∧ Below z.heap.size z w') := by
    intro z v hv
    refine (best_of _ _ _ _ _ _ _ _ _ _ _ _ _ [] [] _ v z hv (by decide) (Pairs.none_ _ _) (Pairs.none_ _ _)).mono fun e w' ⟨he, hb⟩ => ⟨?_, hb⟩
    unfold BestIs at he
    rw [lv_task, lv_e, lv_v] at he
    exact he
  have K3 : Hid (∀ z, Calls Try.prog 14 #[.agg #[.string ⟨#[116]⟩, .int .i64 1, .int .i64 1, .int .i64 1, .slice none 0 0, .slice none 0 0, .string ⟨#[]⟩, .string ⟨#[]⟩, .int .i64 0], .slice none 0 0] z fun e w' => e = .returned (.tuple #[.int .i64 0, .int .i64 13]) ∧ Below z.heap.size z w') := by
    intro z
    refine (best_of _ _ _ _ _ _ _ _ _ _ _ _ _ [] [] [] _ z (Loads.none_ _ _) (by decide) (Pairs.none_ _ _) (Pairs.none_ _ _)).mono fun e w' ⟨he, hb⟩ => ⟨?_, hb⟩
    unfold BestIs at he
    rw [lv_task, lv_e0, lv_v0] at he
    exact he
  have HB0 := Lib.hid (fun o o' => two w o o')
  go_enter Try.func11, Try.ntmps11
  go_wp2_with fail
  refine (K1.out _).mono ?_
  rintro e w1 ⟨rfl, hb⟩
  obtain ⟨c0, c1, hbw⟩ := boxedL hb
  have HW1 := Lib.hid hbw
  have hz1 := hb.size
  simp at hz1
  clear hb hbw
  have HL := Lib.hid (lv_loads w1)
  go_wp2_with fail
  refine (K2.out _ _ HL.out).mono ?_
  rintro e w2 ⟨rfl, hb⟩
  have HW2 := Lib.hid ((HW1.out.alloc (by omega) _).trans (hb.mono (by simp; omega)))
  have hz2 := hb.size
  simp at hz2
  have d0 : ∀ i, w2.cell? ⟨w.heap.size, i, none⟩ = #[.string ⟨#[116]⟩, .int .i64 1, .int .i64 1, .int .i64 1, .slice none 0 0, .slice none 0 0, .string ⟨#[]⟩, .string ⟨#[]⟩, .int .i64 0][i]? := fun i => by rw [hb.cell (by simp; omega), World.cell?_alloc_lt _ _ _ (by show w.heap.size < _; omega)]; exact c0 i
  clear hb c0 c1 HL
  go_wp2_with fail
  refine (K3.out _).mono ?_
  rintro e w3 ⟨rfl, hb⟩
  have HW3 := Lib.hid (HW2.out.trans (hb.mono (by omega)))
  clear hb d0
  go_wp2
  go_ret
  exact ⟨by simp, HW3.out⟩
end Rg
end Go.Proofs.Ythnajkpnchaciaa
