/-
  net.Take, Give, Twice; Send of a net that is not right.
-/
import Derived.Test.YtejolapbdkkdaaaNetSend
import Derived.Deep.RegionLaw
import Derived.Shelf.Abstract
namespace Go.Proofs.Ytejolapbdkkdaaa
open Go.RowKit Go.Lib
namespace Nt
open Rw
set_option linter.unusedVariables false
section
variable {P : Program} {w : World} {ops : Array Oper} {o : Oper} {a : Act} {K : Act → World → Prop} {Q : Exit → Act → World → Prop} {E : Prop}
/-- A call of a Go function within a region that draws. -/
theorem step_go {xs : List Operand} {tys : Array TypeId} {R : Ending → World → Prop} (hg : o.guard = none) (fn : FuncId) (hop : o.op = Op.call { callee := Callee.value (Operand.func fn), args := xs.toArray, argTypes := tys })
    (hE : ∀ args w, (callFunc fn args).run P w = .ok (.enter fn args) w) (vs : List Value) (hx : xs.map a.eval = vs) (hc : Calls P fn vs.toArray w R) (hK : ∀ e w', R e w' → ∃ u, e = .returned u ∧ K (a.put o.dst u) w') :
    if Region.wanted o (yielded ops a.tmps) = true then Oper.wp P o a w K Q else E := by
  have hw : Region.wanted o (yielded ops a.tmps) = true := by simp [Region.wanted, hg]
  rw [if_pos hw]
  have hr : (execOp a.eval o).run P w = .ok (.enter fn vs.toArray) w := by
    subst hx
    simp [go_sem, execOp, hop, resolve, invoke, hE]
  unfold Oper.wp
  rw [hr]
  refine (show Calls P fn vs.toArray w _ from hc.mono fun e w' hR => ?_)
  obtain ⟨u, rfl, hk⟩ := hK e w' hR
  exact hk
/-- An append to a row of the call's own within a region that draws. -/
theorem step_append_own1 (hg : o.guard = none) (s x : Operand) (t : TypeId) (hop : o.op = .call { callee := .builtin .append, args := #[s, x], argTypes := #[t, t] })
    (base : Nat) (e : TypeId) (i : TypeInfo) (z : Value) (size bytes : Nat) (ht : P.underlying t = some (.slice e)) (hi : P.info? e = some i) (hz : i.zero = some z)
    (hsize : i.size = size) (hby : i.bytes = bytes) (hzs : z.cells.size = size) (hsz : 0 < size)
    (v : Value) (n : Nat) (xs : List Value) (hs : a.eval s = v) (hown : w.ownsRow base e size v n xs)
    (ad : Addr) (m c : Nat) (news : List Value) (hx : a.eval x = .slice (some ad) m c) (hl : news.length = m * size) (hnews : ∀ j u, news[j]? = some u → w.cell? (ad.add j) = some u) (h1 : ∀ u ∈ news, u.oneCell' = true)
    (h63 : n + m ≤ maxLen) (hbytes : (n + m) * bytes ≤ 140737488355328) (hbase : base ≤ w.heap.size)
    (h : ∀ v' w', w'.ownsRow base e size v' (n + m) (xs ++ news) → w.grownBy w' v.ownBlock → (v'.ownBlock = v.ownBlock ∨ v'.ownBlock = some w.heap.size) → K (a.put o.dst v') w') :
    if Region.wanted o (yielded ops a.tmps) = true then Oper.wp P o a w K Q else E := by
  obtain ⟨v', w', hr, h2, h3, h4, h5⟩ := run_append_own_at (P := P) w base t o.type e i z size bytes ht hi hz hsize hby hzs hsz v n xs hown ad m c news hl hnews h1 h63 hbytes hbase
  exact step_append_runI hg s x t t hop v (.slice (some ad) m c) hs hx hr (h v' w' h2 h3 h5)
end
theorem load_pk (w : World) (B : Nat) (f t : Int) (d : ByteArray) (h0 : w.cell? ⟨B, 0, none⟩ = some (.int .i64 f)) (h1 : w.cell? ⟨B, 1, none⟩ = some (.int .i64 t)) (h2 : w.cell? ⟨B, 2, none⟩ = some (.string d)) :
    (loadVar 30 ⟨B, 0, none⟩).run Try.prog w = .ok (.agg #[.int .i64 f, .int .i64 t, .string d]) w := by
  have a := Try.isAgg30 w
  have b := Try.sizeOf30 w
  go_simp
theorem results_cells_tmp {fn : Func} {p u x : Tmp} {ty ty2 : TypeId} (h : fn.results = #[.cell p ty, .cell u ty2, .tmp x]) (tmps : Array Value) (P : Program) (w : World) :
    (results fn tmps).run P w = ((asAddr (tmps.getD p undef)).run P w).andThen fun a w₁ => ((loadVar ty a).run P w₁).andThen fun v w₂ => ((asAddr (tmps.getD u undef)).run P w₂).andThen fun a2 w₃ => ((loadVar ty2 a2).run P w₃).andThen fun v2 w₄ => .ok (.tuple #[v, v2, tmps.getD x undef]) w₄ := by
  simp only [results, h]
  simp [Sem.run_bind, Result.andThen]
theorem bodyPost_give {fn : Func} {p u x : Tmp} (h : fn.results = #[.cell p 24, .cell u 30, .tmp x]) {R : Ending → World → Prop} {a : Act} {w : World} (B B2 : Nat) (v : Value) (f t : Int) (d : ByteArray) (hd : a.defers = [])
    (hp : a.tmps.getD p undef = .pointer (some ⟨B, 0, none⟩)) (hu : a.tmps.getD u undef = .pointer (some ⟨B2, 0, none⟩)) (h0 : w.cell? ⟨B, 0, none⟩ = some v)
    (k0 : w.cell? ⟨B2, 0, none⟩ = some (.int .i64 f)) (k1 : w.cell? ⟨B2, 1, none⟩ = some (.int .i64 t)) (k2 : w.cell? ⟨B2, 2, none⟩ = some (.string d))
    (hR : R (.returned (.tuple #[.agg #[v], .agg #[.int .i64 f, .int .i64 t, .string d], a.tmps.getD x undef])) w) : bodyPost Try.prog fn R .ret a w := by
  refine bodyPost_ret ?_ hd hR
  rw [results_cells_tmp h, hp, hu]
  have := load_net w B v h0
  have := load_pk w B2 f t d k0 k1 k2
  simp [asAddr, *, Result.andThen]
theorem bodyPost_net2 {fn : Func} {p u : Tmp} (h : fn.results = #[.cell p 24, .tmp u]) {R : Ending → World → Prop} {a : Act} {w : World} (B : Nat) (v : Value) (hd : a.defers = [])
    (hp : a.tmps.getD p undef = .pointer (some ⟨B, 0, none⟩)) (h0 : w.cell? ⟨B, 0, none⟩ = some v)
    (hR : R (.returned (.tuple #[.agg #[v], a.tmps.getD u undef])) w) : bodyPost Try.prog fn R .ret a w := by
  refine bodyPost_ret ?_ hd hR
  rw [results_cell_tmp h, hp]
  have := load_net w B v h0
  simp [asAddr, this, Result.andThen]
theorem results_tmp_cell_tmp {fn : Func} {p u x : Tmp} {ty : TypeId} (h : fn.results = #[.tmp u, .cell p ty, .tmp x]) (tmps : Array Value) (P : Program) (w : World) :
    (results fn tmps).run P w = ((asAddr (tmps.getD p undef)).run P w).andThen fun a w₁ => ((loadVar ty a).run P w₁).andThen fun v w₂ => .ok (.tuple #[tmps.getD u undef, v, tmps.getD x undef]) w₂ := by
  simp only [results, h]
  simp [Sem.run_bind, Result.andThen]
theorem bodyPost_take {fn : Func} {p u x : Tmp} (h : fn.results = #[.tmp u, .cell p 24, .tmp x]) {R : Ending → World → Prop} {a : Act} {w : World} (B : Nat) (v : Value) (hd : a.defers = [])
    (hp : a.tmps.getD p undef = .pointer (some ⟨B, 0, none⟩)) (h0 : w.cell? ⟨B, 0, none⟩ = some v)
    (hR : R (.returned (.tuple #[a.tmps.getD u undef, .agg #[v], a.tmps.getD x undef])) w) : bodyPost Try.prog fn R .ret a w := by
  refine bodyPost_ret ?_ hd hR
  rw [results_tmp_cell_tmp h, hp]
  have := load_net w B v h0
  simp [asAddr, this, Result.andThen]
/-- What Take answers. -/
def TakeIs (w : World) (n : List Pk) (e : Ending) (w' : World) : Prop :=
  ∃ v', e = .returned (.tuple #[v', .agg #[.slice none 0 0], .int .i64 (errN n)]) ∧ OwnP w' w.heap.size v' (if netB n then n else []) ∧ Below w.heap.size w w'
set_option maxHeartbeats 2000000 in
theorem take_own (va : Value) (n : List Pk) (w : World) {A : Nat} (hn : Sl w A w.heap.size va n) : Calls Try.prog 16 #[.agg #[va]] w (TakeIs w n) := by
  have HX : Hid (∀ z, Below w.heap.size w z → Calls Try.prog 18 #[.agg #[va]] z fun e w' => e = .returned (.int .i64 (errN n)) ∧ Below z.heap.size z w') := fun z hz => check_own va n z (hn.on hz)
  have HC : Hid (∀ z, Below w.heap.size w z → Calls Try.prog 22 #[va] z fun e w' => ∃ v', e = .returned v' ∧ OwnP w' z.heap.size v' n ∧ Below z.heap.size z w') := fun z hz => clone_own va n z (hn.on hz)
  obtain ⟨a, c, rfl⟩ := hn.slice
  clear hn
  have HT : Hid (∀ v' e w', e = .returned (.tuple #[v', .agg #[.slice none 0 0], .int .i64 (errN n)]) → OwnP w' w.heap.size v' (if netB n then n else []) → Below w.heap.size w w' → TakeIs w n e w') := fun v' e w' h1 h2 h3 => ⟨v', h1, h2, h3⟩
  have HB := Lib.hid (((Below.refl _ w).alloc (Nat.le_refl _) (.cells #[.slice a n.length c] 24)).alloc (by simp) (.cells #[.slice none 0 0] 24))
  have HE : Hid (errN n = if netB n then 0 else 10) := rfl
  have HP0 := Lib.hid (cell_old (.cells #[.slice none 0 0] 24) (cell_new w (.slice a n.length c) 24))
  have HP1 : Hid (((w.alloc (.cells #[.slice a n.length c] 24)).alloc (.cells #[.slice none 0 0] 24)).cell? ⟨w.heap.size + 1, 0, none⟩ = some (.slice none 0 0)) := by
    have := cell_new (w.alloc (.cells #[.slice a n.length c] 24)) (.slice none 0 0) 24
    rw [World.size_alloc] at this
    exact this
  have HF1 : Hid (((w.alloc (.cells #[.slice a n.length c] 24)).alloc (.cells #[.slice none 0 0] 24)).frozen? ⟨w.heap.size + 1, 0, none⟩ = false) := by
    have := heap_alloc_new (w.alloc (.cells #[.slice a n.length c] 24)) (.cells #[.slice none 0 0] 24)
    rw [World.size_alloc] at this
    exact frozen_of_row _ _ 0 _ _ this
  have HZ : Hid (w.heap.size + 1 < ((w.alloc (.cells #[.slice a n.length c] 24)).alloc (.cells #[.slice none 0 0] 24)).heap.size) := by show _ < _; simp
  have HZ0 : Hid (w.heap.size < ((w.alloc (.cells #[.slice a n.length c] 24)).alloc (.cells #[.slice none 0 0] 24)).heap.size) := by show _ < _; simp; omega
  cases hq : netB n
  · rw [hq] at HT HE
    have HE2 : Hid (errN n = 10) := HE.out
    rw [HE2.out] at HX HT
    clear HE hq HC
    go_enter Try.func16, Try.ntmps16
    go_wp2_with (go_at_call 18; go_loud ((with_reducible refine (HX.out _ HB.out).mono ?_); rintro e w1 ⟨rfl, hb⟩; have HB1 := Lib.hid (HB.out.trans (hb.mono HB.out.size)); have y1 := (hb.cell (p := ⟨w.heap.size + 1, 0, none⟩) HZ.out).trans HP1.out; have f1 := (hb.frozen (p := ⟨w.heap.size + 1, 0, none⟩) HZ.out).trans HF1.out; clear hb))
    go_wp2
    refine bodyPost_take (u := 2) (x := 4) rfl (w.heap.size + 1) (.slice none 0 0) rfl rfl (World.cell?_setCell_same _ _ _ y1) (HT.out _ _ _ rfl (Own.nil _ _ _) (HB1.out.setCell (by show w.heap.size ≤ w.heap.size + 1; omega) _))
  · rw [hq] at HT HE
    have HE2 : Hid (errN n = 0) := HE.out
    rw [HE2.out] at HX HT
    clear HE hq
    go_enter Try.func16, Try.ntmps16
    go_wp2_with (go_at_call 18; go_loud ((with_reducible refine (HX.out _ HB.out).mono ?_); rintro e w1 ⟨rfl, hb⟩; have HB1 := Lib.hid (HB.out.trans (hb.mono HB.out.size)); have y0 := (hb.cell (p := ⟨w.heap.size, 0, none⟩) HZ0.out).trans HP0.out; have y1 := (hb.cell (p := ⟨w.heap.size + 1, 0, none⟩) HZ.out).trans HP1.out; have f1 := (hb.frozen (p := ⟨w.heap.size + 1, 0, none⟩) HZ.out).trans HF1.out; have HZ1 := Lib.hid (Nat.lt_of_lt_of_le HZ.out hb.size); clear hb))
    go_wp2_with (go_at_call 22; go_loud ((with_reducible refine (HC.out _ HB1.out).mono ?_); rintro e w2 ⟨v2, rfl, ho, hb⟩; have HB2 := Lib.hid (HB1.out.trans (hb.mono HB1.out.size)); have z1 := (hb.cell (p := ⟨w.heap.size + 1, 0, none⟩) HZ1.out).trans y1; have g1 := (hb.frozen (p := ⟨w.heap.size + 1, 0, none⟩) HZ1.out).trans f1; have HO := Lib.hid ho; clear hb ho))
    go_wp2
    refine bodyPost_take (u := 2) (x := 4) rfl (w.heap.size + 1) (.slice none 0 0) rfl rfl (World.cell?_setCell_same _ _ _ z1) (HT.out _ _ _ rfl ?_ (HB2.out.setCell (by show w.heap.size ≤ w.heap.size + 1; omega) _))
    exact Own.le (ownsRow_setCell_below HO.out (a := ⟨w.heap.size + 1, 0, none⟩) HZ1.out _) HB1.out.size
theorem boxes2 (w : World) (v : Value) : (((w.alloc (.cells #[v] 24)).alloc (.cells #[.slice none 0 0] 24)).cell? ⟨w.heap.size, 0, none⟩ = some v ∧ ((w.alloc (.cells #[v] 24)).alloc (.cells #[.slice none 0 0] 24)).cell? ⟨w.heap.size + 1, 0, none⟩ = some (.slice none 0 0) ∧ ((w.alloc (.cells #[v] 24)).alloc (.cells #[.slice none 0 0] 24)).frozen? ⟨w.heap.size + 1, 0, none⟩ = false) ∧ Below w.heap.size w ((w.alloc (.cells #[v] 24)).alloc (.cells #[.slice none 0 0] 24)) ∧ ((w.alloc (.cells #[v] 24)).alloc (.cells #[.slice none 0 0] 24)).heap.size = w.heap.size + 2 := by
  refine ⟨⟨cell_old _ (cell_new w v _), ?_, ?_⟩, ((Below.refl _ w).alloc (Nat.le_refl _) _).alloc (by simp) _, by simp⟩
  · have := cell_new (w.alloc (.cells #[v] 24)) (.slice none 0 0) 24
    rw [World.size_alloc] at this
    exact this
  · have := heap_alloc_new (w.alloc (.cells #[v] 24)) (.cells #[.slice none 0 0] 24)
    rw [World.size_alloc] at this
    exact frozen_of_row _ _ 0 _ _ this
/-- A box that stood ahead of the row that grew. -/
theorem grown_box {w w1 z z5 : World} {own : Option Nat} {v : Value} (hlt : w.heap.size + 1 < w1.heap.size) (hb : Below w1.heap.size w1 z) (hg : z.grownBy z5 own) (hn : ∀ g, own = some g → w1.heap.size ≤ g)
    (y1 : w1.cell? ⟨w.heap.size + 1, 0, none⟩ = some v) (f1 : w1.frozen? ⟨w.heap.size + 1, 0, none⟩ = false) :
    z5.cell? ⟨w.heap.size + 1, 0, none⟩ = some v ∧ z5.frozen? ⟨w.heap.size + 1, 0, none⟩ = false ∧ Below w1.heap.size w1 z5 := by
  have h5 : Below w1.heap.size w1 z5 := hb.grown hg hb.size hn
  exact ⟨(h5.cell hlt).trans y1, (h5.frozen hlt).trans f1, h5⟩
theorem trans2 {w1 w2 z : World} (h : Below w2.heap.size w2 z) (h2 : Below w1.heap.size w1 w2) : Below w1.heap.size w1 z := h2.trans (h.mono h2.size)
/-- What Twice answers. -/
def twN (n : List Pk) (i : Int) : Int := if refN n i = 0 then (if n.length = 4096 then 11 else 0) else refN n i
def TwiceIs (w : World) (n : List Pk) (i : Int) (e : Ending) (w' : World) : Prop :=
  ∃ v' l, e = .returned (.tuple #[.agg #[v'], .int .i64 (twN n i)]) ∧ OwnP w' w.heap.size v' l ∧ (twN n i = 0 → ∃ (k : Nat) (h : k < n.length), i = (k : Int) ∧ l = n ++ [n[k]]) ∧ (¬ twN n i = 0 → l = []) ∧ Below w.heap.size w w'
theorem ref_cases (n : List Pk) (i : Int) : (refN n i = 0 ∧ netB n = true ∧ ∃ k : Nat, k < n.length ∧ i = (k : Int)) ∨ refN n i = 1 ∨ refN n i = 10 := by
  unfold refN
  cases hq : netB n
  · exact .inr (.inr rfl)
  · by_cases h : 0 ≤ i ∧ i < (n.length : Int)
    · refine .inl ⟨(if_pos rfl).trans (if_pos h), rfl, i.toNat, by omega, by omega⟩
    · exact .inr (.inl ((if_pos rfl).trans (if_neg h)))
theorem net_len {n : List Pk} (h : netB n = true) : n.length ≤ 4096 := by
  unfold netB at h
  rw [Bool.and_eq_true] at h
  exact of_decide_eq_true h.1
set_option maxHeartbeats 4000000 in
set_option maxRecDepth 100000 in
theorem twice_own (va : Value) (n : List Pk) (i : Int) (w : World) {A : Nat} (hn : Sl w A w.heap.size va n) : Calls Try.prog 14 #[.agg #[va], .int .i64 i] w (TwiceIs w n i) := by
  have HX : Hid (∀ z, Below w.heap.size w z → Calls Try.prog 24 #[.agg #[va], .int .i64 i] z fun e w' => e = .returned (.int .i64 (refN n i)) ∧ Below z.heap.size z w') := fun z hz => refuse_own va n i z (hn.on hz)
  have HC : Hid (∀ z, Below w.heap.size w z → Calls Try.prog 22 #[va] z fun e w' => ∃ v', e = .returned v' ∧ OwnP w' z.heap.size v' n ∧ Below z.heap.size z w') := fun z hz => clone_own va n z (hn.on hz)
  have HNN := Lib.hid hn
  obtain ⟨a, c, rfl⟩ := hn.slice
  clear hn
  obtain ⟨⟨hp0, hp1, hf1⟩, hb0, hs0⟩ := boxes2 w (.slice a n.length c)
  have HB := Lib.hid hb0
  have HP0 := Lib.hid hp0
  have HP1 := Lib.hid hp1
  have HF1 := Lib.hid hf1
  have HZ : Hid (w.heap.size + 1 < ((w.alloc (.cells #[.slice a n.length c] 24)).alloc (.cells #[.slice none 0 0] 24)).heap.size) := by show _ < _; omega
  have HZ0 : Hid (w.heap.size < ((w.alloc (.cells #[.slice a n.length c] 24)).alloc (.cells #[.slice none 0 0] 24)).heap.size) := by show _ < _; omega
  have HT0 : Hid (∀ e w', ¬ twN n i = 0 → e = .returned (.tuple #[.agg #[.slice none 0 0], .int .i64 (twN n i)]) → Below w.heap.size w w' → TwiceIs w n i e w') := fun e w' h0 h1 h3 => ⟨_, [], h1, Own.nil _ _ _, fun h => absurd h h0, fun _ => rfl, h3⟩
  clear hb0 hp0 hp1 hf1 hs0
  rcases ref_cases n i with ⟨h0, hnb, k, hk, rfl⟩ | h0 | h0
  · have hn4 := net_len hnb
    rw [h0] at HX
    have HTW : Hid (twN n (k : Int) = if n.length = 4096 then 11 else 0) := if_pos h0
    have y9 : ((4096 : Int) = 4096) := rfl
    clear hnb h0
    by_cases hfull : n.length = 4096
    · have HE : Hid (twN n (k : Int) = 11) := HTW.out.trans (if_pos hfull)
      have t1 : ((n.length : Int) == 4096) = true := by simp; omega
      rw [HE.out] at HT0
      clear HTW HC HNN y9
      have HFU := Lib.hid hfull
      clear hfull
      go_enter Try.func14, Try.ntmps14
      go_wp2_with (go_at_call 24; go_loud ((with_reducible refine (HX.out _ HB.out).mono ?_); rintro e w1 ⟨rfl, hb⟩; have HB1 := Lib.hid (HB.out.trans (hb.mono HB.out.size)); have y0 := (hb.cell (p := ⟨w.heap.size, 0, none⟩) HZ0.out).trans HP0.out; have y1 := (hb.cell (p := ⟨w.heap.size + 1, 0, none⟩) HZ.out).trans HP1.out; have f1 := (hb.frozen (p := ⟨w.heap.size + 1, 0, none⟩) HZ.out).trans HF1.out; clear hb))
      go_wp2
      refine bodyPost_net2 (u := 5) rfl (w.heap.size + 1) (.slice none 0 0) rfl rfl (World.cell?_setCell_same _ _ _ y1) (HT0.out _ _ (by decide) rfl (HB1.out.setCell (by show w.heap.size ≤ w.heap.size + 1; omega) _))
    · have HE : Hid (twN n (k : Int) = 0) := HTW.out.trans (if_neg hfull)
      have t1 : ((n.length : Int) == 4096) = false := by simp; omega
      have hlt : (k : Int) < (n.length : Int) := by omega
      have HT1 : Hid (∀ v' e w', e = .returned (.tuple #[.agg #[v'], .int .i64 0]) → OwnP w' w.heap.size v' (n ++ [n[k]]) → Below w.heap.size w w' → TwiceIs w n (k : Int) e w') := fun v' e w' h1 h2 h3 => ⟨v', _, by rw [HE.out]; exact h1, h2, fun _ => ⟨k, hk, rfl, rfl⟩, fun h => absurd HE.out h, h3⟩
      clear HTW HT0 y9
      obtain ⟨a9, c9, he, -, -, -, hcc⟩ := HNN.out
      simp only [Value.slice.injEq, true_and] at he
      obtain ⟨rfl, rfl⟩ := he
      obtain ⟨b, off, rfl, hA, hb, hcell⟩ := hcc (by omega)
      have HPK : Hid (∀ z, Below w.heap.size w z → z.cell? ⟨b, off + k * 3, none⟩ = some (.int .i64 n[k].f) ∧ z.cell? ⟨b, off + k * 3 + 1, none⟩ = some (.int .i64 n[k].t) ∧ z.cell? ⟨b, off + k * 3 + 2, none⟩ = some (.string n[k].d)) := fun z hz => at_pk ((hcell k hk).keep hz hb)
      clear hcell hcc HNN hA hfull
      generalize n[k] = x at *
      rcases x with ⟨f, t, d⟩
      dsimp only at HPK
      obtain ⟨i0, hi, hq0, hq1, hq2⟩ := info_parts info_pk
      have HONE := Lib.hid (one_ok f t d)
      have HMX : Hid (n.length + 1 ≤ maxLen) := by show _ ≤ _; unfold maxLen; omega
      have HBY : Hid ((n.length + 1) * 32 ≤ 140737488355328) := by show _ ≤ _; omega
      have HNEW := Lib.hid (fun z => one_new z f t d)
      have HSN : Hid (∀ (w5 : World) (v4 : Value) (base : Nat), w5.ownsRow base 30 3 v4 (n.length + 1) (flat n ++ [.int .i64 f, .int .i64 t, .string d]) → OwnP w5 base v4 (n ++ [⟨f, t, d⟩])) := fun w5 v4 base h => Own.snoc (x := (⟨f, t, d⟩ : Pk)) h
      clear hk hb hn4
      go_enter Try.func14, Try.ntmps14
      go_wp2_with (go_at_call 24; go_loud ((with_reducible refine (HX.out _ HB.out).mono ?_); rintro e w1 ⟨rfl, hb⟩; have HB1 := Lib.hid (HB.out.trans (hb.mono HB.out.size)); have y0 := (hb.cell (p := ⟨w.heap.size, 0, none⟩) HZ0.out).trans HP0.out; have y1 := (hb.cell (p := ⟨w.heap.size + 1, 0, none⟩) HZ.out).trans HP1.out; have f1 := (hb.frozen (p := ⟨w.heap.size + 1, 0, none⟩) HZ.out).trans HF1.out; have HZ1 := Lib.hid (Nat.lt_of_lt_of_le HZ.out hb.size); obtain ⟨x0, x1, x2⟩ := HPK.out _ HB1.out; clear hb))
      go_wp2
      have y0a := cell_old (.cells #[.int .i64 f, .int .i64 t, .string d] 30) y0
      clear HX HB HP0 HP1 HF1 HZ HZ0
      go_region_law (first
        | (refine step_go rfl 22 rfl (Go.Proofs.enters_of Try.func22 (by kernel_rfl) rfl) [.slice (some ⟨b, off, none⟩) n.length c] rfl (HC.out _ (by first | exact HB1.out.drew | exact (HB1.out.alloc HB1.out.size _).drew)) ?_; rintro e w2 ⟨v2, rfl, ho, hb⟩; refine ⟨v2, rfl, ?_⟩; have hb2 : Below w1.heap.size w1 w2 := (by first | exact (Below.refl _ w1).drew.trans hb | exact (al w1 _).drew.trans (hb.mono (by simp))); have y0' := (hb2.cell (p := ⟨w.heap.size, 0, none⟩) (by have := HZ1.out; show w.heap.size < _; omega)).trans y0; have y1' := (hb2.cell (p := ⟨w.heap.size + 1, 0, none⟩) HZ1.out).trans y1; have f1' := (hb2.frozen (p := ⟨w.heap.size + 1, 0, none⟩) HZ1.out).trans f1; have HB2 := Lib.hid (HB1.out.trans (hb2.mono HB1.out.size)); obtain ⟨x0', x1', x2'⟩ := HPK.out _ HB2.out; have HO := Lib.hid (Own.le ho (show w1.heap.size ≤ _ from (by first | exact Nat.le_refl _ | (simp)))); have HBB := Lib.hid hb; have HB12 := Lib.hid hb2; clear ho hb hb2)
        | (refine step_append_own1 rfl _ _ 22 rfl w1.heap.size 30 i0 _ 3 32 Try.underlying22 hi hq0 hq1 hq2 rfl (by omega) _ _ _ rfl (Own.keep HO.out (al w2 _)) ⟨w2.heap.size, 0, none⟩ 1 1 [.int .i64 f, .int .i64 t, .string d] rfl rfl (HNEW.out w2) HONE.out HMX.out HBY.out (by have := HB12.out.size; simp; omega) ?_; intro v4 w5 hown hg5 hob; have HO6 := Lib.hid (HSN.out _ _ _ hown); obtain ⟨a4, c4, rfl⟩ := Own.slice HO6.out; have HST := Lib.hid (grown_box HZ1.out (trans2 (al w2 _) HB12.out) hg5 (fun g hg => (Own.lt HO.out g hg).1) y1 f1); have z1' := HST.out.1; have zf' := HST.out.2.1; clear hown hg5 hob)
        | (refine step_append_own1 rfl _ _ 22 rfl w1.heap.size 30 i0 _ 3 32 Try.underlying22 hi hq0 hq1 hq2 rfl (by omega) _ _ _ rfl HO.out ⟨w1.heap.size, 0, none⟩ 1 1 [.int .i64 f, .int .i64 t, .string d] rfl rfl (fun j u hj => (HBB.out.cell (by rw [Addr.add_lit]; show w1.heap.size < _; simp)).trans (HNEW.out w1 j u hj)) HONE.out HMX.out HBY.out (by have := HB12.out.size; omega) ?_; intro v4 w5 hown hg5 hob; have HO6 := Lib.hid (HSN.out _ _ _ hown); obtain ⟨a4, c4, rfl⟩ := Own.slice HO6.out; have HST := Lib.hid (grown_box HZ1.out HB12.out hg5 (fun g hg => (Own.lt HO.out g hg).1) y1 f1); have z1' := HST.out.1; have zf' := HST.out.2.1; clear hown hg5 hob))
      all_goals go_wp2
      all_goals refine bodyPost_net2 (u := 5) rfl (w.heap.size + 1) (.slice a4 (n.length + 1) c4) rfl rfl (World.cell?_setCell_same _ _ _ z1') (HT1.out _ _ _ rfl ?_ ((HB1.out.trans (HST.out.2.2.mono HB1.out.size)).setCell (p := ⟨w.heap.size + 1, 0, none⟩) (by show w.heap.size ≤ w.heap.size + 1; omega) _))
      all_goals have HO7 := HO6.out
      all_goals rw [List.length_append] at HO7
      all_goals exact Own.le (ownsRow_setCell_below HO7 (a := ⟨w.heap.size + 1, 0, none⟩) HZ1.out _) HB1.out.size
  all_goals
    have HE : Hid (twN n i = refN n i) := if_neg (by rw [h0]; decide)
    rw [h0] at HX HE
    rw [HE.out] at HT0
    clear h0 HC HNN
    go_enter Try.func14, Try.ntmps14
    go_wp2_with (go_at_call 24; go_loud ((with_reducible refine (HX.out _ HB.out).mono ?_); rintro e w1 ⟨rfl, hb⟩; have HB1 := Lib.hid (HB.out.trans (hb.mono HB.out.size)); have y1 := (hb.cell (p := ⟨w.heap.size + 1, 0, none⟩) HZ.out).trans HP1.out; have f1 := (hb.frozen (p := ⟨w.heap.size + 1, 0, none⟩) HZ.out).trans HF1.out; clear hb))
    go_wp2
    refine bodyPost_net2 (u := 5) rfl (w.heap.size + 1) (.slice none 0 0) rfl rfl (World.cell?_setCell_same _ _ _ y1) (HT0.out _ _ (by decide) rfl (HB1.out.setCell (by show w.heap.size ≤ w.heap.size + 1; omega) _))
/-- What Give answers. -/
def GiveIs (w : World) (n : List Pk) (i : Int) (e : Ending) (w' : World) : Prop :=
  ∃ v' l p, e = .returned (.tuple #[.agg #[v'], pkV p, .int .i64 (refN n i)]) ∧ OwnP w' w.heap.size v' l ∧ (refN n i = 0 → ∃ (k : Nat) (h : k < n.length), i = (k : Int) ∧ l = n.eraseIdx k ∧ p = n[k]) ∧ (¬ refN n i = 0 → l = [] ∧ p = ⟨0, 0, ⟨#[]⟩⟩) ∧ Below w.heap.size w w'
theorem boxes3 (w : World) (v : Value) : ((((w.alloc (.cells #[v] 24)).alloc (.cells #[.slice none 0 0] 24)).alloc (.cells #[.int .i64 0, .int .i64 0, .string ⟨#[]⟩] 30)).cell? ⟨w.heap.size, 0, none⟩ = some v) ∧
    (((w.alloc (.cells #[v] 24)).alloc (.cells #[.slice none 0 0] 24)).alloc (.cells #[.int .i64 0, .int .i64 0, .string ⟨#[]⟩] 30)).heap[w.heap.size + 1]? = some (.cells #[.slice none 0 0] 24 (0, 0)) ∧
    (((w.alloc (.cells #[v] 24)).alloc (.cells #[.slice none 0 0] 24)).alloc (.cells #[.int .i64 0, .int .i64 0, .string ⟨#[]⟩] 30)).heap[w.heap.size + 1 + 1]? = some (.cells #[.int .i64 0, .int .i64 0, .string ⟨#[]⟩] 30 (0, 0)) ∧
    Below w.heap.size w (((w.alloc (.cells #[v] 24)).alloc (.cells #[.slice none 0 0] 24)).alloc (.cells #[.int .i64 0, .int .i64 0, .string ⟨#[]⟩] 30)) ∧ (((w.alloc (.cells #[v] 24)).alloc (.cells #[.slice none 0 0] 24)).alloc (.cells #[.int .i64 0, .int .i64 0, .string ⟨#[]⟩] 30)).heap.size = w.heap.size + 3 := by
  obtain ⟨⟨h0, -, -⟩, hb, hs⟩ := boxes2 w v
  refine ⟨cell_old _ h0, ?_, ?_, hb.alloc hb.size _, by simp⟩
  · have := heap_alloc_new (w.alloc (.cells #[v] 24)) (.cells #[.slice none 0 0] 24)
    rw [World.size_alloc] at this
    rw [Below.heap_alloc _ _ _ (by rw [hs]; omega)]
    exact this
  · have := heap_alloc_new ((w.alloc (.cells #[v] 24)).alloc (.cells #[.slice none 0 0] 24)) (.cells #[.int .i64 0, .int .i64 0, .string ⟨#[]⟩] 30)
    rw [hs] at this
    exact this
/-- Give's boxes. -/
structure GvS (w : World) (v : Value) (z : World) : Prop where
  be : Below w.heap.size w z
  c0 : z.cell? ⟨w.heap.size, 0, none⟩ = some v
  h1 : z.heap[w.heap.size + 1]? = some (.cells #[.slice none 0 0] 24 (0, 0))
  h2 : z.heap[w.heap.size + 1 + 1]? = some (.cells #[.int .i64 0, .int .i64 0, .string ⟨#[]⟩] 30 (0, 0))
theorem GvS.lt {w z : World} {v : Value} (h : GvS w v z) : w.heap.size + 1 + 1 < z.heap.size := (Array.getElem?_eq_some_iff.1 h.h2).1
theorem GvS.go {w z z' : World} {v : Value} (h : GvS w v z) (hb : Below z.heap.size z z') : GvS w v z' := by
  have := h.lt
  exact ⟨h.be.trans (hb.mono h.be.size), (hb.cell (by show w.heap.size < _; omega)).trans h.c0, (hb.block _ (by omega)).trans h.h1, (hb.block _ (by omega)).trans h.h2⟩
theorem GvS.grown {w z z' : World} {v : Value} {own : Option Nat} (h : GvS w v z) (hg : z.grownBy z' own) (hn : ∀ g, own = some g → w.heap.size + 3 ≤ g) : GvS w v z' := by
  have h3 := h.lt
  have hne : ∀ k, k ≤ w.heap.size + 1 + 1 → some k ≠ own := fun k hk e => by have := hn k e.symm; omega
  exact ⟨h.be.grown hg h.be.size (fun k hk => by have := hn k hk; omega), hg.cell h.c0 (hne _ (by show w.heap.size ≤ _; omega)), (hg.block _ (by omega) (hne _ (by omega))).trans h.h1, (hg.block _ (by omega) (hne _ (by omega))).trans h.h2⟩
theorem GvS.facts {w z : World} {v : Value} (h : GvS w v z) : z.cell? ⟨w.heap.size, 0, none⟩ = some v ∧ z.cell? ⟨w.heap.size + 1, 0, none⟩ = some (.slice none 0 0) ∧ z.frozen? ⟨w.heap.size + 1, 0, none⟩ = false ∧
    z.cell? ⟨w.heap.size + 1 + 1, 0, none⟩ = some (.int .i64 0) ∧ z.cell? ⟨w.heap.size + 1 + 1, 1, none⟩ = some (.int .i64 0) ∧ z.cell? ⟨w.heap.size + 1 + 1, 2, none⟩ = some (.string ⟨#[]⟩) ∧ z.frozen? ⟨w.heap.size + 1 + 1, 0, none⟩ = false ∧ z.frozen? ⟨w.heap.size + 1 + 1, 1, none⟩ = false ∧ z.frozen? ⟨w.heap.size + 1 + 1, 2, none⟩ = false := by
  refine ⟨h.c0, ?_, frozen_of_row _ _ _ _ _ h.h1, ?_, ?_, ?_, frozen_of_row _ _ _ _ _ h.h2, frozen_of_row _ _ _ _ _ h.h2, frozen_of_row _ _ _ _ _ h.h2⟩
  · rw [cell_of_row _ _ _ _ _ _ h.h1]; rfl
  · rw [cell_of_row _ _ _ _ _ _ h.h2]; rfl
  · rw [cell_of_row _ _ _ _ _ _ h.h2]; rfl
  · rw [cell_of_row _ _ _ _ _ _ h.h2]; rfl
theorem gv_end {w z : World} {v : Value} (h : GvS w v z) (u : Value) (f t : Int) (d : ByteArray) (W : World) (hW : W = (((z.setCell ⟨w.heap.size + 1, 0, none⟩ u).setCell ⟨w.heap.size + 1 + 1, 0, none⟩ (.int .i64 f)).setCell ⟨w.heap.size + 1 + 1, 1, none⟩ (.int .i64 t)).setCell ⟨w.heap.size + 1 + 1, 2, none⟩ (.string d)) :
    W.cell? ⟨w.heap.size + 1, 0, none⟩ = some u ∧ W.cell? ⟨w.heap.size + 1 + 1, 0, none⟩ = some (.int .i64 f) ∧ W.cell? ⟨w.heap.size + 1 + 1, 1, none⟩ = some (.int .i64 t) ∧ W.cell? ⟨w.heap.size + 1 + 1, 2, none⟩ = some (.string d) ∧ Below w.heap.size w W ∧
    ∀ (base : Nat) (v' : Value) (l : List Pk), w.heap.size + 3 ≤ base → OwnP z base v' l → OwnP W base v' l := by
  obtain ⟨-, y1, -, y3, y4, y5, -⟩ := h.facts
  subst hW
  have n1 : ∀ {b c o p : Nat}, b ≠ c → (⟨b, o, none⟩ : Addr) ≠ ⟨c, p, none⟩ := fun hn e => hn (by cases e; rfl)
  have n2 : ∀ {b o p : Nat}, o ≠ p → (⟨b, o, none⟩ : Addr) ≠ ⟨b, p, none⟩ := fun hn e => hn (by cases e; rfl)
  refine ⟨?_, ?_, ?_, ?_, ?_, ?_⟩
  · rw [World.cell?_setCell_other _ _ _ _ (n1 (by omega)), World.cell?_setCell_other _ _ _ _ (n1 (by omega)), World.cell?_setCell_other _ _ _ _ (n1 (by omega))]
    exact World.cell?_setCell_same _ _ _ y1
  · rw [World.cell?_setCell_other _ _ _ _ (n2 (by omega)), World.cell?_setCell_other _ _ _ _ (n2 (by omega))]
    exact World.cell?_setCell_same _ _ _ ((World.cell?_setCell_other _ _ _ _ (n1 (by omega))).trans y3)
  · rw [World.cell?_setCell_other _ _ _ _ (n2 (by omega))]
    exact World.cell?_setCell_same _ _ _ ((World.cell?_setCell_other _ _ _ _ (n2 (by omega))).trans ((World.cell?_setCell_other _ _ _ _ (n1 (by omega))).trans y4))
  · exact World.cell?_setCell_same _ _ _ ((World.cell?_setCell_other _ _ _ _ (n2 (by omega))).trans ((World.cell?_setCell_other _ _ _ _ (n2 (by omega))).trans ((World.cell?_setCell_other _ _ _ _ (n1 (by omega))).trans y5)))
  · exact (((h.be.setCell (p := ⟨w.heap.size + 1, 0, none⟩) (by show w.heap.size ≤ w.heap.size + 1; omega) _).setCell (p := ⟨w.heap.size + 1 + 1, 0, none⟩) (by show w.heap.size ≤ w.heap.size + 1 + 1; omega) _).setCell (p := ⟨w.heap.size + 1 + 1, 1, none⟩) (by show w.heap.size ≤ w.heap.size + 1 + 1; omega) _).setCell (p := ⟨w.heap.size + 1 + 1, 2, none⟩) (by show w.heap.size ≤ w.heap.size + 1 + 1; omega) _
  · intro base v' l hb ho
    exact ownsRow_setCell_below (ownsRow_setCell_below (ownsRow_setCell_below (ownsRow_setCell_below ho (a := ⟨w.heap.size + 1, 0, none⟩) (by show w.heap.size + 1 < base; omega) _) (a := ⟨w.heap.size + 1 + 1, 0, none⟩) (by show w.heap.size + 1 + 1 < base; omega) _) (a := ⟨w.heap.size + 1 + 1, 1, none⟩) (by show w.heap.size + 1 + 1 < base; omega) _) (a := ⟨w.heap.size + 1 + 1, 2, none⟩) (by show w.heap.size + 1 + 1 < base; omega) _
set_option maxHeartbeats 4000000 in
set_option maxRecDepth 100000 in
theorem give_own (va : Value) (n : List Pk) (i : Int) (w : World) {A : Nat} (hn : Sl w A w.heap.size va n) : Calls Try.prog 10 #[.agg #[va], .int .i64 i] w (GiveIs w n i) := by
  have HX : Hid (∀ z, Below w.heap.size w z → Calls Try.prog 24 #[.agg #[va], .int .i64 i] z fun e w' => e = .returned (.int .i64 (refN n i)) ∧ Below z.heap.size z w') := fun z hz => refuse_own va n i z (hn.on hz)
  have HC : Hid (∀ z, Below w.heap.size w z → Calls Try.prog 22 #[va] z fun e w' => ∃ v', e = .returned v' ∧ OwnP w' z.heap.size v' n ∧ Below z.heap.size z w') := fun z hz => clone_own va n z (hn.on hz)
  have HNN := Lib.hid hn
  obtain ⟨a, c, rfl⟩ := hn.slice
  clear hn
  obtain ⟨hb0, hb1, hb2, hbe, hbs⟩ := boxes3 w (.slice a n.length c)
  have HS0 : Hid (GvS w (.slice a n.length c) (((w.alloc (.cells #[.slice a n.length c] 24)).alloc (.cells #[.slice none 0 0] 24)).alloc (.cells #[.int .i64 0, .int .i64 0, .string ⟨#[]⟩] 30))) := ⟨hbe, hb0, hb1, hb2⟩
  clear hb0 hb1 hb2 hbe hbs
  rcases ref_cases n i with ⟨h0, hnb, k, hk, rfl⟩ | h0 | h0
  · have hn4 := net_len hnb
    have HT1 : Hid (∀ v' e w', e = .returned (.tuple #[.agg #[v'], pkV n[k], .int .i64 0]) → OwnP w' w.heap.size v' (n.eraseIdx k) → Below w.heap.size w w' → GiveIs w n (k : Int) e w') := fun v' e w' h1 h2 h3 => ⟨v', _, _, by rw [h0]; exact h1, h2, fun _ => ⟨k, hk, rfl, rfl, rfl⟩, fun h => absurd h0 h, h3⟩
    rw [h0] at HX
    clear hnb h0
    have hlt : (k : Int) < (n.length : Int) := by omega
    obtain ⟨a9, c9, he, -, -, -, hcc⟩ := HNN.out
    simp only [Value.slice.injEq, true_and] at he
    obtain ⟨rfl, rfl⟩ := he
    obtain ⟨b, off, rfl, hA, hb, hcell⟩ := hcc (by omega)
    have HPK : Hid (∀ z, Below w.heap.size w z → z.cell? ⟨b, off + k * 3, none⟩ = some (.int .i64 n[k].f) ∧ z.cell? ⟨b, off + k * 3 + 1, none⟩ = some (.int .i64 n[k].t) ∧ z.cell? ⟨b, off + k * 3 + 2, none⟩ = some (.string n[k].d)) := fun z hz => at_pk ((hcell k hk).keep hz hb)
    have HD := Lib.hid (fun v base z ho => delete_own v n k base z ho hn4 hk)
    have tk : IntKind.i64.wrap ((k : Int) + 1) = (k : Int) + 1 := by rw [IntKind.wrap_i64]; omega
    clear hcell hcc HNN hA
    generalize n[k] = x at *
    rcases x with ⟨f, t, d⟩
    have HP9 : Hid (pkV ⟨f, t, d⟩ = .agg #[.int .i64 f, .int .i64 t, .string d]) := rfl
    rw [HP9.out] at HT1
    dsimp only at HPK
    have NE : Hid (∀ o p : Nat, (⟨w.heap.size + 1, o, none⟩ : Addr) ≠ ⟨b, p, none⟩) := fun o p e => by
      have e1 : w.heap.size + 1 = b := by cases e; rfl
      omega
    clear hk hb hn4 HP9
    go_enter Try.func10, Try.ntmps10
    go_wp2_with (go_at_call 24; go_loud ((with_reducible refine (HX.out _ HS0.out.be).mono ?_); rintro e w1 ⟨rfl, hb⟩; have HS1 := Lib.hid (HS0.out.go hb); have HB1 := Lib.hid HS1.out.be; obtain ⟨y0, y1, y2, y3, y4, y5, y6, y7, y8⟩ := HS1.out.facts; obtain ⟨x0, x1, x2⟩ := HPK.out _ HS1.out.be; clear hb))
    go_wp2
    clear y1 y2 y3 y4 y5 y6 y7 y8
    clear HX HS0
    go_region_law (first
      | (refine step_go rfl 22 rfl (Go.Proofs.enters_of Try.func22 (by kernel_rfl) rfl) [.slice (some ⟨b, off, none⟩) n.length c] rfl (HC.out _ HB1.out.drew) ?_; rintro e w2 ⟨v2, rfl, ho, hb⟩; refine ⟨v2, rfl, ?_⟩; have HS2 := Lib.hid (HS1.out.go ((Below.refl _ w1).drew.trans hb)); obtain ⟨y0', -⟩ := HS2.out.facts; obtain ⟨x0', x1', x2'⟩ := HPK.out _ HS2.out.be; have HO : Hid (OwnP w2 (w.heap.size + 3) v2 n) := Own.le ho HS1.out.lt; clear ho hb)
      | (refine step_go rfl 25 rfl (Go.Proofs.enters_of Try.func25 (by kernel_rfl) rfl) [v2, .int .i64 k, .int .i64 ((k : Int) + 1)] rfl (HD.out _ _ _ HO.out) ?_; rintro e w3 ⟨v3, rfl, ho, hg⟩; refine ⟨v3, rfl, ?_⟩; have HS3 := Lib.hid (HS2.out.grown hg (fun g hg => (Own.lt HO.out g hg).1)); obtain ⟨z0, z1, z2, z3, z4, z5, z6, z7, z8⟩ := HS3.out.facts; obtain ⟨x0'', x1'', x2''⟩ := HPK.out _ HS3.out.be; obtain ⟨a3, c3, rfl⟩ := Own.slice ho; have HO3 := Lib.hid ho; have q0 := (World.cell?_setCell_other w3 ⟨w.heap.size + 1, 0, none⟩ ⟨b, off + k * 3, none⟩ (.slice a3 (n.eraseIdx k).length c3) (NE.out _ _)).trans x0''; have q1 := (World.cell?_setCell_other w3 ⟨w.heap.size + 1, 0, none⟩ ⟨b, off + k * 3 + 1, none⟩ (.slice a3 (n.eraseIdx k).length c3) (NE.out _ _)).trans x1''; have q2 := (World.cell?_setCell_other w3 ⟨w.heap.size + 1, 0, none⟩ ⟨b, off + k * 3 + 2, none⟩ (.slice a3 (n.eraseIdx k).length c3) (NE.out _ _)).trans x2''; clear ho hg))
    all_goals go_wp2
    all_goals obtain ⟨g0, g1, g2, g3, g4, g5⟩ := gv_end HS3.out (.slice a3 (n.eraseIdx k).length c3) f t d _ rfl
    all_goals refine bodyPost_give (x := 6) rfl (w.heap.size + 1) (w.heap.size + 1 + 1) (.slice a3 (n.eraseIdx k).length c3) f t d rfl rfl rfl g0 g1 g2 g3 (HT1.out _ _ _ rfl ?_ g4)
    all_goals exact Own.le (g5 _ _ _ (Nat.le_refl _) HO3.out) (by omega)
  all_goals
    have HT0 : Hid (∀ e w', e = .returned (.tuple #[.agg #[.slice none 0 0], .agg #[.int .i64 0, .int .i64 0, .string ⟨#[]⟩], .int .i64 (refN n i)]) → Below w.heap.size w w' → GiveIs w n i e w') := fun e w' h1 h3 => ⟨_, [], ⟨0, 0, ⟨#[]⟩⟩, h1, Own.nil _ _ _, fun h => absurd (h0.symm.trans h) (by decide), fun _ => ⟨rfl, rfl⟩, h3⟩
    rw [h0] at HX HT0
    clear h0 HC HNN
    go_enter Try.func10, Try.ntmps10
    go_wp2_with (go_at_call 24; go_loud ((with_reducible refine (HX.out _ HS0.out.be).mono ?_); rintro e w1 ⟨rfl, hb⟩; have HS1 := Lib.hid (HS0.out.go hb); obtain ⟨y0, y1, y2, y3, y4, y5, y6, y7, y8⟩ := HS1.out.facts; clear hb))
    go_wp2
    obtain ⟨g0, g1, g2, g3, g4, g5⟩ := gv_end HS1.out (.slice none 0 0) 0 0 ⟨#[]⟩ _ rfl
    refine bodyPost_give (x := 6) rfl (w.heap.size + 1) (w.heap.size + 1 + 1) (.slice none 0 0) 0 0 ⟨#[]⟩ rfl rfl rfl g0 g1 g2 g3 (HT0.out _ _ rfl g4)
end Nt
end Go.Proofs.Ytejolapbdkkdaaa
