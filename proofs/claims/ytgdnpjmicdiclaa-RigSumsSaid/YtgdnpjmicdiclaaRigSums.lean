/-
  THE WALK of RigSums.
-/
import Derived.Test.YtgdnpjmicdiclaaRigSum
import Derived.Test.YtgdnpjmicdiclaaRigRoom
import Derived.Test.YtgdnpjmicdiclaaRigRow
import Derived.Test.YtgdnpjmicdiclaaRigArrEq
import Derived.Deep.RegionWith
import Derived.Deep.RegionHeld3
import Derived.Deep.DeepCutAuto
import Derived.Deep.LoopGhost
import Derived.Deep.MidRow
import Derived.Maps.AppendAt
import Derived.Laws.AppendOwnNone
namespace Go.Proofs.Ytgdnpjmicdiclaa
open Go.RowKit Go.Lib Go.Sort
namespace Rg
set_option linter.unusedVariables false
theorem Tasks.over {w w' : World} {v : Value} {ts : List Tk} (h : Tasks w w.heap.size v ts) (hb : Below w.heap.size w w') : Tasks w' w'.heap.size v ts := (h.keep hb).more hb.size
theorem Tasks.slice {w : World} {B : Nat} {v : Value} {ts : List Tk} (h : Tasks w B v ts) : ∃ a c, v = .slice a ts.length c := by
  obtain ⟨a, c, rfl, -⟩ := h
  exact ⟨a, c, rfl⟩
theorem tasks_nil (w : World) (B : Nat) : Tasks w B (.slice none 0 0) [] := ⟨none, 0, rfl, by simp, by simp, fun h => by simp at h⟩
/-- A box of its type. -/
def Bw (w : World) (B : Nat) (cs : List Value) (T : TypeId) : Prop := w.heap[B]? = some (.cells cs.toArray T (0, 0))
theorem Bw.cell {w : World} {B : Nat} {cs : List Value} {T : TypeId} (h : Bw w B cs T) (i : Nat) : w.cell? ⟨B, i, none⟩ = cs[i]? := by
  unfold Bw at h
  simp [World.cell?, h]
theorem Bw.fz {w : World} {B : Nat} {cs : List Value} {T : TypeId} (h : Bw w B cs T) (i : Nat) : w.frozen? ⟨B, i, none⟩ = false := by
  unfold Bw at h
  simp [World.frozen?, h]
theorem Bw.lt {w : World} {B : Nat} {cs : List Value} {T : TypeId} (h : Bw w B cs T) : B < w.heap.size := (Array.getElem?_eq_some_iff.1 h).1
theorem Bw.inn {w w' : World} {B C : Nat} {cs : List Value} {T : TypeId} (h : Bw w B cs T) (hb : Below C w w') (hl : B < C) : Bw w' B cs T := (hb.block B hl).trans h
theorem Bw.set {w : World} {B : Nat} {cs : List Value} {T : TypeId} (h : Bw w B cs T) (i : Nat) (u : Value) : Bw (w.setCell ⟨B, i, none⟩ u) B (cs.set i u) T := by
  unfold Bw at *
  simp [World.setCell, Array.getElem?_modify, h]
theorem Bw.far {w : World} {B p : Nat} {cs : List Value} {T : TypeId} (h : Bw w B cs T) (hp : p ≠ B) (o : Nat) (u : Value) : Bw (w.setCell ⟨p, o, none⟩ u) B cs T :=
  (Below.heap_setCell w ⟨p, o, none⟩ u B (by rintro rfl; exact hp rfl)).trans h
theorem Bw.made (w : World) (cs : List Value) (T : TypeId) : Bw (w.alloc (.cells cs.toArray T)) w.heap.size cs T := heap_alloc_new w _
theorem Bw.grown {w w' : World} {B : Nat} {cs : List Value} {T : TypeId} {own : Option Nat} (h : Bw w B cs T) (hg : w.grownBy w' own) (hn : own ≠ some B) : Bw w' B cs T := (hg.block B h.lt (fun e => hn e.symm)).trans h
theorem own_type {w : World} {base B : Nat} {v : Value} {l : List Tk} {cs : List Value} {T : TypeId} (h : OwnT w base v l) (hb : Bw w B cs T) (hT : T ≠ 26) : v.ownBlock ≠ some B := by
  rcases h.2 with ⟨rfl, _⟩ | ⟨g, cap, cur, rfl, _, hg, _⟩
  · intro e; cases e
  · intro e
    have e : g = B := Option.some.inj e
    subst e
    unfold Bw at hb
    rw [hg] at hb
    simp only [Option.some.injEq, Obj.cells.injEq] at hb
    exact hT hb.2.1.symm
theorem run_none {w : World} (base : Nat) (ty : TypeId) (i : TypeInfo) (hi : Try.prog.info? 26 = some i) (v : Value) (n c : Nat) (xs : List Value) (hown : w.ownsRow base 26 9 v n xs) :
    (Builtin.append_ #[22, 22] ty #[v, .slice none 0 c]).run Try.prog w = .ok v w := by
  have ht := Try.underlying22
  rcases hown.2 with ⟨rfl, rfl⟩ | ⟨g, cap, cur, rfl, _, _, hnc, _⟩
  · simp [Builtin.append_, run_underlying ht, sizeOf, typeInfo, hi, Builtin.lenOf, Builtin.firstCells]
  · simp [Builtin.append_, run_underlying ht, sizeOf, typeInfo, hi, Builtin.lenOf, Builtin.firstCells, hnc, storeCells]
theorem run_appT {w : World} {base : Nat} {v : Value} {l m : List Tk} (h : OwnT w base v l) (hbase : base ≤ w.heap.size) (a : Option Addr) (c : Nat) (ty : TypeId) (hsrc : (m = [] ∧ a = none) ∨ ∃ ad, a = some ad ∧ ∀ j u, (flatT m)[j]? = some u → w.cell? (ad.add j) = some u) (hl : (l.length + m.length) * 128 ≤ 140737488355328) :
    ∃ v' w', (Builtin.append_ #[22, 22] ty #[v, .slice a m.length c]).run Try.prog w = .ok v' w' ∧ OwnT w' base v' (l ++ m) ∧ w.grownBy w' v.ownBlock ∧ (v'.ownBlock = v.ownBlock ∨ v'.ownBlock = some w.heap.size) := by
  obtain ⟨i0, hi, hq0, hq1, hq2⟩ := info_parts info_task
  rcases hsrc with ⟨rfl, rfl⟩ | ⟨ad, rfl, hc⟩
  · exact ⟨v, w, run_none base ty i0 hi v l.length c (flatT l) h, by rw [List.append_nil]; exact h, ⟨rfl, rfl, rfl, Nat.le_refl _, fun _ _ _ => rfl⟩, .inl rfl⟩
  · obtain ⟨v', w', hr, h2, h3, -, h5⟩ := run_append_own_at (P := Try.prog) w base 22 ty 26 i0 _ 9 128 Try.underlying22 hi hq0 hq1 hq2 rfl (by omega) v l.length (flatT l) h ad m.length c (flatT m) (flatT_len m) hc (flatT_one' m) (by simp only [maxLen]; omega) hl hbase
    refine ⟨v', w', hr, ?_, h3, h5⟩
    unfold OwnT
    rw [flatT_app, List.length_append]
    exact h2
section
variable {P : Program}
theorem wpl_app {w w' : World} {ops : Array Oper} {rest : List Oper} {o : Oper} {a : Act} {Q : Exit → Act → World → Prop} (hgd : o.guard = none) (s x : Operand) (t : TypeId)
    (ho : o.op = .call { callee := .builtin .append, args := #[s, x], argTypes := #[t, t] }) (v u v' : Value) (hs : a.eval s = v) (hx : a.eval x = u) (hr : (Builtin.append_ #[t, t] o.type #[v, u]).run P w = .ok v' w') (h : wpList P ops Q rest (a.put o.dst v') w') : wpList P ops Q (o :: rest) a w := by
  refine wpList_plain hgd fun K hK => ?_
  unfold Oper.wp
  simp [execOp, ho, resolve, invoke, builtin, hs, hx, hr, Result.andThen]
  exact hK _ _ h
theorem step_app {w w' : World} {ops : Array Oper} {o : Oper} {a : Act} {K : Act → World → Prop} {Q : Exit → Act → World → Prop} {E : Prop} (hgd : o.guard = none) (s x : Operand) (t : TypeId)
    (ho : o.op = .call { callee := .builtin .append, args := #[s, x], argTypes := #[t, t] }) (v u v' : Value) (hs : a.eval s = v) (hx : a.eval x = u) (hr : (Builtin.append_ #[t, t] o.type #[v, u]).run P w = .ok v' w') (h : K (a.put o.dst v') w') :
    if Region.wanted o (yielded ops a.tmps) = true then Oper.wp P o a w K Q else E := by
  have hw : Region.wanted o (yielded ops a.tmps) = true := by simp [Region.wanted, hgd]
  rw [if_pos hw]
  unfold Oper.wp
  simp [execOp, ho, resolve, invoke, builtin, hs, hx, hr, Result.andThen]
  exact h
end
theorem al (z : World) (o : Obj) : Below z.heap.size z (z.alloc o) := (Below.refl _ _).alloc (Nat.le_refl _) _
theorem news_keep {w w' : World} {n : Nat} {l : List Tk} (h : ∀ j u, (flatT l)[j]? = some u → w.cell? ((⟨n, 0, none⟩ : Addr).add j) = some u) (hb : w'.heap[n]? = w.heap[n]?) : ∀ j u, (flatT l)[j]? = some u → w'.cell? ((⟨n, 0, none⟩ : Addr).add j) = some u := by
  intro j u hj
  have h1 := h j u hj
  rw [Addr.add_lit] at h1 ⊢
  rw [← h1]
  simp [World.cell?, hb]
theorem sum_turn (l : List Tk) (x : Tk) : sumE ([x] ++ l) = sumE (l ++ [x]) ∧ ∀ f, sumV f ([x] ++ l) = sumV f (l ++ [x]) := by
  have h1 : sumE ([x] ++ l) = sumE (l ++ [x]) := by
    unfold sumE okT
    rw [List.length_append, List.length_append, List.all_append, List.all_append, Nat.add_comm, Bool.and_comm]
  refine ⟨h1, fun f => ?_⟩
  unfold sumV
  rw [h1, sm_app, sm_app, Int.add_comm]
theorem sum_more {l : List Tk} {x : Tk} (h : sumE (l ++ [x]) = 0) : sumE l = 0 ∧ (∀ f, sumV f (l ++ [x]) = sumV f l + f x) ∧ ((0 ≤ sumV (·.z0) l ∧ sumV (·.z0) l ≤ 35184372088832) ∧ (0 ≤ sumV (·.z1) l ∧ sumV (·.z1) l ≤ 35184372088832) ∧ (0 ≤ sumV (·.z2) l ∧ sumV (·.z2) l ≤ 35184372088832)) ∧ (0 ≤ x.z0 ∧ x.z0 ≤ 1099511627776) ∧ (0 ≤ x.z1 ∧ x.z1 ≤ 1099511627776) ∧ (0 ≤ x.z2 ∧ x.z2 ≤ 1099511627776) := by
  have hl : ¬ 32 < (l ++ [x]).length := fun hl => by rw [sumE_big _ hl] at h; cases h
  have hk : okT (l ++ [x]) = true := by
    cases hk : okT (l ++ [x])
    · rw [sumE_bad _ hl hk] at h; cases h
    · rfl
  have hkl : okT l = true := by
    unfold okT at hk ⊢
    rw [List.all_append, Bool.and_eq_true] at hk
    exact hk.1
  have hkx : okK x = true := by
    unfold okT at hk
    rw [List.all_append, Bool.and_eq_true] at hk
    simpa using hk.2
  have hll : ¬ 32 < l.length := by rw [List.length_append] at hl; omega
  have h0 := sumE_ok l hll hkl
  have hs := sm_all l hkl
  refine ⟨h0, fun f => ?_, ?_, upto_in _ _ _ _ hkx⟩
  · rw [sumV_ok _ _ h, sumV_ok _ _ h0, sm_app, sm_one]
  · rw [sumV_ok _ _ h0, sumV_ok _ _ h0, sumV_ok _ _ h0]
    omega
theorem eq_arr1 (a b c : Int) (w : World) : (binOp .eql 23 (.agg #[.int .i64 a, .int .i64 b, .int .i64 c]) (.agg #[.int .i64 a, .int .i64 b, .int .i64 c])).run Try.prog w = .ok (.bool true) w := by
  rw [eql_arr]
  simp [eqA]
theorem neq_arr1 (a b c : Int) (w : World) : (binOp .neq 23 (.agg #[.int .i64 a, .int .i64 b, .int .i64 c]) (.agg #[.int .i64 a, .int .i64 b, .int .i64 c])).run Try.prog w = .ok (.bool false) w := by
  have u2 := Try.underlying2
  have a2' := Try.isAgg2
  have z2 := Try.sizeOf2
  have hT := Try.underlying23
  rw [run_neq_struct, show (10000 : Nat) = 9999 + 1 from rfl]
  unfold Op.equalIn
  simp only [Sem.run_bind, run_underlying hT, Result.andThen_ok, z2]
  simp [List.range', go_sem]
def l3 (p0 p1 p2 z0 z1 z2 : Int) : Nat → List Value
  | 0 => [.int .i64 p0, .int .i64 p1, .int .i64 p2]
  | 1 => [.int .i64 (p0 + z0), .int .i64 p1, .int .i64 p2]
  | 2 => [.int .i64 (p0 + z0), .int .i64 (p1 + z1), .int .i64 p2]
  | _ => [.int .i64 (p0 + z0), .int .i64 (p1 + z1), .int .i64 (p2 + z2)]
set_option maxRecDepth 100000 in
set_option maxHeartbeats 8000000 in
theorem rigSums (xn xg xa : ByteArray) (x0 x1 x2 xr : Int) (xwa xba : Option Addr) (xwn xwc xbn xbc : Nat) (v : Value) (l : List Tk) (w : World) (hv : Tasks w w.heap.size v l) (h128 : l.length * 128 ≤ 140737488351232) (hx64 : In64 x0 ∧ In64 x1 ∧ In64 x2) :
    Calls Try.prog 3 #[v, .agg #[.string xn, .int .i64 x0, .int .i64 x1, .int .i64 x2, .slice xwa xwn xwc, .slice xba xbn xbc, .string xg, .string xa, .int .i64 xr]] w fun e w' => e = .returned (.bool true) ∧ Below w.heap.size w w' := by
  have HV := Lib.hid hv
  have U0 := Lib.hid (fun x => sum_any (.slice none 0 0) [] x (tasks_nil x x.heap.size))
  have U1 : Hid (∀ x, Below w.heap.size w x → Calls Try.prog 5 #[v] x fun e w' => SumIs l e ∧ Below x.heap.size x w') := fun x hb => sum_any v l x (hv.over hb)
  obtain ⟨va, vc, rfl⟩ := hv.slice
  have hin : ∀ y ∈ l, In64 y.z0 ∧ In64 y.z1 ∧ In64 y.z2 := by obtain ⟨_, _, -, -, hm, -⟩ := hv; exact hm
  have HSRC : Hid (∀ z, Below w.heap.size w z → (l = [] ∧ va = none) ∨ ∃ ad, va = some ad ∧ ∀ j u, (flatT l)[j]? = some u → z.cell? (ad.add j) = some u) := by
    intro z hz
    cases va with
    | none =>
      refine .inl ⟨?_, rfl⟩
      obtain ⟨a, c, e, -, -, h3⟩ := hv
      simp only [Value.slice.injEq] at e
      by_cases hp : 0 < l.length
      · obtain ⟨b, off, e2, -⟩ := h3 hp
        rw [← e.1] at e2
        cases e2
      · exact List.eq_nil_of_length_eq_zero (by omega)
    | some ad => exact .inr ⟨ad, rfl, (tasks_cells (hv.keep hz)).2⟩
  have HA : Hid (∀ x v base, OwnT x base v (l ++ [⟨xn, xg, xa, x0, x1, x2, xr, xwa, xwn, xwc, xba, xbn, xbc⟩]) → Calls Try.prog 5 #[v] x fun e w' => SumIs (l ++ [⟨xn, xg, xa, x0, x1, x2, xr, xwa, xwn, xwc, xba, xbn, xbc⟩]) e ∧ Below x.heap.size x w') := by
    intro x v base ho
    refine sum_any v _ x (ho.tasks (by simp; omega) ?_)
    intro y hy
    simp only [List.mem_append, List.mem_singleton] at hy
    rcases hy with hy | rfl
    · exact hin y hy
    · exact hx64
  have HA2 : Hid (∀ x v base, OwnT x base v ([⟨xn, xg, xa, x0, x1, x2, xr, xwa, xwn, xwc, xba, xbn, xbc⟩] ++ l) → Calls Try.prog 5 #[v] x fun e w' => SumIs ([⟨xn, xg, xa, x0, x1, x2, xr, xwa, xwn, xwc, xba, xbn, xbc⟩] ++ l) e ∧ Below x.heap.size x w') := by
    intro x v base ho
    refine sum_any v _ x (ho.tasks (by simp; omega) ?_)
    intro y hy
    simp only [List.mem_append, List.mem_singleton] at hy
    rcases hy with rfl | hy
    · exact hx64
    · exact hin y hy
  unfold SumIs at HA HA2 U0 U1
  obtain ⟨ht1, ht2⟩ := sum_turn l ⟨xn, xg, xa, x0, x1, x2, xr, xwa, xwn, xwc, xba, xbn, xbc⟩
  rw [ht1, ht2, ht2, ht2] at HA2
  have HMO := Lib.hid (fun h => sum_more (l := l) (x := ⟨xn, xg, xa, x0, x1, x2, xr, xwa, xwn, xwc, xba, xbn, xbc⟩) h)
  have hbad := fun f h => sumV_bad f (l ++ [⟨xn, xg, xa, x0, x1, x2, xr, xwa, xwn, xwc, xba, xbn, xbc⟩]) h
  have HE1 : Hid (sumE (l ++ [⟨xn, xg, xa, x0, x1, x2, xr, xwa, xwn, xwc, xba, xbn, xbc⟩]) = 0 ∨ sumE (l ++ [⟨xn, xg, xa, x0, x1, x2, xr, xwa, xwn, xwc, xba, xbn, xbc⟩]) = 1) := by show _ ∨ _; unfold sumE; split <;> (first | exact .inr rfl | (split; exact .inl rfl; exact .inr rfl))
  have HBD := Lib.hid hbad
  have HM1 : Hid ((([] : List Tk).length + l.length) * 128 ≤ 140737488355328) := by show _ ≤ _; simp; omega
  have HM2 : Hid ((l.length + [(⟨xn, xg, xa, x0, x1, x2, xr, xwa, xwn, xwc, xba, xbn, xbc⟩ : Tk)].length) * 128 ≤ 140737488355328) := by show _ ≤ _; simp; omega
  have HM3 : Hid (([(⟨xn, xg, xa, x0, x1, x2, xr, xwa, xwn, xwc, xba, xbn, xbc⟩ : Tk)].length + l.length) * 128 ≤ 140737488355328) := by show _ ≤ _; simp; omega
  clear hv ht1 ht2 hbad h128 hx64 hin
  have z0 : sumV (·.z0) ([] : List Tk) = 0 := rfl
  have z1 : sumV (·.z1) ([] : List Tk) = 0 := rfl
  have z2 : sumV (·.z2) ([] : List Tk) = 0 := rfl
  have ze : sumE ([] : List Tk) = 0 := rfl
  rw [z0, z1, z2, ze] at U0
  obtain ⟨s0, hs0⟩ : ∃ s, s = sumV (·.z0) l := ⟨_, rfl⟩
  obtain ⟨s1, hs1⟩ : ∃ s, s = sumV (·.z1) l := ⟨_, rfl⟩
  obtain ⟨s2, hs2⟩ : ∃ s, s = sumV (·.z2) l := ⟨_, rfl⟩
  obtain ⟨se, hse⟩ : ∃ s, s = sumE l := ⟨_, rfl⟩
  obtain ⟨q0, hq0⟩ : ∃ s, s = sumV (·.z0) (l ++ [⟨xn, xg, xa, x0, x1, x2, xr, xwa, xwn, xwc, xba, xbn, xbc⟩]) := ⟨_, rfl⟩
  obtain ⟨q1, hq1⟩ : ∃ s, s = sumV (·.z1) (l ++ [⟨xn, xg, xa, x0, x1, x2, xr, xwa, xwn, xwc, xba, xbn, xbc⟩]) := ⟨_, rfl⟩
  obtain ⟨q2, hq2⟩ : ∃ s, s = sumV (·.z2) (l ++ [⟨xn, xg, xa, x0, x1, x2, xr, xwa, xwn, xwc, xba, xbn, xbc⟩]) := ⟨_, rfl⟩
  obtain ⟨qe, hqe⟩ : ∃ s, s = sumE (l ++ [⟨xn, xg, xa, x0, x1, x2, xr, xwa, xwn, xwc, xba, xbn, xbc⟩]) := ⟨_, rfl⟩
  rw [← hs0, ← hs1, ← hs2, ← hse] at U1
  rw [← hq0, ← hq1, ← hq2, ← hqe] at HA HA2
  have HPL : Hid (qe = 1 ∧ q0 = 0 ∧ q1 = 0 ∧ q2 = 0 ∨ qe = 0 ∧ se = 0 ∧ q0 = s0 + x0 ∧ q1 = s1 + x1 ∧ q2 = s2 + x2 ∧ (0 ≤ s0 ∧ s0 ≤ 35184372088832) ∧ (0 ≤ s1 ∧ s1 ≤ 35184372088832) ∧ (0 ≤ s2 ∧ s2 ≤ 35184372088832) ∧ (0 ≤ x0 ∧ x0 ≤ 1099511627776) ∧ (0 ≤ x1 ∧ x1 ≤ 1099511627776) ∧ (0 ≤ x2 ∧ x2 ≤ 1099511627776)) := by
    show _ ∨ _
    rcases HE1.out with h | h
    · right
      obtain ⟨m1, m2, ⟨m3, m4, m5⟩, m6, m7, m8⟩ := HMO.out h
      rw [← hse] at m1
      rw [← hs0] at m3
      rw [← hs1] at m4
      rw [← hs2] at m5
      exact ⟨by rw [hqe, h], m1, by rw [hq0, m2, ← hs0], by rw [hq1, m2, ← hs1], by rw [hq2, m2, ← hs2], m3, m4, m5, m6, m7, m8⟩
    · left
      exact ⟨by rw [hqe, h], by rw [hq0, HBD.out _ h], by rw [hq1, HBD.out _ h], by rw [hq2, HBD.out _ h]⟩
  clear hs0 hs1 hs2 hse hq0 hq1 hq2 hqe HE1 HMO HBD z0 z1 z2 ze
  have gf := guard_arr
  go_enter Try.func3, Try.ntmps3
  go_wp2_with fail
  refine (rooms_true _).mono ?_
  rintro e w1 ⟨rfl, hb⟩
  have HP1 : Hid (Bw w1 w.heap.size [.string xn, .int .i64 x0, .int .i64 x1, .int .i64 x2, .slice xwa xwn xwc, .slice xba xbn xbc, .string xg, .string xa, .int .i64 xr] 26) := (Bw.made w [.string xn, .int .i64 x0, .int .i64 x1, .int .i64 x2, .slice xwa xwn xwc, .slice xba xbn xbc, .string xg, .string xa, .int .i64 xr] 26).inn hb (by simp)
  have HW1 : Hid (Below w.heap.size w w1) := (al w _).trans (hb.mono (by simp))
  clear hb
  go_wp2_with fail
  refine (U0.out _).mono ?_
  rintro e w2 ⟨rfl, hb⟩
  have HW2 : Hid (Below w.heap.size w w2) := HW1.out.trans (hb.mono HW1.out.size)
  have HP2 : Hid (Bw w2 w.heap.size [.string xn, .int .i64 x0, .int .i64 x1, .int .i64 x2, .slice xwa xwn xwc, .slice xba xbn xbc, .string xg, .string xa, .int .i64 xr] 26) := HP1.out.inn hb HP1.out.lt
  clear hb HP1 HW1
  go_wp2_with fail
  refine (U1.out _ (HW2.out.trans ((al w2 _).mono HW2.out.size))).mono ?_
  rintro e w3 ⟨rfl, hb⟩
  have HN3 : Hid (Bw w3 w2.heap.size [.int .i64 0, .int .i64 0, .int .i64 0] 23) := (Bw.made w2 [.int .i64 0, .int .i64 0, .int .i64 0] 23).inn hb (by simp)
  have HB3 : Hid (Below w2.heap.size w2 w3) := (al w2 _).trans (hb.mono (by simp))
  clear hb
  have HW3 : Hid (Below w.heap.size w w3) := HW2.out.trans (HB3.out.mono HW2.out.size)
  have HP3 : Hid (Bw w3 w.heap.size [.string xn, .int .i64 x0, .int .i64 x1, .int .i64 x2, .slice xwa xwn xwc, .slice xba xbn xbc, .string xg, .string xa, .int .i64 xr] 26) := HP2.out.inn HB3.out HP2.out.lt
  clear HP2 HB3
  go_upto_region 5 with fail
  obtain ⟨Z, hZ⟩ : ∃ Z, Z = w3.alloc (.cells #[.int .i64 s0, .int .i64 s1, .int .i64 s2] 23) := ⟨_, rfl⟩
  rw [← hZ]
  have hbz : Below w3.heap.size w3 Z := by rw [hZ]; exact al _ _
  have HAZ : Hid (Bw Z w3.heap.size [.int .i64 s0, .int .i64 s1, .int .i64 s2] 23) := by rw [hZ]; exact Bw.made w3 [.int .i64 s0, .int .i64 s1, .int .i64 s2] 23
  have HPZ : Hid (Bw Z w.heap.size [.string xn, .int .i64 x0, .int .i64 x1, .int .i64 x2, .slice xwa xwn xwc, .slice xba xbn xbc, .string xg, .string xa, .int .i64 xr] 26) := HP3.out.inn hbz HP3.out.lt
  have HNZ : Hid (Bw Z w2.heap.size [.int .i64 0, .int .i64 0, .int .i64 0] 23) := HN3.out.inn hbz HN3.out.lt
  have HWZ : Hid (Below w.heap.size w Z) := HW3.out.trans (hbz.mono HW3.out.size)
  have HNA : Hid (w2.heap.size ≠ w3.heap.size) := by have := HN3.out.lt; show _ ≠ _; omega
  have HWA : Hid (w.heap.size ≤ w3.heap.size) := HW3.out.size
  have HWN : Hid (w3.heap.size ≠ w.heap.size) := by have := HP3.out.lt; show _ ≠ _; omega
  generalize w3.heap.size = nA at *
  generalize w2.heap.size = nN at *
  clear hZ hbz HP3 HN3 HW3 HW2
  obtain ⟨base, hbase⟩ : ∃ n, n = Z.heap.size := ⟨_, rfl⟩
  have HBS := Lib.hid hbase
  have HPb : Hid (w.heap.size < base ∧ nN < base ∧ nA < base) := by have h1 := HPZ.out.lt; have h2 := HNZ.out.lt; have h3 := HAZ.out.lt; exact ⟨by omega, by omega, by omega⟩
  clear hbase
  have HKP : Hid (∀ z, Below base Z z → Bw z w.heap.size [.string xn, .int .i64 x0, .int .i64 x1, .int .i64 x2, .slice xwa xwn xwc, .slice xba xbn xbc, .string xg, .string xa, .int .i64 xr] 26) := fun z hz => HPZ.out.inn hz HPb.out.1
  have HS : Hid (∀ z, Below base Z z → (z.cell? ⟨w.heap.size, 0, none⟩ = some (.string xn) ∧ z.cell? ⟨w.heap.size, 1, none⟩ = some (.int .i64 x0) ∧ z.cell? ⟨w.heap.size, 2, none⟩ = some (.int .i64 x1) ∧ z.cell? ⟨w.heap.size, 3, none⟩ = some (.int .i64 x2) ∧ z.cell? ⟨w.heap.size, 4, none⟩ = some (.slice xwa xwn xwc) ∧ z.cell? ⟨w.heap.size, 5, none⟩ = some (.slice xba xbn xbc) ∧ z.cell? ⟨w.heap.size, 6, none⟩ = some (.string xg) ∧ z.cell? ⟨w.heap.size, 7, none⟩ = some (.string xa) ∧ z.cell? ⟨w.heap.size, 8, none⟩ = some (.int .i64 xr))) := fun z hz => ⟨(HPZ.out.inn hz HPb.out.1).cell 0, (HPZ.out.inn hz HPb.out.1).cell 1, (HPZ.out.inn hz HPb.out.1).cell 2, (HPZ.out.inn hz HPb.out.1).cell 3, (HPZ.out.inn hz HPb.out.1).cell 4, (HPZ.out.inn hz HPb.out.1).cell 5, (HPZ.out.inn hz HPb.out.1).cell 6, (HPZ.out.inn hz HPb.out.1).cell 7, (HPZ.out.inn hz HPb.out.1).cell 8⟩
  have HZ0 : Hid (Below base Z Z.drew) := ⟨rfl, rfl, rfl, Nat.le_refl _, fun _ _ => rfl⟩
  go_cut [9, 10] from 25 to 34 (fun p q wx => ∃ nF : Nat, p = .pointer (some ⟨nF, 0, none⟩) ∧ q = .int .i64 (qe : Nat) ∧ Aside (Bw wx nF [.int .i64 q0, .int .i64 q1, .int .i64 q2] 23 ∧ base ≤ nF ∧ Below base Z wx))
  case first =>
    refine wp_region_held_drew (S := fun z => z.cell? ⟨w.heap.size, 0, none⟩ = some (.string xn) ∧ z.cell? ⟨w.heap.size, 1, none⟩ = some (.int .i64 x0) ∧ z.cell? ⟨w.heap.size, 2, none⟩ = some (.int .i64 x1) ∧ z.cell? ⟨w.heap.size, 3, none⟩ = some (.int .i64 x2) ∧ z.cell? ⟨w.heap.size, 4, none⟩ = some (.slice xwa xwn xwc) ∧ z.cell? ⟨w.heap.size, 5, none⟩ = some (.slice xba xbn xbc) ∧ z.cell? ⟨w.heap.size, 6, none⟩ = some (.string xg) ∧ z.cell? ⟨w.heap.size, 7, none⟩ = some (.string xa) ∧ z.cell? ⟨w.heap.size, 8, none⟩ = some (.int .i64 xr)) (by kernel_rfl) (HS.out _ HZ0.out) (fun hHeld => ?_)
    generalize Z.drew = w10 at *
    have HB : Hid (Below base Z w10) := HZ0.out
    clear HZ0
    refine wpAnyH_take (i := 1) (v := ?_) rfl (by kernel_rfl) (by kernel_rfl) (by kernel_rfl) (fun _ _ _ h => h) (Or.inl ⟨by rfl, ?_⟩) (by assumption) ?_
    rotate_left
    · intro z hSz
      obtain ⟨k0, k1, k2, k3, k4, k5, k6, k7, k8⟩ := hSz
      go_simp
      try with_reducible rfl
    try simp only [Act.put, List.setIfInBounds_toArray, List.set_cons_zero, List.set_cons_succ, List.getElem_toArray, List.getElem_cons_succ, List.getElem_cons_zero]
    refine wpAnyH_take (i := 3) (v := ?_) rfl (by kernel_rfl) (by kernel_rfl) (by kernel_rfl) (fun _ _ _ h => h) (Or.inl ⟨by rfl, ?_⟩) (by assumption) ?_
    rotate_left
    · intro z hSz
      obtain ⟨k0, k1, k2, k3, k4, k5, k6, k7, k8⟩ := hSz
      go_simp
      try with_reducible rfl
    try simp only [Act.put, List.setIfInBounds_toArray, List.set_cons_zero, List.set_cons_succ, List.getElem_toArray, List.getElem_cons_succ, List.getElem_cons_zero]
    refine wpAnyH_ready (rs := [0, 4, 10]) (by kernel_rfl) (by simp) ?_
    refine AllReadyH.cons rfl (fun K hK => ?_) ?_
    · have HB0 : Hid (base ≤ w10.heap.size) := by rw [HBS.out]; exact HB.out.size
      go_simp
      obtain ⟨nR, hnR⟩ : ∃ n, n = w10.heap.size := ⟨_, rfl⟩
      obtain ⟨w11, hw⟩ : ∃ x, x = w10.alloc (.cells #[] 26) := ⟨_, rfl⟩
      have hb : Below w10.heap.size w10 w11 := by rw [hw]; exact al _ _
      have hn : OwnT w11 base (.slice (some ⟨nR, 0, none⟩) 0 0) [] := by rw [hw, hnR]; exact OwnT.made w10 base HB0.out
      rw [← hw]
      rw [← hnR]
      have HB2 : Hid (Below base Z w11) := HB.out.trans (hb.mono HB0.out)
      clear HB
      have HB := HB2
      clear HB2
      have HR := Lib.hid hn
      clear hb hn hw hnR
      clear HB0
      refine hK.out _ _ (HS.out _ HB.out) (fun hHeld2 => ?_)
      clear hK K hHeld
      have hHeld := hHeld2
      clear hHeld2
      try simp only [Act.put, List.setIfInBounds_toArray, List.set_cons_zero, List.set_cons_succ, List.getElem_toArray, List.getElem_cons_succ, List.getElem_cons_zero]
      refine wpAnyH_ready (rs := [2, 4, 10]) (by kernel_rfl) (by simp) ?_
      refine AllReadyH.cons rfl (fun K hK => ?_) ?_
      · have HB0 : Hid (base ≤ w11.heap.size) := by rw [HBS.out]; exact HB.out.size
        obtain ⟨vR, w12, hr, hn, hg, hwh⟩ := run_appT (m := l) HR.out HB0.out va vc 22 (HSRC.out _ (HWZ.out.trans (HB.out.mono (Nat.le_of_lt (Nat.lt_of_le_of_lt (Nat.le_refl _) HPb.out.1))))) HM1.out
        rw [List.nil_append] at hn
        refine step_app rfl (.tmp 26) (.tmp 27) 22 rfl _ _ _ rfl rfl hr ?_
        clear hr
        have HB2 : Hid (Below base Z w12) := HB.out.grown hg HB0.out (fun k hk => (HR.out.lt k hk).1)
        clear HR HB hg hwh
        have HR := Lib.hid hn
        have HB := HB2
        clear hn HB2
        clear HB0
        refine hK.out _ _ (HS.out _ HB.out) (fun hHeld2 => ?_)
        clear hK K hHeld
        have hHeld := hHeld2
        clear hHeld2
        try simp only [Act.put, List.setIfInBounds_toArray, List.set_cons_zero, List.set_cons_succ, List.getElem_toArray, List.getElem_cons_succ, List.getElem_cons_zero]
        refine wpAnyH_ready (rs := [4, 10]) (by kernel_rfl) (by simp) ?_
        refine AllReadyH.cons rfl (fun K hK => ?_) ?_
        · have HB0 : Hid (base ≤ w12.heap.size) := by rw [HBS.out]; exact HB.out.size
          go_simp
          obtain ⟨nC, hnC⟩ : ∃ n, n = w12.heap.size := ⟨_, rfl⟩
          obtain ⟨w13, hw⟩ : ∃ x, x = w12.alloc (.cells #[.string xn, .int .i64 x0, .int .i64 x1, .int .i64 x2, .slice xwa xwn xwc, .slice xba xbn xbc, .string xg, .string xa, .int .i64 xr] 26) := ⟨_, rfl⟩
          have hb : Below w12.heap.size w12 w13 := by rw [hw]; exact al _ _
          have hn : ∀ j u, (flatT [(⟨xn, xg, xa, x0, x1, x2, xr, xwa, xwn, xwc, xba, xbn, xbc⟩ : Tk)])[j]? = some u → w13.cell? ((⟨nC, 0, none⟩ : Addr).add j) = some u := by rw [hw, hnC, flatT_one]; exact news_new w12 _ _
          have hn2 : nC < w13.heap.size := by rw [hw, hnC]; simp
          rw [← hw]
          rw [← hnC]
          have hne : vR.ownBlock ≠ some nC := by intro e; have := (HR.out.lt nC e).2; omega
          have HR2 := Lib.hid (HR.out.keep hb)
          clear HR
          have HR := HR2
          clear HR2
          have HB2 : Hid (Below base Z w13) := HB.out.trans (hb.mono HB0.out)
          clear HB
          have HB := HB2
          clear HB2
          have HC := Lib.hid hn
          have HNC := Lib.hid hn2
          clear hn2
          have HNE := Lib.hid hne
          clear hne
          clear hb hn hw hnC
          clear HB0
          refine hK.out _ _ (HS.out _ HB.out) (fun hHeld2 => ?_)
          clear hK K hHeld
          have hHeld := hHeld2
          clear hHeld2
          try simp only [Act.put, List.setIfInBounds_toArray, List.set_cons_zero, List.set_cons_succ, List.getElem_toArray, List.getElem_cons_succ, List.getElem_cons_zero]
          refine wpAnyH_ready (rs := [5, 10]) (by kernel_rfl) (by simp) ?_
          refine AllReadyH.cons rfl (fun K hK => ?_) ?_
          · have HB0 : Hid (base ≤ w13.heap.size) := by rw [HBS.out]; exact HB.out.size
            obtain ⟨vD, w14, hr, hn, hg, -⟩ := run_appT (m := [⟨xn, xg, xa, x0, x1, x2, xr, xwa, xwn, xwc, xba, xbn, xbc⟩]) HR.out HB0.out (some ⟨nC, 0, none⟩) 1 22 (.inr ⟨_, rfl, HC.out⟩) HM2.out
            refine step_app rfl (.tmp 28) (.tmp 30) 22 rfl _ _ _ rfl rfl hr ?_
            clear hr
            have HB2 : Hid (Below base Z w14) := HB.out.grown hg HB0.out (fun k hk => (HR.out.lt k hk).1)
            clear HR HB hg HC HNC HNE
            have HR := Lib.hid hn
            have HB := HB2
            clear hn HB2
            clear HB0
            refine hK.out _ _ (HS.out _ HB.out) (fun hHeld2 => ?_)
            clear hK K hHeld
            have hHeld := hHeld2
            clear hHeld2
            try simp only [Act.put, List.setIfInBounds_toArray, List.set_cons_zero, List.set_cons_succ, List.getElem_toArray, List.getElem_cons_succ, List.getElem_cons_zero]
            refine wpAnyH_ready (rs := [6, 10]) (by kernel_rfl) (by simp) ?_
            refine AllReadyH.cons rfl (fun K hK => ?_) ?_
            · have HB0 : Hid (base ≤ w14.heap.size) := by rw [HBS.out]; exact HB.out.size
              go_simp
              refine (HA.out _ _ _ HR.out).mono ?_
              rintro e w15 ⟨rfl, hb⟩
              clear HR
              have HB2 : Hid (Below base Z w15) := HB.out.trans (hb.mono HB0.out)
              clear HB
              have HB := HB2
              clear HB2
              clear hb
              clear HB0
              refine hK.out _ _ (HS.out _ HB.out) (fun hHeld2 => ?_)
              clear hK K hHeld
              have hHeld := hHeld2
              clear hHeld2
              try simp only [Act.put, List.setIfInBounds_toArray, List.set_cons_zero, List.set_cons_succ, List.getElem_toArray, List.getElem_cons_succ, List.getElem_cons_zero]
              refine wpAnyH_take (i := 7) (v := ?_) rfl (by kernel_rfl) (by kernel_rfl) (by kernel_rfl) (fun _ _ _ h => h) (Or.inl ⟨by rfl, ?_⟩) (by assumption) ?_
              rotate_left
              · intro z hSz
                obtain ⟨k0, k1, k2, k3, k4, k5, k6, k7, k8⟩ := hSz
                go_simp
                try with_reducible rfl
              try simp only [Act.put, List.setIfInBounds_toArray, List.set_cons_zero, List.set_cons_succ, List.getElem_toArray, List.getElem_cons_succ, List.getElem_cons_zero]
              refine wpAnyH_take (i := 8) (v := ?_) rfl (by kernel_rfl) (by kernel_rfl) (by kernel_rfl) (fun _ _ _ h => h) (Or.inl ⟨by rfl, ?_⟩) (by assumption) ?_
              rotate_left
              · intro z hSz
                obtain ⟨k0, k1, k2, k3, k4, k5, k6, k7, k8⟩ := hSz
                go_simp
                try with_reducible rfl
              try simp only [Act.put, List.setIfInBounds_toArray, List.set_cons_zero, List.set_cons_succ, List.getElem_toArray, List.getElem_cons_succ, List.getElem_cons_zero]
              refine wpAnyH_take (i := 9) (v := ?_) rfl (by kernel_rfl) (by kernel_rfl) (by kernel_rfl) (fun _ _ _ h => h) (Or.inl ⟨by rfl, ?_⟩) (by assumption) ?_
              rotate_left
              · intro z hSz
                obtain ⟨k0, k1, k2, k3, k4, k5, k6, k7, k8⟩ := hSz
                go_simp
                try with_reducible rfl
              try simp only [Act.put, List.setIfInBounds_toArray, List.set_cons_zero, List.set_cons_succ, List.getElem_toArray, List.getElem_cons_succ, List.getElem_cons_zero]
              refine wpAnyH_ready (rs := [10]) (by kernel_rfl) (by simp) ?_
              refine AllReadyH.cons rfl (fun K hK => ?_) AllReadyH.nil
              have HB0 : Hid (base ≤ w15.heap.size) := by rw [HBS.out]; exact HB.out.size
              go_simp
              obtain ⟨nF, hnF⟩ : ∃ n, n = w15.heap.size := ⟨_, rfl⟩
              obtain ⟨w16, hw⟩ : ∃ x, x = w15.alloc (.cells #[.int .i64 0, .int .i64 0, .int .i64 0] 23) := ⟨_, rfl⟩
              have hb : Below w15.heap.size w15 w16 := by rw [hw]; exact al _ _
              have hn : Bw w16 nF [.int .i64 0, .int .i64 0, .int .i64 0] 23 := by rw [hw, hnF]; exact Bw.made w15 _ _
              have hn2 : base ≤ nF := by rw [hnF]; exact HB0.out
              rw [← hw]
              rw [← hnF]
              have HB2 : Hid (Below base Z w16) := HB.out.trans (hb.mono HB0.out)
              clear HB
              have HB := HB2
              clear HB2
              have HF := Lib.hid hn
              have HNF := Lib.hid hn2
              clear hn2
              clear hb hn hw hnF
              clear HB0
              refine hK.out _ _ (HS.out _ HB.out) (fun hHeld2 => ?_)
              clear hK K hHeld
              have hHeld := hHeld2
              clear hHeld2
              try simp only [Act.put, List.setIfInBounds_toArray, List.set_cons_zero, List.set_cons_succ, List.getElem_toArray, List.getElem_cons_succ, List.getElem_cons_zero]
              refine wpAnyH_ready (rs := [11]) (by kernel_rfl) (by simp) ?_
              refine AllReadyH.cons rfl (fun K hK => ?_) AllReadyH.nil
              have m0 : w16.cell? ⟨nF, 0, none⟩ = some (.int .i64 0) := HF.out.cell 0
              have m1 : w16.cell? ⟨nF, 1, none⟩ = some (.int .i64 0) := HF.out.cell 1
              have m2 : w16.cell? ⟨nF, 2, none⟩ = some (.int .i64 0) := HF.out.cell 2
              have f0 : w16.frozen? ⟨nF, 0, none⟩ = false := HF.out.fz 0
              have f1 : w16.frozen? ⟨nF, 1, none⟩ = false := HF.out.fz 1
              have f2 : w16.frozen? ⟨nF, 2, none⟩ = false := HF.out.fz 2
              go_simp
              have HF9 : Hid (Bw (((w16.setCell ⟨nF, 0, none⟩ (.int .i64 q0)).setCell ⟨nF, 1, none⟩ (.int .i64 q1)).setCell ⟨nF, 2, none⟩ (.int .i64 q2)) nF [.int .i64 q0, .int .i64 q1, .int .i64 q2] 23) := ((HF.out.set 0 (.int .i64 q0)).set 1 (.int .i64 q1)).set 2 (.int .i64 q2)
              have HB9 : Hid (Below base Z (((w16.setCell ⟨nF, 0, none⟩ (.int .i64 q0)).setCell ⟨nF, 1, none⟩ (.int .i64 q1)).setCell ⟨nF, 2, none⟩ (.int .i64 q2))) := ((HB.out.setCell (p := ⟨nF, 0, none⟩) HNF.out _).setCell (p := ⟨nF, 1, none⟩) HNF.out _).setCell (p := ⟨nF, 2, none⟩) HNF.out _
              clear m0 m1 m2 f0 f1 f2 HF HB
              refine hK.out _ _ (HS.out _ HB9.out) (fun hHeld2 => ?_)
              clear hK K hHeld
              have hHeld := hHeld2
              clear hHeld2
              try simp only [Act.put, List.setIfInBounds_toArray, List.set_cons_zero, List.set_cons_succ, List.getElem_toArray, List.getElem_cons_succ, List.getElem_cons_zero]
              refine wpAnyH_take (i := 12) (v := ?_) rfl (by kernel_rfl) (by kernel_rfl) (by kernel_rfl) (fun _ _ _ h => h) (Or.inl ⟨by rfl, ?_⟩) (by assumption) ?_
              rotate_left
              · intro z hSz
                obtain ⟨k0, k1, k2, k3, k4, k5, k6, k7, k8⟩ := hSz
                go_simp
                try with_reducible rfl
              try simp only [Act.put, List.setIfInBounds_toArray, List.set_cons_zero, List.set_cons_succ, List.getElem_toArray, List.getElem_cons_succ, List.getElem_cons_zero]
              refine wpAnyH_done (by kernel_rfl) ?_ _
              clear hHeld
              go_wp2_with fail
              go_meet
              case rel => exact ⟨nF, rfl, rfl, ⟨HF9.out, HNF.out, HB9.out⟩⟩
            refine AllReadyH.cons rfl (fun K hK => ?_) AllReadyH.nil
            have HB0 : Hid (base ≤ w14.heap.size) := by rw [HBS.out]; exact HB.out.size
            go_simp
            obtain ⟨nF, hnF⟩ : ∃ n, n = w14.heap.size := ⟨_, rfl⟩
            obtain ⟨w15, hw⟩ : ∃ x, x = w14.alloc (.cells #[.int .i64 0, .int .i64 0, .int .i64 0] 23) := ⟨_, rfl⟩
            have hb : Below w14.heap.size w14 w15 := by rw [hw]; exact al _ _
            have hn : Bw w15 nF [.int .i64 0, .int .i64 0, .int .i64 0] 23 := by rw [hw, hnF]; exact Bw.made w14 _ _
            have hn2 : base ≤ nF := by rw [hnF]; exact HB0.out
            rw [← hw]
            rw [← hnF]
            have HR2 := Lib.hid (HR.out.keep hb)
            clear HR
            have HR := HR2
            clear HR2
            have HB2 : Hid (Below base Z w15) := HB.out.trans (hb.mono HB0.out)
            clear HB
            have HB := HB2
            clear HB2
            have HF := Lib.hid hn
            have HNF := Lib.hid hn2
            clear hn2
            clear hb hn hw hnF
            clear HB0
            refine hK.out _ _ (HS.out _ HB.out) (fun hHeld2 => ?_)
            clear hK K hHeld
            have hHeld := hHeld2
            clear hHeld2
            try simp only [Act.put, List.setIfInBounds_toArray, List.set_cons_zero, List.set_cons_succ, List.getElem_toArray, List.getElem_cons_succ, List.getElem_cons_zero]
            refine wpAnyH_ready (rs := [6]) (by kernel_rfl) (by simp) ?_
            refine AllReadyH.cons rfl (fun K hK => ?_) AllReadyH.nil
            have HB0 : Hid (base ≤ w15.heap.size) := by rw [HBS.out]; exact HB.out.size
            go_simp
            refine (HA.out _ _ _ HR.out).mono ?_
            rintro e w16 ⟨rfl, hb⟩
            clear HR
            have HF2 := Lib.hid (HF.out.inn hb HF.out.lt)
            clear HF
            have HF := HF2
            clear HF2
            have HB2 : Hid (Below base Z w16) := HB.out.trans (hb.mono HB0.out)
            clear HB
            have HB := HB2
            clear HB2
            clear hb
            clear HB0
            refine hK.out _ _ (HS.out _ HB.out) (fun hHeld2 => ?_)
            clear hK K hHeld
            have hHeld := hHeld2
            clear hHeld2
            try simp only [Act.put, List.setIfInBounds_toArray, List.set_cons_zero, List.set_cons_succ, List.getElem_toArray, List.getElem_cons_succ, List.getElem_cons_zero]
            refine wpAnyH_take (i := 7) (v := ?_) rfl (by kernel_rfl) (by kernel_rfl) (by kernel_rfl) (fun _ _ _ h => h) (Or.inl ⟨by rfl, ?_⟩) (by assumption) ?_
            rotate_left
            · intro z hSz
              obtain ⟨k0, k1, k2, k3, k4, k5, k6, k7, k8⟩ := hSz
              go_simp
              try with_reducible rfl
            try simp only [Act.put, List.setIfInBounds_toArray, List.set_cons_zero, List.set_cons_succ, List.getElem_toArray, List.getElem_cons_succ, List.getElem_cons_zero]
            refine wpAnyH_take (i := 8) (v := ?_) rfl (by kernel_rfl) (by kernel_rfl) (by kernel_rfl) (fun _ _ _ h => h) (Or.inl ⟨by rfl, ?_⟩) (by assumption) ?_
            rotate_left
            · intro z hSz
              obtain ⟨k0, k1, k2, k3, k4, k5, k6, k7, k8⟩ := hSz
              go_simp
              try with_reducible rfl
            try simp only [Act.put, List.setIfInBounds_toArray, List.set_cons_zero, List.set_cons_succ, List.getElem_toArray, List.getElem_cons_succ, List.getElem_cons_zero]
            refine wpAnyH_take (i := 9) (v := ?_) rfl (by kernel_rfl) (by kernel_rfl) (by kernel_rfl) (fun _ _ _ h => h) (Or.inl ⟨by rfl, ?_⟩) (by assumption) ?_
            rotate_left
            · intro z hSz
              obtain ⟨k0, k1, k2, k3, k4, k5, k6, k7, k8⟩ := hSz
              go_simp
              try with_reducible rfl
            try simp only [Act.put, List.setIfInBounds_toArray, List.set_cons_zero, List.set_cons_succ, List.getElem_toArray, List.getElem_cons_succ, List.getElem_cons_zero]
            refine wpAnyH_ready (rs := [11]) (by kernel_rfl) (by simp) ?_
            refine AllReadyH.cons rfl (fun K hK => ?_) AllReadyH.nil
            have m0 : w16.cell? ⟨nF, 0, none⟩ = some (.int .i64 0) := HF.out.cell 0
            have m1 : w16.cell? ⟨nF, 1, none⟩ = some (.int .i64 0) := HF.out.cell 1
            have m2 : w16.cell? ⟨nF, 2, none⟩ = some (.int .i64 0) := HF.out.cell 2
            have f0 : w16.frozen? ⟨nF, 0, none⟩ = false := HF.out.fz 0
            have f1 : w16.frozen? ⟨nF, 1, none⟩ = false := HF.out.fz 1
            have f2 : w16.frozen? ⟨nF, 2, none⟩ = false := HF.out.fz 2
            go_simp
            have HF9 : Hid (Bw (((w16.setCell ⟨nF, 0, none⟩ (.int .i64 q0)).setCell ⟨nF, 1, none⟩ (.int .i64 q1)).setCell ⟨nF, 2, none⟩ (.int .i64 q2)) nF [.int .i64 q0, .int .i64 q1, .int .i64 q2] 23) := ((HF.out.set 0 (.int .i64 q0)).set 1 (.int .i64 q1)).set 2 (.int .i64 q2)
            have HB9 : Hid (Below base Z (((w16.setCell ⟨nF, 0, none⟩ (.int .i64 q0)).setCell ⟨nF, 1, none⟩ (.int .i64 q1)).setCell ⟨nF, 2, none⟩ (.int .i64 q2))) := ((HB.out.setCell (p := ⟨nF, 0, none⟩) HNF.out _).setCell (p := ⟨nF, 1, none⟩) HNF.out _).setCell (p := ⟨nF, 2, none⟩) HNF.out _
            clear m0 m1 m2 f0 f1 f2 HF HB
            refine hK.out _ _ (HS.out _ HB9.out) (fun hHeld2 => ?_)
            clear hK K hHeld
            have hHeld := hHeld2
            clear hHeld2
            try simp only [Act.put, List.setIfInBounds_toArray, List.set_cons_zero, List.set_cons_succ, List.getElem_toArray, List.getElem_cons_succ, List.getElem_cons_zero]
            refine wpAnyH_take (i := 12) (v := ?_) rfl (by kernel_rfl) (by kernel_rfl) (by kernel_rfl) (fun _ _ _ h => h) (Or.inl ⟨by rfl, ?_⟩) (by assumption) ?_
            rotate_left
            · intro z hSz
              obtain ⟨k0, k1, k2, k3, k4, k5, k6, k7, k8⟩ := hSz
              go_simp
              try with_reducible rfl
            try simp only [Act.put, List.setIfInBounds_toArray, List.set_cons_zero, List.set_cons_succ, List.getElem_toArray, List.getElem_cons_succ, List.getElem_cons_zero]
            refine wpAnyH_done (by kernel_rfl) ?_ _
            clear hHeld
            go_wp2_with fail
            go_meet
            case rel => exact ⟨nF, rfl, rfl, ⟨HF9.out, HNF.out, HB9.out⟩⟩
          refine AllReadyH.cons rfl (fun K hK => ?_) AllReadyH.nil
          have HB0 : Hid (base ≤ w13.heap.size) := by rw [HBS.out]; exact HB.out.size
          go_simp
          obtain ⟨nF, hnF⟩ : ∃ n, n = w13.heap.size := ⟨_, rfl⟩
          obtain ⟨w14, hw⟩ : ∃ x, x = w13.alloc (.cells #[.int .i64 0, .int .i64 0, .int .i64 0] 23) := ⟨_, rfl⟩
          have hb : Below w13.heap.size w13 w14 := by rw [hw]; exact al _ _
          have hn : Bw w14 nF [.int .i64 0, .int .i64 0, .int .i64 0] 23 := by rw [hw, hnF]; exact Bw.made w13 _ _
          have hn2 : base ≤ nF := by rw [hnF]; exact HB0.out
          rw [← hw]
          rw [← hnF]
          have HR2 := Lib.hid (HR.out.keep hb)
          clear HR
          have HR := HR2
          clear HR2
          have HC2 := Lib.hid (news_keep HC.out (hb.block nC HNC.out))
          have HNC2 : Hid (nC < w14.heap.size) := Nat.lt_of_lt_of_le HNC.out hb.size
          clear HC HNC
          have HC := HC2
          have HNC := HNC2
          clear HC2 HNC2
          have HB2 : Hid (Below base Z w14) := HB.out.trans (hb.mono HB0.out)
          clear HB
          have HB := HB2
          clear HB2
          have HF := Lib.hid hn
          have HNF := Lib.hid hn2
          clear hn2
          clear hb hn hw hnF
          clear HB0
          refine hK.out _ _ (HS.out _ HB.out) (fun hHeld2 => ?_)
          clear hK K hHeld
          have hHeld := hHeld2
          clear hHeld2
          try simp only [Act.put, List.setIfInBounds_toArray, List.set_cons_zero, List.set_cons_succ, List.getElem_toArray, List.getElem_cons_succ, List.getElem_cons_zero]
          refine wpAnyH_ready (rs := [5]) (by kernel_rfl) (by simp) ?_
          refine AllReadyH.cons rfl (fun K hK => ?_) AllReadyH.nil
          have HB0 : Hid (base ≤ w14.heap.size) := by rw [HBS.out]; exact HB.out.size
          obtain ⟨vD, w15, hr, hn, hg, -⟩ := run_appT (m := [⟨xn, xg, xa, x0, x1, x2, xr, xwa, xwn, xwc, xba, xbn, xbc⟩]) HR.out HB0.out (some ⟨nC, 0, none⟩) 1 22 (.inr ⟨_, rfl, HC.out⟩) HM2.out
          refine step_app rfl (.tmp 28) (.tmp 30) 22 rfl _ _ _ rfl rfl hr ?_
          clear hr
          have HB2 : Hid (Below base Z w15) := HB.out.grown hg HB0.out (fun k hk => (HR.out.lt k hk).1)
          have HF2 := Lib.hid (HF.out.grown hg (own_type HR.out HF.out (by decide)))
          clear HF
          have HF := HF2
          clear HF2
          clear HR HB hg HC HNC HNE
          have HR := Lib.hid hn
          have HB := HB2
          clear hn HB2
          clear HB0
          refine hK.out _ _ (HS.out _ HB.out) (fun hHeld2 => ?_)
          clear hK K hHeld
          have hHeld := hHeld2
          clear hHeld2
          try simp only [Act.put, List.setIfInBounds_toArray, List.set_cons_zero, List.set_cons_succ, List.getElem_toArray, List.getElem_cons_succ, List.getElem_cons_zero]
          refine wpAnyH_ready (rs := [6]) (by kernel_rfl) (by simp) ?_
          refine AllReadyH.cons rfl (fun K hK => ?_) AllReadyH.nil
          have HB0 : Hid (base ≤ w15.heap.size) := by rw [HBS.out]; exact HB.out.size
          go_simp
          refine (HA.out _ _ _ HR.out).mono ?_
          rintro e w16 ⟨rfl, hb⟩
          clear HR
          have HF2 := Lib.hid (HF.out.inn hb HF.out.lt)
          clear HF
          have HF := HF2
          clear HF2
          have HB2 : Hid (Below base Z w16) := HB.out.trans (hb.mono HB0.out)
          clear HB
          have HB := HB2
          clear HB2
          clear hb
          clear HB0
          refine hK.out _ _ (HS.out _ HB.out) (fun hHeld2 => ?_)
          clear hK K hHeld
          have hHeld := hHeld2
          clear hHeld2
          try simp only [Act.put, List.setIfInBounds_toArray, List.set_cons_zero, List.set_cons_succ, List.getElem_toArray, List.getElem_cons_succ, List.getElem_cons_zero]
          refine wpAnyH_take (i := 7) (v := ?_) rfl (by kernel_rfl) (by kernel_rfl) (by kernel_rfl) (fun _ _ _ h => h) (Or.inl ⟨by rfl, ?_⟩) (by assumption) ?_
          rotate_left
          · intro z hSz
            obtain ⟨k0, k1, k2, k3, k4, k5, k6, k7, k8⟩ := hSz
            go_simp
            try with_reducible rfl
          try simp only [Act.put, List.setIfInBounds_toArray, List.set_cons_zero, List.set_cons_succ, List.getElem_toArray, List.getElem_cons_succ, List.getElem_cons_zero]
          refine wpAnyH_take (i := 8) (v := ?_) rfl (by kernel_rfl) (by kernel_rfl) (by kernel_rfl) (fun _ _ _ h => h) (Or.inl ⟨by rfl, ?_⟩) (by assumption) ?_
          rotate_left
          · intro z hSz
            obtain ⟨k0, k1, k2, k3, k4, k5, k6, k7, k8⟩ := hSz
            go_simp
            try with_reducible rfl
          try simp only [Act.put, List.setIfInBounds_toArray, List.set_cons_zero, List.set_cons_succ, List.getElem_toArray, List.getElem_cons_succ, List.getElem_cons_zero]
          refine wpAnyH_take (i := 9) (v := ?_) rfl (by kernel_rfl) (by kernel_rfl) (by kernel_rfl) (fun _ _ _ h => h) (Or.inl ⟨by rfl, ?_⟩) (by assumption) ?_
          rotate_left
          · intro z hSz
            obtain ⟨k0, k1, k2, k3, k4, k5, k6, k7, k8⟩ := hSz
            go_simp
            try with_reducible rfl
          try simp only [Act.put, List.setIfInBounds_toArray, List.set_cons_zero, List.set_cons_succ, List.getElem_toArray, List.getElem_cons_succ, List.getElem_cons_zero]
          refine wpAnyH_ready (rs := [11]) (by kernel_rfl) (by simp) ?_
          refine AllReadyH.cons rfl (fun K hK => ?_) AllReadyH.nil
          have m0 : w16.cell? ⟨nF, 0, none⟩ = some (.int .i64 0) := HF.out.cell 0
          have m1 : w16.cell? ⟨nF, 1, none⟩ = some (.int .i64 0) := HF.out.cell 1
          have m2 : w16.cell? ⟨nF, 2, none⟩ = some (.int .i64 0) := HF.out.cell 2
          have f0 : w16.frozen? ⟨nF, 0, none⟩ = false := HF.out.fz 0
          have f1 : w16.frozen? ⟨nF, 1, none⟩ = false := HF.out.fz 1
          have f2 : w16.frozen? ⟨nF, 2, none⟩ = false := HF.out.fz 2
          go_simp
          have HF9 : Hid (Bw (((w16.setCell ⟨nF, 0, none⟩ (.int .i64 q0)).setCell ⟨nF, 1, none⟩ (.int .i64 q1)).setCell ⟨nF, 2, none⟩ (.int .i64 q2)) nF [.int .i64 q0, .int .i64 q1, .int .i64 q2] 23) := ((HF.out.set 0 (.int .i64 q0)).set 1 (.int .i64 q1)).set 2 (.int .i64 q2)
          have HB9 : Hid (Below base Z (((w16.setCell ⟨nF, 0, none⟩ (.int .i64 q0)).setCell ⟨nF, 1, none⟩ (.int .i64 q1)).setCell ⟨nF, 2, none⟩ (.int .i64 q2))) := ((HB.out.setCell (p := ⟨nF, 0, none⟩) HNF.out _).setCell (p := ⟨nF, 1, none⟩) HNF.out _).setCell (p := ⟨nF, 2, none⟩) HNF.out _
          clear m0 m1 m2 f0 f1 f2 HF HB
          refine hK.out _ _ (HS.out _ HB9.out) (fun hHeld2 => ?_)
          clear hK K hHeld
          have hHeld := hHeld2
          clear hHeld2
          try simp only [Act.put, List.setIfInBounds_toArray, List.set_cons_zero, List.set_cons_succ, List.getElem_toArray, List.getElem_cons_succ, List.getElem_cons_zero]
          refine wpAnyH_take (i := 12) (v := ?_) rfl (by kernel_rfl) (by kernel_rfl) (by kernel_rfl) (fun _ _ _ h => h) (Or.inl ⟨by rfl, ?_⟩) (by assumption) ?_
          rotate_left
          · intro z hSz
            obtain ⟨k0, k1, k2, k3, k4, k5, k6, k7, k8⟩ := hSz
            go_simp
            try with_reducible rfl
          try simp only [Act.put, List.setIfInBounds_toArray, List.set_cons_zero, List.set_cons_succ, List.getElem_toArray, List.getElem_cons_succ, List.getElem_cons_zero]
          refine wpAnyH_done (by kernel_rfl) ?_ _
          clear hHeld
          go_wp2_with fail
          go_meet
          case rel => exact ⟨nF, rfl, rfl, ⟨HF9.out, HNF.out, HB9.out⟩⟩
        refine AllReadyH.cons rfl (fun K hK => ?_) AllReadyH.nil
        have HB0 : Hid (base ≤ w12.heap.size) := by rw [HBS.out]; exact HB.out.size
        go_simp
        obtain ⟨nF, hnF⟩ : ∃ n, n = w12.heap.size := ⟨_, rfl⟩
        obtain ⟨w13, hw⟩ : ∃ x, x = w12.alloc (.cells #[.int .i64 0, .int .i64 0, .int .i64 0] 23) := ⟨_, rfl⟩
        have hb : Below w12.heap.size w12 w13 := by rw [hw]; exact al _ _
        have hn : Bw w13 nF [.int .i64 0, .int .i64 0, .int .i64 0] 23 := by rw [hw, hnF]; exact Bw.made w12 _ _
        have hn2 : base ≤ nF := by rw [hnF]; exact HB0.out
        rw [← hw]
        rw [← hnF]
        have HR2 := Lib.hid (HR.out.keep hb)
        clear HR
        have HR := HR2
        clear HR2
        have HB2 : Hid (Below base Z w13) := HB.out.trans (hb.mono HB0.out)
        clear HB
        have HB := HB2
        clear HB2
        have HF := Lib.hid hn
        have HNF := Lib.hid hn2
        clear hn2
        clear hb hn hw hnF
        clear HB0
        refine hK.out _ _ (HS.out _ HB.out) (fun hHeld2 => ?_)
        clear hK K hHeld
        have hHeld := hHeld2
        clear hHeld2
        try simp only [Act.put, List.setIfInBounds_toArray, List.set_cons_zero, List.set_cons_succ, List.getElem_toArray, List.getElem_cons_succ, List.getElem_cons_zero]
        refine wpAnyH_ready (rs := [4]) (by kernel_rfl) (by simp) ?_
        refine AllReadyH.cons rfl (fun K hK => ?_) AllReadyH.nil
        have HB0 : Hid (base ≤ w13.heap.size) := by rw [HBS.out]; exact HB.out.size
        go_simp
        obtain ⟨nC, hnC⟩ : ∃ n, n = w13.heap.size := ⟨_, rfl⟩
        obtain ⟨w14, hw⟩ : ∃ x, x = w13.alloc (.cells #[.string xn, .int .i64 x0, .int .i64 x1, .int .i64 x2, .slice xwa xwn xwc, .slice xba xbn xbc, .string xg, .string xa, .int .i64 xr] 26) := ⟨_, rfl⟩
        have hb : Below w13.heap.size w13 w14 := by rw [hw]; exact al _ _
        have hn : ∀ j u, (flatT [(⟨xn, xg, xa, x0, x1, x2, xr, xwa, xwn, xwc, xba, xbn, xbc⟩ : Tk)])[j]? = some u → w14.cell? ((⟨nC, 0, none⟩ : Addr).add j) = some u := by rw [hw, hnC, flatT_one]; exact news_new w13 _ _
        have hn2 : nC < w14.heap.size := by rw [hw, hnC]; simp
        rw [← hw]
        rw [← hnC]
        have hne : vR.ownBlock ≠ some nC := by intro e; have := (HR.out.lt nC e).2; omega
        have HR2 := Lib.hid (HR.out.keep hb)
        clear HR
        have HR := HR2
        clear HR2
        have HF2 := Lib.hid (HF.out.inn hb HF.out.lt)
        clear HF
        have HF := HF2
        clear HF2
        have HB2 : Hid (Below base Z w14) := HB.out.trans (hb.mono HB0.out)
        clear HB
        have HB := HB2
        clear HB2
        have HC := Lib.hid hn
        have HNC := Lib.hid hn2
        clear hn2
        have HNE := Lib.hid hne
        clear hne
        clear hb hn hw hnC
        clear HB0
        refine hK.out _ _ (HS.out _ HB.out) (fun hHeld2 => ?_)
        clear hK K hHeld
        have hHeld := hHeld2
        clear hHeld2
        try simp only [Act.put, List.setIfInBounds_toArray, List.set_cons_zero, List.set_cons_succ, List.getElem_toArray, List.getElem_cons_succ, List.getElem_cons_zero]
        refine wpAnyH_ready (rs := [5]) (by kernel_rfl) (by simp) ?_
        refine AllReadyH.cons rfl (fun K hK => ?_) AllReadyH.nil
        have HB0 : Hid (base ≤ w14.heap.size) := by rw [HBS.out]; exact HB.out.size
        obtain ⟨vD, w15, hr, hn, hg, -⟩ := run_appT (m := [⟨xn, xg, xa, x0, x1, x2, xr, xwa, xwn, xwc, xba, xbn, xbc⟩]) HR.out HB0.out (some ⟨nC, 0, none⟩) 1 22 (.inr ⟨_, rfl, HC.out⟩) HM2.out
        refine step_app rfl (.tmp 28) (.tmp 30) 22 rfl _ _ _ rfl rfl hr ?_
        clear hr
        have HB2 : Hid (Below base Z w15) := HB.out.grown hg HB0.out (fun k hk => (HR.out.lt k hk).1)
        have HF2 := Lib.hid (HF.out.grown hg (own_type HR.out HF.out (by decide)))
        clear HF
        have HF := HF2
        clear HF2
        clear HR HB hg HC HNC HNE
        have HR := Lib.hid hn
        have HB := HB2
        clear hn HB2
        clear HB0
        refine hK.out _ _ (HS.out _ HB.out) (fun hHeld2 => ?_)
        clear hK K hHeld
        have hHeld := hHeld2
        clear hHeld2
        try simp only [Act.put, List.setIfInBounds_toArray, List.set_cons_zero, List.set_cons_succ, List.getElem_toArray, List.getElem_cons_succ, List.getElem_cons_zero]
        refine wpAnyH_ready (rs := [6]) (by kernel_rfl) (by simp) ?_
        refine AllReadyH.cons rfl (fun K hK => ?_) AllReadyH.nil
        have HB0 : Hid (base ≤ w15.heap.size) := by rw [HBS.out]; exact HB.out.size
        go_simp
        refine (HA.out _ _ _ HR.out).mono ?_
        rintro e w16 ⟨rfl, hb⟩
        clear HR
        have HF2 := Lib.hid (HF.out.inn hb HF.out.lt)
        clear HF
        have HF := HF2
        clear HF2
        have HB2 : Hid (Below base Z w16) := HB.out.trans (hb.mono HB0.out)
        clear HB
        have HB := HB2
        clear HB2
        clear hb
        clear HB0
        refine hK.out _ _ (HS.out _ HB.out) (fun hHeld2 => ?_)
        clear hK K hHeld
        have hHeld := hHeld2
        clear hHeld2
        try simp only [Act.put, List.setIfInBounds_toArray, List.set_cons_zero, List.set_cons_succ, List.getElem_toArray, List.getElem_cons_succ, List.getElem_cons_zero]
        refine wpAnyH_take (i := 7) (v := ?_) rfl (by kernel_rfl) (by kernel_rfl) (by kernel_rfl) (fun _ _ _ h => h) (Or.inl ⟨by rfl, ?_⟩) (by assumption) ?_
        rotate_left
        · intro z hSz
          obtain ⟨k0, k1, k2, k3, k4, k5, k6, k7, k8⟩ := hSz
          go_simp
          try with_reducible rfl
        try simp only [Act.put, List.setIfInBounds_toArray, List.set_cons_zero, List.set_cons_succ, List.getElem_toArray, List.getElem_cons_succ, List.getElem_cons_zero]
        refine wpAnyH_take (i := 8) (v := ?_) rfl (by kernel_rfl) (by kernel_rfl) (by kernel_rfl) (fun _ _ _ h => h) (Or.inl ⟨by rfl, ?_⟩) (by assumption) ?_
        rotate_left
        · intro z hSz
          obtain ⟨k0, k1, k2, k3, k4, k5, k6, k7, k8⟩ := hSz
          go_simp
          try with_reducible rfl
        try simp only [Act.put, List.setIfInBounds_toArray, List.set_cons_zero, List.set_cons_succ, List.getElem_toArray, List.getElem_cons_succ, List.getElem_cons_zero]
        refine wpAnyH_take (i := 9) (v := ?_) rfl (by kernel_rfl) (by kernel_rfl) (by kernel_rfl) (fun _ _ _ h => h) (Or.inl ⟨by rfl, ?_⟩) (by assumption) ?_
        rotate_left
        · intro z hSz
          obtain ⟨k0, k1, k2, k3, k4, k5, k6, k7, k8⟩ := hSz
          go_simp
          try with_reducible rfl
        try simp only [Act.put, List.setIfInBounds_toArray, List.set_cons_zero, List.set_cons_succ, List.getElem_toArray, List.getElem_cons_succ, List.getElem_cons_zero]
        refine wpAnyH_ready (rs := [11]) (by kernel_rfl) (by simp) ?_
        refine AllReadyH.cons rfl (fun K hK => ?_) AllReadyH.nil
        have m0 : w16.cell? ⟨nF, 0, none⟩ = some (.int .i64 0) := HF.out.cell 0
        have m1 : w16.cell? ⟨nF, 1, none⟩ = some (.int .i64 0) := HF.out.cell 1
        have m2 : w16.cell? ⟨nF, 2, none⟩ = some (.int .i64 0) := HF.out.cell 2
        have f0 : w16.frozen? ⟨nF, 0, none⟩ = false := HF.out.fz 0
        have f1 : w16.frozen? ⟨nF, 1, none⟩ = false := HF.out.fz 1
        have f2 : w16.frozen? ⟨nF, 2, none⟩ = false := HF.out.fz 2
        go_simp
        have HF9 : Hid (Bw (((w16.setCell ⟨nF, 0, none⟩ (.int .i64 q0)).setCell ⟨nF, 1, none⟩ (.int .i64 q1)).setCell ⟨nF, 2, none⟩ (.int .i64 q2)) nF [.int .i64 q0, .int .i64 q1, .int .i64 q2] 23) := ((HF.out.set 0 (.int .i64 q0)).set 1 (.int .i64 q1)).set 2 (.int .i64 q2)
        have HB9 : Hid (Below base Z (((w16.setCell ⟨nF, 0, none⟩ (.int .i64 q0)).setCell ⟨nF, 1, none⟩ (.int .i64 q1)).setCell ⟨nF, 2, none⟩ (.int .i64 q2))) := ((HB.out.setCell (p := ⟨nF, 0, none⟩) HNF.out _).setCell (p := ⟨nF, 1, none⟩) HNF.out _).setCell (p := ⟨nF, 2, none⟩) HNF.out _
        clear m0 m1 m2 f0 f1 f2 HF HB
        refine hK.out _ _ (HS.out _ HB9.out) (fun hHeld2 => ?_)
        clear hK K hHeld
        have hHeld := hHeld2
        clear hHeld2
        try simp only [Act.put, List.setIfInBounds_toArray, List.set_cons_zero, List.set_cons_succ, List.getElem_toArray, List.getElem_cons_succ, List.getElem_cons_zero]
        refine wpAnyH_take (i := 12) (v := ?_) rfl (by kernel_rfl) (by kernel_rfl) (by kernel_rfl) (fun _ _ _ h => h) (Or.inl ⟨by rfl, ?_⟩) (by assumption) ?_
        rotate_left
        · intro z hSz
          obtain ⟨k0, k1, k2, k3, k4, k5, k6, k7, k8⟩ := hSz
          go_simp
          try with_reducible rfl
        try simp only [Act.put, List.setIfInBounds_toArray, List.set_cons_zero, List.set_cons_succ, List.getElem_toArray, List.getElem_cons_succ, List.getElem_cons_zero]
        refine wpAnyH_done (by kernel_rfl) ?_ _
        clear hHeld
        go_wp2_with fail
        go_meet
        case rel => exact ⟨nF, rfl, rfl, ⟨HF9.out, HNF.out, HB9.out⟩⟩
      refine AllReadyH.cons rfl (fun K hK => ?_) ?_
      · have HB0 : Hid (base ≤ w11.heap.size) := by rw [HBS.out]; exact HB.out.size
        go_simp
        obtain ⟨nC, hnC⟩ : ∃ n, n = w11.heap.size := ⟨_, rfl⟩
        obtain ⟨w12, hw⟩ : ∃ x, x = w11.alloc (.cells #[.string xn, .int .i64 x0, .int .i64 x1, .int .i64 x2, .slice xwa xwn xwc, .slice xba xbn xbc, .string xg, .string xa, .int .i64 xr] 26) := ⟨_, rfl⟩
        have hb : Below w11.heap.size w11 w12 := by rw [hw]; exact al _ _
        have hn : ∀ j u, (flatT [(⟨xn, xg, xa, x0, x1, x2, xr, xwa, xwn, xwc, xba, xbn, xbc⟩ : Tk)])[j]? = some u → w12.cell? ((⟨nC, 0, none⟩ : Addr).add j) = some u := by rw [hw, hnC, flatT_one]; exact news_new w11 _ _
        have hn2 : nC < w12.heap.size := by rw [hw, hnC]; simp
        rw [← hw]
        rw [← hnC]
        have hne : (Value.slice (some ⟨nR, 0, none⟩) 0 0).ownBlock ≠ some nC := by intro e; have e : nR = nC := Option.some.inj e; have := (HR.out.lt nR rfl).2; omega
        have HR2 := Lib.hid (HR.out.keep hb)
        clear HR
        have HR := HR2
        clear HR2
        have HB2 : Hid (Below base Z w12) := HB.out.trans (hb.mono HB0.out)
        clear HB
        have HB := HB2
        clear HB2
        have HC := Lib.hid hn
        have HNC := Lib.hid hn2
        clear hn2
        have HNE := Lib.hid hne
        clear hne
        clear hb hn hw hnC
        clear HB0
        refine hK.out _ _ (HS.out _ HB.out) (fun hHeld2 => ?_)
        clear hK K hHeld
        have hHeld := hHeld2
        clear hHeld2
        try simp only [Act.put, List.setIfInBounds_toArray, List.set_cons_zero, List.set_cons_succ, List.getElem_toArray, List.getElem_cons_succ, List.getElem_cons_zero]
        refine wpAnyH_ready (rs := [2, 10]) (by kernel_rfl) (by simp) ?_
        refine AllReadyH.cons rfl (fun K hK => ?_) ?_
        · have HB0 : Hid (base ≤ w12.heap.size) := by rw [HBS.out]; exact HB.out.size
          obtain ⟨vR, w13, hr, hn, hg, hwh⟩ := run_appT (m := l) HR.out HB0.out va vc 22 (HSRC.out _ (HWZ.out.trans (HB.out.mono (Nat.le_of_lt (Nat.lt_of_le_of_lt (Nat.le_refl _) HPb.out.1))))) HM1.out
          rw [List.nil_append] at hn
          refine step_app rfl (.tmp 26) (.tmp 27) 22 rfl _ _ _ rfl rfl hr ?_
          clear hr
          have HB2 : Hid (Below base Z w13) := HB.out.grown hg HB0.out (fun k hk => (HR.out.lt k hk).1)
          have HC2 := Lib.hid (news_keep HC.out (hg.block nC HNC.out (fun e => HNE.out e.symm)))
          have HNC2 : Hid (nC < w13.heap.size) := Nat.lt_of_lt_of_le HNC.out hg.size
          have HNE2 : Hid (vR.ownBlock ≠ some nC) := by
            intro e
            rcases hwh with h | h
            · rw [h] at e; exact HNE.out e
            · rw [h] at e; have e := Option.some.inj e; have := HNC.out; omega
          clear HC HNC HNE
          have HC := HC2
          have HNC := HNC2
          have HNE := HNE2
          clear HC2 HNC2 HNE2
          clear HR HB hg hwh
          have HR := Lib.hid hn
          have HB := HB2
          clear hn HB2
          clear HB0
          refine hK.out _ _ (HS.out _ HB.out) (fun hHeld2 => ?_)
          clear hK K hHeld
          have hHeld := hHeld2
          clear hHeld2
          try simp only [Act.put, List.setIfInBounds_toArray, List.set_cons_zero, List.set_cons_succ, List.getElem_toArray, List.getElem_cons_succ, List.getElem_cons_zero]
          refine wpAnyH_ready (rs := [5, 10]) (by kernel_rfl) (by simp) ?_
          refine AllReadyH.cons rfl (fun K hK => ?_) ?_
          · have HB0 : Hid (base ≤ w13.heap.size) := by rw [HBS.out]; exact HB.out.size
            obtain ⟨vD, w14, hr, hn, hg, -⟩ := run_appT (m := [⟨xn, xg, xa, x0, x1, x2, xr, xwa, xwn, xwc, xba, xbn, xbc⟩]) HR.out HB0.out (some ⟨nC, 0, none⟩) 1 22 (.inr ⟨_, rfl, HC.out⟩) HM2.out
            refine step_app rfl (.tmp 28) (.tmp 30) 22 rfl _ _ _ rfl rfl hr ?_
            clear hr
            have HB2 : Hid (Below base Z w14) := HB.out.grown hg HB0.out (fun k hk => (HR.out.lt k hk).1)
            clear HR HB hg HC HNC HNE
            have HR := Lib.hid hn
            have HB := HB2
            clear hn HB2
            clear HB0
            refine hK.out _ _ (HS.out _ HB.out) (fun hHeld2 => ?_)
            clear hK K hHeld
            have hHeld := hHeld2
            clear hHeld2
            try simp only [Act.put, List.setIfInBounds_toArray, List.set_cons_zero, List.set_cons_succ, List.getElem_toArray, List.getElem_cons_succ, List.getElem_cons_zero]
            refine wpAnyH_ready (rs := [6, 10]) (by kernel_rfl) (by simp) ?_
            refine AllReadyH.cons rfl (fun K hK => ?_) ?_
            · have HB0 : Hid (base ≤ w14.heap.size) := by rw [HBS.out]; exact HB.out.size
              go_simp
              refine (HA.out _ _ _ HR.out).mono ?_
              rintro e w15 ⟨rfl, hb⟩
              clear HR
              have HB2 : Hid (Below base Z w15) := HB.out.trans (hb.mono HB0.out)
              clear HB
              have HB := HB2
              clear HB2
              clear hb
              clear HB0
              refine hK.out _ _ (HS.out _ HB.out) (fun hHeld2 => ?_)
              clear hK K hHeld
              have hHeld := hHeld2
              clear hHeld2
              try simp only [Act.put, List.setIfInBounds_toArray, List.set_cons_zero, List.set_cons_succ, List.getElem_toArray, List.getElem_cons_succ, List.getElem_cons_zero]
              refine wpAnyH_take (i := 7) (v := ?_) rfl (by kernel_rfl) (by kernel_rfl) (by kernel_rfl) (fun _ _ _ h => h) (Or.inl ⟨by rfl, ?_⟩) (by assumption) ?_
              rotate_left
              · intro z hSz
                obtain ⟨k0, k1, k2, k3, k4, k5, k6, k7, k8⟩ := hSz
                go_simp
                try with_reducible rfl
              try simp only [Act.put, List.setIfInBounds_toArray, List.set_cons_zero, List.set_cons_succ, List.getElem_toArray, List.getElem_cons_succ, List.getElem_cons_zero]
              refine wpAnyH_take (i := 8) (v := ?_) rfl (by kernel_rfl) (by kernel_rfl) (by kernel_rfl) (fun _ _ _ h => h) (Or.inl ⟨by rfl, ?_⟩) (by assumption) ?_
              rotate_left
              · intro z hSz
                obtain ⟨k0, k1, k2, k3, k4, k5, k6, k7, k8⟩ := hSz
                go_simp
                try with_reducible rfl
              try simp only [Act.put, List.setIfInBounds_toArray, List.set_cons_zero, List.set_cons_succ, List.getElem_toArray, List.getElem_cons_succ, List.getElem_cons_zero]
              refine wpAnyH_take (i := 9) (v := ?_) rfl (by kernel_rfl) (by kernel_rfl) (by kernel_rfl) (fun _ _ _ h => h) (Or.inl ⟨by rfl, ?_⟩) (by assumption) ?_
              rotate_left
              · intro z hSz
                obtain ⟨k0, k1, k2, k3, k4, k5, k6, k7, k8⟩ := hSz
                go_simp
                try with_reducible rfl
              try simp only [Act.put, List.setIfInBounds_toArray, List.set_cons_zero, List.set_cons_succ, List.getElem_toArray, List.getElem_cons_succ, List.getElem_cons_zero]
              refine wpAnyH_ready (rs := [10]) (by kernel_rfl) (by simp) ?_
              refine AllReadyH.cons rfl (fun K hK => ?_) AllReadyH.nil
              have HB0 : Hid (base ≤ w15.heap.size) := by rw [HBS.out]; exact HB.out.size
              go_simp
              obtain ⟨nF, hnF⟩ : ∃ n, n = w15.heap.size := ⟨_, rfl⟩
              obtain ⟨w16, hw⟩ : ∃ x, x = w15.alloc (.cells #[.int .i64 0, .int .i64 0, .int .i64 0] 23) := ⟨_, rfl⟩
              have hb : Below w15.heap.size w15 w16 := by rw [hw]; exact al _ _
              have hn : Bw w16 nF [.int .i64 0, .int .i64 0, .int .i64 0] 23 := by rw [hw, hnF]; exact Bw.made w15 _ _
              have hn2 : base ≤ nF := by rw [hnF]; exact HB0.out
              rw [← hw]
              rw [← hnF]
              have HB2 : Hid (Below base Z w16) := HB.out.trans (hb.mono HB0.out)
              clear HB
              have HB := HB2
              clear HB2
              have HF := Lib.hid hn
              have HNF := Lib.hid hn2
              clear hn2
              clear hb hn hw hnF
              clear HB0
              refine hK.out _ _ (HS.out _ HB.out) (fun hHeld2 => ?_)
              clear hK K hHeld
              have hHeld := hHeld2
              clear hHeld2
              try simp only [Act.put, List.setIfInBounds_toArray, List.set_cons_zero, List.set_cons_succ, List.getElem_toArray, List.getElem_cons_succ, List.getElem_cons_zero]
              refine wpAnyH_ready (rs := [11]) (by kernel_rfl) (by simp) ?_
              refine AllReadyH.cons rfl (fun K hK => ?_) AllReadyH.nil
              have m0 : w16.cell? ⟨nF, 0, none⟩ = some (.int .i64 0) := HF.out.cell 0
              have m1 : w16.cell? ⟨nF, 1, none⟩ = some (.int .i64 0) := HF.out.cell 1
              have m2 : w16.cell? ⟨nF, 2, none⟩ = some (.int .i64 0) := HF.out.cell 2
              have f0 : w16.frozen? ⟨nF, 0, none⟩ = false := HF.out.fz 0
              have f1 : w16.frozen? ⟨nF, 1, none⟩ = false := HF.out.fz 1
              have f2 : w16.frozen? ⟨nF, 2, none⟩ = false := HF.out.fz 2
              go_simp
              have HF9 : Hid (Bw (((w16.setCell ⟨nF, 0, none⟩ (.int .i64 q0)).setCell ⟨nF, 1, none⟩ (.int .i64 q1)).setCell ⟨nF, 2, none⟩ (.int .i64 q2)) nF [.int .i64 q0, .int .i64 q1, .int .i64 q2] 23) := ((HF.out.set 0 (.int .i64 q0)).set 1 (.int .i64 q1)).set 2 (.int .i64 q2)
              have HB9 : Hid (Below base Z (((w16.setCell ⟨nF, 0, none⟩ (.int .i64 q0)).setCell ⟨nF, 1, none⟩ (.int .i64 q1)).setCell ⟨nF, 2, none⟩ (.int .i64 q2))) := ((HB.out.setCell (p := ⟨nF, 0, none⟩) HNF.out _).setCell (p := ⟨nF, 1, none⟩) HNF.out _).setCell (p := ⟨nF, 2, none⟩) HNF.out _
              clear m0 m1 m2 f0 f1 f2 HF HB
              refine hK.out _ _ (HS.out _ HB9.out) (fun hHeld2 => ?_)
              clear hK K hHeld
              have hHeld := hHeld2
              clear hHeld2
              try simp only [Act.put, List.setIfInBounds_toArray, List.set_cons_zero, List.set_cons_succ, List.getElem_toArray, List.getElem_cons_succ, List.getElem_cons_zero]
              refine wpAnyH_take (i := 12) (v := ?_) rfl (by kernel_rfl) (by kernel_rfl) (by kernel_rfl) (fun _ _ _ h => h) (Or.inl ⟨by rfl, ?_⟩) (by assumption) ?_
              rotate_left
              · intro z hSz
                obtain ⟨k0, k1, k2, k3, k4, k5, k6, k7, k8⟩ := hSz
                go_simp
                try with_reducible rfl
              try simp only [Act.put, List.setIfInBounds_toArray, List.set_cons_zero, List.set_cons_succ, List.getElem_toArray, List.getElem_cons_succ, List.getElem_cons_zero]
              refine wpAnyH_done (by kernel_rfl) ?_ _
              clear hHeld
              go_wp2_with fail
              go_meet
              case rel => exact ⟨nF, rfl, rfl, ⟨HF9.out, HNF.out, HB9.out⟩⟩
            refine AllReadyH.cons rfl (fun K hK => ?_) AllReadyH.nil
            have HB0 : Hid (base ≤ w14.heap.size) := by rw [HBS.out]; exact HB.out.size
            go_simp
            obtain ⟨nF, hnF⟩ : ∃ n, n = w14.heap.size := ⟨_, rfl⟩
            obtain ⟨w15, hw⟩ : ∃ x, x = w14.alloc (.cells #[.int .i64 0, .int .i64 0, .int .i64 0] 23) := ⟨_, rfl⟩
            have hb : Below w14.heap.size w14 w15 := by rw [hw]; exact al _ _
            have hn : Bw w15 nF [.int .i64 0, .int .i64 0, .int .i64 0] 23 := by rw [hw, hnF]; exact Bw.made w14 _ _
            have hn2 : base ≤ nF := by rw [hnF]; exact HB0.out
            rw [← hw]
            rw [← hnF]
            have HR2 := Lib.hid (HR.out.keep hb)
            clear HR
            have HR := HR2
            clear HR2
            have HB2 : Hid (Below base Z w15) := HB.out.trans (hb.mono HB0.out)
            clear HB
            have HB := HB2
            clear HB2
            have HF := Lib.hid hn
            have HNF := Lib.hid hn2
            clear hn2
            clear hb hn hw hnF
            clear HB0
            refine hK.out _ _ (HS.out _ HB.out) (fun hHeld2 => ?_)
            clear hK K hHeld
            have hHeld := hHeld2
            clear hHeld2
            try simp only [Act.put, List.setIfInBounds_toArray, List.set_cons_zero, List.set_cons_succ, List.getElem_toArray, List.getElem_cons_succ, List.getElem_cons_zero]
            refine wpAnyH_ready (rs := [6]) (by kernel_rfl) (by simp) ?_
            refine AllReadyH.cons rfl (fun K hK => ?_) AllReadyH.nil
            have HB0 : Hid (base ≤ w15.heap.size) := by rw [HBS.out]; exact HB.out.size
            go_simp
            refine (HA.out _ _ _ HR.out).mono ?_
            rintro e w16 ⟨rfl, hb⟩
            clear HR
            have HF2 := Lib.hid (HF.out.inn hb HF.out.lt)
            clear HF
            have HF := HF2
            clear HF2
            have HB2 : Hid (Below base Z w16) := HB.out.trans (hb.mono HB0.out)
            clear HB
            have HB := HB2
            clear HB2
            clear hb
            clear HB0
            refine hK.out _ _ (HS.out _ HB.out) (fun hHeld2 => ?_)
            clear hK K hHeld
            have hHeld := hHeld2
            clear hHeld2
            try simp only [Act.put, List.setIfInBounds_toArray, List.set_cons_zero, List.set_cons_succ, List.getElem_toArray, List.getElem_cons_succ, List.getElem_cons_zero]
            refine wpAnyH_take (i := 7) (v := ?_) rfl (by kernel_rfl) (by kernel_rfl) (by kernel_rfl) (fun _ _ _ h => h) (Or.inl ⟨by rfl, ?_⟩) (by assumption) ?_
            rotate_left
            · intro z hSz
              obtain ⟨k0, k1, k2, k3, k4, k5, k6, k7, k8⟩ := hSz
              go_simp
              try with_reducible rfl
            try simp only [Act.put, List.setIfInBounds_toArray, List.set_cons_zero, List.set_cons_succ, List.getElem_toArray, List.getElem_cons_succ, List.getElem_cons_zero]
            refine wpAnyH_take (i := 8) (v := ?_) rfl (by kernel_rfl) (by kernel_rfl) (by kernel_rfl) (fun _ _ _ h => h) (Or.inl ⟨by rfl, ?_⟩) (by assumption) ?_
            rotate_left
            · intro z hSz
              obtain ⟨k0, k1, k2, k3, k4, k5, k6, k7, k8⟩ := hSz
              go_simp
              try with_reducible rfl
            try simp only [Act.put, List.setIfInBounds_toArray, List.set_cons_zero, List.set_cons_succ, List.getElem_toArray, List.getElem_cons_succ, List.getElem_cons_zero]
            refine wpAnyH_take (i := 9) (v := ?_) rfl (by kernel_rfl) (by kernel_rfl) (by kernel_rfl) (fun _ _ _ h => h) (Or.inl ⟨by rfl, ?_⟩) (by assumption) ?_
            rotate_left
            · intro z hSz
              obtain ⟨k0, k1, k2, k3, k4, k5, k6, k7, k8⟩ := hSz
              go_simp
              try with_reducible rfl
            try simp only [Act.put, List.setIfInBounds_toArray, List.set_cons_zero, List.set_cons_succ, List.getElem_toArray, List.getElem_cons_succ, List.getElem_cons_zero]
            refine wpAnyH_ready (rs := [11]) (by kernel_rfl) (by simp) ?_
            refine AllReadyH.cons rfl (fun K hK => ?_) AllReadyH.nil
            have m0 : w16.cell? ⟨nF, 0, none⟩ = some (.int .i64 0) := HF.out.cell 0
            have m1 : w16.cell? ⟨nF, 1, none⟩ = some (.int .i64 0) := HF.out.cell 1
            have m2 : w16.cell? ⟨nF, 2, none⟩ = some (.int .i64 0) := HF.out.cell 2
            have f0 : w16.frozen? ⟨nF, 0, none⟩ = false := HF.out.fz 0
            have f1 : w16.frozen? ⟨nF, 1, none⟩ = false := HF.out.fz 1
            have f2 : w16.frozen? ⟨nF, 2, none⟩ = false := HF.out.fz 2
            go_simp
            have HF9 : Hid (Bw (((w16.setCell ⟨nF, 0, none⟩ (.int .i64 q0)).setCell ⟨nF, 1, none⟩ (.int .i64 q1)).setCell ⟨nF, 2, none⟩ (.int .i64 q2)) nF [.int .i64 q0, .int .i64 q1, .int .i64 q2] 23) := ((HF.out.set 0 (.int .i64 q0)).set 1 (.int .i64 q1)).set 2 (.int .i64 q2)
            have HB9 : Hid (Below base Z (((w16.setCell ⟨nF, 0, none⟩ (.int .i64 q0)).setCell ⟨nF, 1, none⟩ (.int .i64 q1)).setCell ⟨nF, 2, none⟩ (.int .i64 q2))) := ((HB.out.setCell (p := ⟨nF, 0, none⟩) HNF.out _).setCell (p := ⟨nF, 1, none⟩) HNF.out _).setCell (p := ⟨nF, 2, none⟩) HNF.out _
            clear m0 m1 m2 f0 f1 f2 HF HB
            refine hK.out _ _ (HS.out _ HB9.out) (fun hHeld2 => ?_)
            clear hK K hHeld
            have hHeld := hHeld2
            clear hHeld2
            try simp only [Act.put, List.setIfInBounds_toArray, List.set_cons_zero, List.set_cons_succ, List.getElem_toArray, List.getElem_cons_succ, List.getElem_cons_zero]
            refine wpAnyH_take (i := 12) (v := ?_) rfl (by kernel_rfl) (by kernel_rfl) (by kernel_rfl) (fun _ _ _ h => h) (Or.inl ⟨by rfl, ?_⟩) (by assumption) ?_
            rotate_left
            · intro z hSz
              obtain ⟨k0, k1, k2, k3, k4, k5, k6, k7, k8⟩ := hSz
              go_simp
              try with_reducible rfl
            try simp only [Act.put, List.setIfInBounds_toArray, List.set_cons_zero, List.set_cons_succ, List.getElem_toArray, List.getElem_cons_succ, List.getElem_cons_zero]
            refine wpAnyH_done (by kernel_rfl) ?_ _
            clear hHeld
            go_wp2_with fail
            go_meet
            case rel => exact ⟨nF, rfl, rfl, ⟨HF9.out, HNF.out, HB9.out⟩⟩
          refine AllReadyH.cons rfl (fun K hK => ?_) AllReadyH.nil
          have HB0 : Hid (base ≤ w13.heap.size) := by rw [HBS.out]; exact HB.out.size
          go_simp
          obtain ⟨nF, hnF⟩ : ∃ n, n = w13.heap.size := ⟨_, rfl⟩
          obtain ⟨w14, hw⟩ : ∃ x, x = w13.alloc (.cells #[.int .i64 0, .int .i64 0, .int .i64 0] 23) := ⟨_, rfl⟩
          have hb : Below w13.heap.size w13 w14 := by rw [hw]; exact al _ _
          have hn : Bw w14 nF [.int .i64 0, .int .i64 0, .int .i64 0] 23 := by rw [hw, hnF]; exact Bw.made w13 _ _
          have hn2 : base ≤ nF := by rw [hnF]; exact HB0.out
          rw [← hw]
          rw [← hnF]
          have HR2 := Lib.hid (HR.out.keep hb)
          clear HR
          have HR := HR2
          clear HR2
          have HC2 := Lib.hid (news_keep HC.out (hb.block nC HNC.out))
          have HNC2 : Hid (nC < w14.heap.size) := Nat.lt_of_lt_of_le HNC.out hb.size
          clear HC HNC
          have HC := HC2
          have HNC := HNC2
          clear HC2 HNC2
          have HB2 : Hid (Below base Z w14) := HB.out.trans (hb.mono HB0.out)
          clear HB
          have HB := HB2
          clear HB2
          have HF := Lib.hid hn
          have HNF := Lib.hid hn2
          clear hn2
          clear hb hn hw hnF
          clear HB0
          refine hK.out _ _ (HS.out _ HB.out) (fun hHeld2 => ?_)
          clear hK K hHeld
          have hHeld := hHeld2
          clear hHeld2
          try simp only [Act.put, List.setIfInBounds_toArray, List.set_cons_zero, List.set_cons_succ, List.getElem_toArray, List.getElem_cons_succ, List.getElem_cons_zero]
          refine wpAnyH_ready (rs := [5]) (by kernel_rfl) (by simp) ?_
          refine AllReadyH.cons rfl (fun K hK => ?_) AllReadyH.nil
          have HB0 : Hid (base ≤ w14.heap.size) := by rw [HBS.out]; exact HB.out.size
          obtain ⟨vD, w15, hr, hn, hg, -⟩ := run_appT (m := [⟨xn, xg, xa, x0, x1, x2, xr, xwa, xwn, xwc, xba, xbn, xbc⟩]) HR.out HB0.out (some ⟨nC, 0, none⟩) 1 22 (.inr ⟨_, rfl, HC.out⟩) HM2.out
          refine step_app rfl (.tmp 28) (.tmp 30) 22 rfl _ _ _ rfl rfl hr ?_
          clear hr
          have HB2 : Hid (Below base Z w15) := HB.out.grown hg HB0.out (fun k hk => (HR.out.lt k hk).1)
          have HF2 := Lib.hid (HF.out.grown hg (own_type HR.out HF.out (by decide)))
          clear HF
          have HF := HF2
          clear HF2
          clear HR HB hg HC HNC HNE
          have HR := Lib.hid hn
          have HB := HB2
          clear hn HB2
          clear HB0
          refine hK.out _ _ (HS.out _ HB.out) (fun hHeld2 => ?_)
          clear hK K hHeld
          have hHeld := hHeld2
          clear hHeld2
          try simp only [Act.put, List.setIfInBounds_toArray, List.set_cons_zero, List.set_cons_succ, List.getElem_toArray, List.getElem_cons_succ, List.getElem_cons_zero]
          refine wpAnyH_ready (rs := [6]) (by kernel_rfl) (by simp) ?_
          refine AllReadyH.cons rfl (fun K hK => ?_) AllReadyH.nil
          have HB0 : Hid (base ≤ w15.heap.size) := by rw [HBS.out]; exact HB.out.size
          go_simp
          refine (HA.out _ _ _ HR.out).mono ?_
          rintro e w16 ⟨rfl, hb⟩
          clear HR
          have HF2 := Lib.hid (HF.out.inn hb HF.out.lt)
          clear HF
          have HF := HF2
          clear HF2
          have HB2 : Hid (Below base Z w16) := HB.out.trans (hb.mono HB0.out)
          clear HB
          have HB := HB2
          clear HB2
          clear hb
          clear HB0
          refine hK.out _ _ (HS.out _ HB.out) (fun hHeld2 => ?_)
          clear hK K hHeld
          have hHeld := hHeld2
          clear hHeld2
          try simp only [Act.put, List.setIfInBounds_toArray, List.set_cons_zero, List.set_cons_succ, List.getElem_toArray, List.getElem_cons_succ, List.getElem_cons_zero]
          refine wpAnyH_take (i := 7) (v := ?_) rfl (by kernel_rfl) (by kernel_rfl) (by kernel_rfl) (fun _ _ _ h => h) (Or.inl ⟨by rfl, ?_⟩) (by assumption) ?_
          rotate_left
          · intro z hSz
            obtain ⟨k0, k1, k2, k3, k4, k5, k6, k7, k8⟩ := hSz
            go_simp
            try with_reducible rfl
          try simp only [Act.put, List.setIfInBounds_toArray, List.set_cons_zero, List.set_cons_succ, List.getElem_toArray, List.getElem_cons_succ, List.getElem_cons_zero]
          refine wpAnyH_take (i := 8) (v := ?_) rfl (by kernel_rfl) (by kernel_rfl) (by kernel_rfl) (fun _ _ _ h => h) (Or.inl ⟨by rfl, ?_⟩) (by assumption) ?_
          rotate_left
          · intro z hSz
            obtain ⟨k0, k1, k2, k3, k4, k5, k6, k7, k8⟩ := hSz
            go_simp
            try with_reducible rfl
          try simp only [Act.put, List.setIfInBounds_toArray, List.set_cons_zero, List.set_cons_succ, List.getElem_toArray, List.getElem_cons_succ, List.getElem_cons_zero]
          refine wpAnyH_take (i := 9) (v := ?_) rfl (by kernel_rfl) (by kernel_rfl) (by kernel_rfl) (fun _ _ _ h => h) (Or.inl ⟨by rfl, ?_⟩) (by assumption) ?_
          rotate_left
          · intro z hSz
            obtain ⟨k0, k1, k2, k3, k4, k5, k6, k7, k8⟩ := hSz
            go_simp
            try with_reducible rfl
          try simp only [Act.put, List.setIfInBounds_toArray, List.set_cons_zero, List.set_cons_succ, List.getElem_toArray, List.getElem_cons_succ, List.getElem_cons_zero]
          refine wpAnyH_ready (rs := [11]) (by kernel_rfl) (by simp) ?_
          refine AllReadyH.cons rfl (fun K hK => ?_) AllReadyH.nil
          have m0 : w16.cell? ⟨nF, 0, none⟩ = some (.int .i64 0) := HF.out.cell 0
          have m1 : w16.cell? ⟨nF, 1, none⟩ = some (.int .i64 0) := HF.out.cell 1
          have m2 : w16.cell? ⟨nF, 2, none⟩ = some (.int .i64 0) := HF.out.cell 2
          have f0 : w16.frozen? ⟨nF, 0, none⟩ = false := HF.out.fz 0
          have f1 : w16.frozen? ⟨nF, 1, none⟩ = false := HF.out.fz 1
          have f2 : w16.frozen? ⟨nF, 2, none⟩ = false := HF.out.fz 2
          go_simp
          have HF9 : Hid (Bw (((w16.setCell ⟨nF, 0, none⟩ (.int .i64 q0)).setCell ⟨nF, 1, none⟩ (.int .i64 q1)).setCell ⟨nF, 2, none⟩ (.int .i64 q2)) nF [.int .i64 q0, .int .i64 q1, .int .i64 q2] 23) := ((HF.out.set 0 (.int .i64 q0)).set 1 (.int .i64 q1)).set 2 (.int .i64 q2)
          have HB9 : Hid (Below base Z (((w16.setCell ⟨nF, 0, none⟩ (.int .i64 q0)).setCell ⟨nF, 1, none⟩ (.int .i64 q1)).setCell ⟨nF, 2, none⟩ (.int .i64 q2))) := ((HB.out.setCell (p := ⟨nF, 0, none⟩) HNF.out _).setCell (p := ⟨nF, 1, none⟩) HNF.out _).setCell (p := ⟨nF, 2, none⟩) HNF.out _
          clear m0 m1 m2 f0 f1 f2 HF HB
          refine hK.out _ _ (HS.out _ HB9.out) (fun hHeld2 => ?_)
          clear hK K hHeld
          have hHeld := hHeld2
          clear hHeld2
          try simp only [Act.put, List.setIfInBounds_toArray, List.set_cons_zero, List.set_cons_succ, List.getElem_toArray, List.getElem_cons_succ, List.getElem_cons_zero]
          refine wpAnyH_take (i := 12) (v := ?_) rfl (by kernel_rfl) (by kernel_rfl) (by kernel_rfl) (fun _ _ _ h => h) (Or.inl ⟨by rfl, ?_⟩) (by assumption) ?_
          rotate_left
          · intro z hSz
            obtain ⟨k0, k1, k2, k3, k4, k5, k6, k7, k8⟩ := hSz
            go_simp
            try with_reducible rfl
          try simp only [Act.put, List.setIfInBounds_toArray, List.set_cons_zero, List.set_cons_succ, List.getElem_toArray, List.getElem_cons_succ, List.getElem_cons_zero]
          refine wpAnyH_done (by kernel_rfl) ?_ _
          clear hHeld
          go_wp2_with fail
          go_meet
          case rel => exact ⟨nF, rfl, rfl, ⟨HF9.out, HNF.out, HB9.out⟩⟩
        refine AllReadyH.cons rfl (fun K hK => ?_) AllReadyH.nil
        have HB0 : Hid (base ≤ w12.heap.size) := by rw [HBS.out]; exact HB.out.size
        go_simp
        obtain ⟨nF, hnF⟩ : ∃ n, n = w12.heap.size := ⟨_, rfl⟩
        obtain ⟨w13, hw⟩ : ∃ x, x = w12.alloc (.cells #[.int .i64 0, .int .i64 0, .int .i64 0] 23) := ⟨_, rfl⟩
        have hb : Below w12.heap.size w12 w13 := by rw [hw]; exact al _ _
        have hn : Bw w13 nF [.int .i64 0, .int .i64 0, .int .i64 0] 23 := by rw [hw, hnF]; exact Bw.made w12 _ _
        have hn2 : base ≤ nF := by rw [hnF]; exact HB0.out
        rw [← hw]
        rw [← hnF]
        have HR2 := Lib.hid (HR.out.keep hb)
        clear HR
        have HR := HR2
        clear HR2
        have HC2 := Lib.hid (news_keep HC.out (hb.block nC HNC.out))
        have HNC2 : Hid (nC < w13.heap.size) := Nat.lt_of_lt_of_le HNC.out hb.size
        clear HC HNC
        have HC := HC2
        have HNC := HNC2
        clear HC2 HNC2
        have HB2 : Hid (Below base Z w13) := HB.out.trans (hb.mono HB0.out)
        clear HB
        have HB := HB2
        clear HB2
        have HF := Lib.hid hn
        have HNF := Lib.hid hn2
        clear hn2
        clear hb hn hw hnF
        clear HB0
        refine hK.out _ _ (HS.out _ HB.out) (fun hHeld2 => ?_)
        clear hK K hHeld
        have hHeld := hHeld2
        clear hHeld2
        try simp only [Act.put, List.setIfInBounds_toArray, List.set_cons_zero, List.set_cons_succ, List.getElem_toArray, List.getElem_cons_succ, List.getElem_cons_zero]
        refine wpAnyH_ready (rs := [2]) (by kernel_rfl) (by simp) ?_
        refine AllReadyH.cons rfl (fun K hK => ?_) AllReadyH.nil
        have HB0 : Hid (base ≤ w13.heap.size) := by rw [HBS.out]; exact HB.out.size
        obtain ⟨vR, w14, hr, hn, hg, hwh⟩ := run_appT (m := l) HR.out HB0.out va vc 22 (HSRC.out _ (HWZ.out.trans (HB.out.mono (Nat.le_of_lt (Nat.lt_of_le_of_lt (Nat.le_refl _) HPb.out.1))))) HM1.out
        rw [List.nil_append] at hn
        refine step_app rfl (.tmp 26) (.tmp 27) 22 rfl _ _ _ rfl rfl hr ?_
        clear hr
        have HB2 : Hid (Below base Z w14) := HB.out.grown hg HB0.out (fun k hk => (HR.out.lt k hk).1)
        have HC2 := Lib.hid (news_keep HC.out (hg.block nC HNC.out (fun e => HNE.out e.symm)))
        have HNC2 : Hid (nC < w14.heap.size) := Nat.lt_of_lt_of_le HNC.out hg.size
        have HNE2 : Hid (vR.ownBlock ≠ some nC) := by
          intro e
          rcases hwh with h | h
          · rw [h] at e; exact HNE.out e
          · rw [h] at e; have e := Option.some.inj e; have := HNC.out; omega
        clear HC HNC HNE
        have HC := HC2
        have HNC := HNC2
        have HNE := HNE2
        clear HC2 HNC2 HNE2
        have HF2 := Lib.hid (HF.out.grown hg (own_type HR.out HF.out (by decide)))
        clear HF
        have HF := HF2
        clear HF2
        clear HR HB hg hwh
        have HR := Lib.hid hn
        have HB := HB2
        clear hn HB2
        clear HB0
        refine hK.out _ _ (HS.out _ HB.out) (fun hHeld2 => ?_)
        clear hK K hHeld
        have hHeld := hHeld2
        clear hHeld2
        try simp only [Act.put, List.setIfInBounds_toArray, List.set_cons_zero, List.set_cons_succ, List.getElem_toArray, List.getElem_cons_succ, List.getElem_cons_zero]
        refine wpAnyH_ready (rs := [5]) (by kernel_rfl) (by simp) ?_
        refine AllReadyH.cons rfl (fun K hK => ?_) AllReadyH.nil
        have HB0 : Hid (base ≤ w14.heap.size) := by rw [HBS.out]; exact HB.out.size
        obtain ⟨vD, w15, hr, hn, hg, -⟩ := run_appT (m := [⟨xn, xg, xa, x0, x1, x2, xr, xwa, xwn, xwc, xba, xbn, xbc⟩]) HR.out HB0.out (some ⟨nC, 0, none⟩) 1 22 (.inr ⟨_, rfl, HC.out⟩) HM2.out
        refine step_app rfl (.tmp 28) (.tmp 30) 22 rfl _ _ _ rfl rfl hr ?_
        clear hr
        have HB2 : Hid (Below base Z w15) := HB.out.grown hg HB0.out (fun k hk => (HR.out.lt k hk).1)
        have HF2 := Lib.hid (HF.out.grown hg (own_type HR.out HF.out (by decide)))
        clear HF
        have HF := HF2
        clear HF2
        clear HR HB hg HC HNC HNE
        have HR := Lib.hid hn
        have HB := HB2
        clear hn HB2
        clear HB0
        refine hK.out _ _ (HS.out _ HB.out) (fun hHeld2 => ?_)
        clear hK K hHeld
        have hHeld := hHeld2
        clear hHeld2
        try simp only [Act.put, List.setIfInBounds_toArray, List.set_cons_zero, List.set_cons_succ, List.getElem_toArray, List.getElem_cons_succ, List.getElem_cons_zero]
        refine wpAnyH_ready (rs := [6]) (by kernel_rfl) (by simp) ?_
        refine AllReadyH.cons rfl (fun K hK => ?_) AllReadyH.nil
        have HB0 : Hid (base ≤ w15.heap.size) := by rw [HBS.out]; exact HB.out.size
        go_simp
        refine (HA.out _ _ _ HR.out).mono ?_
        rintro e w16 ⟨rfl, hb⟩
        clear HR
        have HF2 := Lib.hid (HF.out.inn hb HF.out.lt)
        clear HF
        have HF := HF2
        clear HF2
        have HB2 : Hid (Below base Z w16) := HB.out.trans (hb.mono HB0.out)
        clear HB
        have HB := HB2
        clear HB2
        clear hb
        clear HB0
        refine hK.out _ _ (HS.out _ HB.out) (fun hHeld2 => ?_)
        clear hK K hHeld
        have hHeld := hHeld2
        clear hHeld2
        try simp only [Act.put, List.setIfInBounds_toArray, List.set_cons_zero, List.set_cons_succ, List.getElem_toArray, List.getElem_cons_succ, List.getElem_cons_zero]
        refine wpAnyH_take (i := 7) (v := ?_) rfl (by kernel_rfl) (by kernel_rfl) (by kernel_rfl) (fun _ _ _ h => h) (Or.inl ⟨by rfl, ?_⟩) (by assumption) ?_
        rotate_left
        · intro z hSz
          obtain ⟨k0, k1, k2, k3, k4, k5, k6, k7, k8⟩ := hSz
          go_simp
          try with_reducible rfl
        try simp only [Act.put, List.setIfInBounds_toArray, List.set_cons_zero, List.set_cons_succ, List.getElem_toArray, List.getElem_cons_succ, List.getElem_cons_zero]
        refine wpAnyH_take (i := 8) (v := ?_) rfl (by kernel_rfl) (by kernel_rfl) (by kernel_rfl) (fun _ _ _ h => h) (Or.inl ⟨by rfl, ?_⟩) (by assumption) ?_
        rotate_left
        · intro z hSz
          obtain ⟨k0, k1, k2, k3, k4, k5, k6, k7, k8⟩ := hSz
          go_simp
          try with_reducible rfl
        try simp only [Act.put, List.setIfInBounds_toArray, List.set_cons_zero, List.set_cons_succ, List.getElem_toArray, List.getElem_cons_succ, List.getElem_cons_zero]
        refine wpAnyH_take (i := 9) (v := ?_) rfl (by kernel_rfl) (by kernel_rfl) (by kernel_rfl) (fun _ _ _ h => h) (Or.inl ⟨by rfl, ?_⟩) (by assumption) ?_
        rotate_left
        · intro z hSz
          obtain ⟨k0, k1, k2, k3, k4, k5, k6, k7, k8⟩ := hSz
          go_simp
          try with_reducible rfl
        try simp only [Act.put, List.setIfInBounds_toArray, List.set_cons_zero, List.set_cons_succ, List.getElem_toArray, List.getElem_cons_succ, List.getElem_cons_zero]
        refine wpAnyH_ready (rs := [11]) (by kernel_rfl) (by simp) ?_
        refine AllReadyH.cons rfl (fun K hK => ?_) AllReadyH.nil
        have m0 : w16.cell? ⟨nF, 0, none⟩ = some (.int .i64 0) := HF.out.cell 0
        have m1 : w16.cell? ⟨nF, 1, none⟩ = some (.int .i64 0) := HF.out.cell 1
        have m2 : w16.cell? ⟨nF, 2, none⟩ = some (.int .i64 0) := HF.out.cell 2
        have f0 : w16.frozen? ⟨nF, 0, none⟩ = false := HF.out.fz 0
        have f1 : w16.frozen? ⟨nF, 1, none⟩ = false := HF.out.fz 1
        have f2 : w16.frozen? ⟨nF, 2, none⟩ = false := HF.out.fz 2
        go_simp
        have HF9 : Hid (Bw (((w16.setCell ⟨nF, 0, none⟩ (.int .i64 q0)).setCell ⟨nF, 1, none⟩ (.int .i64 q1)).setCell ⟨nF, 2, none⟩ (.int .i64 q2)) nF [.int .i64 q0, .int .i64 q1, .int .i64 q2] 23) := ((HF.out.set 0 (.int .i64 q0)).set 1 (.int .i64 q1)).set 2 (.int .i64 q2)
        have HB9 : Hid (Below base Z (((w16.setCell ⟨nF, 0, none⟩ (.int .i64 q0)).setCell ⟨nF, 1, none⟩ (.int .i64 q1)).setCell ⟨nF, 2, none⟩ (.int .i64 q2))) := ((HB.out.setCell (p := ⟨nF, 0, none⟩) HNF.out _).setCell (p := ⟨nF, 1, none⟩) HNF.out _).setCell (p := ⟨nF, 2, none⟩) HNF.out _
        clear m0 m1 m2 f0 f1 f2 HF HB
        refine hK.out _ _ (HS.out _ HB9.out) (fun hHeld2 => ?_)
        clear hK K hHeld
        have hHeld := hHeld2
        clear hHeld2
        try simp only [Act.put, List.setIfInBounds_toArray, List.set_cons_zero, List.set_cons_succ, List.getElem_toArray, List.getElem_cons_succ, List.getElem_cons_zero]
        refine wpAnyH_take (i := 12) (v := ?_) rfl (by kernel_rfl) (by kernel_rfl) (by kernel_rfl) (fun _ _ _ h => h) (Or.inl ⟨by rfl, ?_⟩) (by assumption) ?_
        rotate_left
        · intro z hSz
          obtain ⟨k0, k1, k2, k3, k4, k5, k6, k7, k8⟩ := hSz
          go_simp
          try with_reducible rfl
        try simp only [Act.put, List.setIfInBounds_toArray, List.set_cons_zero, List.set_cons_succ, List.getElem_toArray, List.getElem_cons_succ, List.getElem_cons_zero]
        refine wpAnyH_done (by kernel_rfl) ?_ _
        clear hHeld
        go_wp2_with fail
        go_meet
        case rel => exact ⟨nF, rfl, rfl, ⟨HF9.out, HNF.out, HB9.out⟩⟩
      refine AllReadyH.cons rfl (fun K hK => ?_) AllReadyH.nil
      have HB0 : Hid (base ≤ w11.heap.size) := by rw [HBS.out]; exact HB.out.size
      go_simp
      obtain ⟨nF, hnF⟩ : ∃ n, n = w11.heap.size := ⟨_, rfl⟩
      obtain ⟨w12, hw⟩ : ∃ x, x = w11.alloc (.cells #[.int .i64 0, .int .i64 0, .int .i64 0] 23) := ⟨_, rfl⟩
      have hb : Below w11.heap.size w11 w12 := by rw [hw]; exact al _ _
      have hn : Bw w12 nF [.int .i64 0, .int .i64 0, .int .i64 0] 23 := by rw [hw, hnF]; exact Bw.made w11 _ _
      have hn2 : base ≤ nF := by rw [hnF]; exact HB0.out
      rw [← hw]
      rw [← hnF]
      have HR2 := Lib.hid (HR.out.keep hb)
      clear HR
      have HR := HR2
      clear HR2
      have HB2 : Hid (Below base Z w12) := HB.out.trans (hb.mono HB0.out)
      clear HB
      have HB := HB2
      clear HB2
      have HF := Lib.hid hn
      have HNF := Lib.hid hn2
      clear hn2
      clear hb hn hw hnF
      clear HB0
      refine hK.out _ _ (HS.out _ HB.out) (fun hHeld2 => ?_)
      clear hK K hHeld
      have hHeld := hHeld2
      clear hHeld2
      try simp only [Act.put, List.setIfInBounds_toArray, List.set_cons_zero, List.set_cons_succ, List.getElem_toArray, List.getElem_cons_succ, List.getElem_cons_zero]
      refine wpAnyH_ready (rs := [2, 4]) (by kernel_rfl) (by simp) ?_
      refine AllReadyH.cons rfl (fun K hK => ?_) ?_
      · have HB0 : Hid (base ≤ w12.heap.size) := by rw [HBS.out]; exact HB.out.size
        obtain ⟨vR, w13, hr, hn, hg, hwh⟩ := run_appT (m := l) HR.out HB0.out va vc 22 (HSRC.out _ (HWZ.out.trans (HB.out.mono (Nat.le_of_lt (Nat.lt_of_le_of_lt (Nat.le_refl _) HPb.out.1))))) HM1.out
        rw [List.nil_append] at hn
        refine step_app rfl (.tmp 26) (.tmp 27) 22 rfl _ _ _ rfl rfl hr ?_
        clear hr
        have HB2 : Hid (Below base Z w13) := HB.out.grown hg HB0.out (fun k hk => (HR.out.lt k hk).1)
        have HF2 := Lib.hid (HF.out.grown hg (own_type HR.out HF.out (by decide)))
        clear HF
        have HF := HF2
        clear HF2
        clear HR HB hg hwh
        have HR := Lib.hid hn
        have HB := HB2
        clear hn HB2
        clear HB0
        refine hK.out _ _ (HS.out _ HB.out) (fun hHeld2 => ?_)
        clear hK K hHeld
        have hHeld := hHeld2
        clear hHeld2
        try simp only [Act.put, List.setIfInBounds_toArray, List.set_cons_zero, List.set_cons_succ, List.getElem_toArray, List.getElem_cons_succ, List.getElem_cons_zero]
        refine wpAnyH_ready (rs := [4]) (by kernel_rfl) (by simp) ?_
        refine AllReadyH.cons rfl (fun K hK => ?_) AllReadyH.nil
        have HB0 : Hid (base ≤ w13.heap.size) := by rw [HBS.out]; exact HB.out.size
        go_simp
        obtain ⟨nC, hnC⟩ : ∃ n, n = w13.heap.size := ⟨_, rfl⟩
        obtain ⟨w14, hw⟩ : ∃ x, x = w13.alloc (.cells #[.string xn, .int .i64 x0, .int .i64 x1, .int .i64 x2, .slice xwa xwn xwc, .slice xba xbn xbc, .string xg, .string xa, .int .i64 xr] 26) := ⟨_, rfl⟩
        have hb : Below w13.heap.size w13 w14 := by rw [hw]; exact al _ _
        have hn : ∀ j u, (flatT [(⟨xn, xg, xa, x0, x1, x2, xr, xwa, xwn, xwc, xba, xbn, xbc⟩ : Tk)])[j]? = some u → w14.cell? ((⟨nC, 0, none⟩ : Addr).add j) = some u := by rw [hw, hnC, flatT_one]; exact news_new w13 _ _
        have hn2 : nC < w14.heap.size := by rw [hw, hnC]; simp
        rw [← hw]
        rw [← hnC]
        have hne : vR.ownBlock ≠ some nC := by intro e; have := (HR.out.lt nC e).2; omega
        have HR2 := Lib.hid (HR.out.keep hb)
        clear HR
        have HR := HR2
        clear HR2
        have HF2 := Lib.hid (HF.out.inn hb HF.out.lt)
        clear HF
        have HF := HF2
        clear HF2
        have HB2 : Hid (Below base Z w14) := HB.out.trans (hb.mono HB0.out)
        clear HB
        have HB := HB2
        clear HB2
        have HC := Lib.hid hn
        have HNC := Lib.hid hn2
        clear hn2
        have HNE := Lib.hid hne
        clear hne
        clear hb hn hw hnC
        clear HB0
        refine hK.out _ _ (HS.out _ HB.out) (fun hHeld2 => ?_)
        clear hK K hHeld
        have hHeld := hHeld2
        clear hHeld2
        try simp only [Act.put, List.setIfInBounds_toArray, List.set_cons_zero, List.set_cons_succ, List.getElem_toArray, List.getElem_cons_succ, List.getElem_cons_zero]
        refine wpAnyH_ready (rs := [5]) (by kernel_rfl) (by simp) ?_
        refine AllReadyH.cons rfl (fun K hK => ?_) AllReadyH.nil
        have HB0 : Hid (base ≤ w14.heap.size) := by rw [HBS.out]; exact HB.out.size
        obtain ⟨vD, w15, hr, hn, hg, -⟩ := run_appT (m := [⟨xn, xg, xa, x0, x1, x2, xr, xwa, xwn, xwc, xba, xbn, xbc⟩]) HR.out HB0.out (some ⟨nC, 0, none⟩) 1 22 (.inr ⟨_, rfl, HC.out⟩) HM2.out
        refine step_app rfl (.tmp 28) (.tmp 30) 22 rfl _ _ _ rfl rfl hr ?_
        clear hr
        have HB2 : Hid (Below base Z w15) := HB.out.grown hg HB0.out (fun k hk => (HR.out.lt k hk).1)
        have HF2 := Lib.hid (HF.out.grown hg (own_type HR.out HF.out (by decide)))
        clear HF
        have HF := HF2
        clear HF2
        clear HR HB hg HC HNC HNE
        have HR := Lib.hid hn
        have HB := HB2
        clear hn HB2
        clear HB0
        refine hK.out _ _ (HS.out _ HB.out) (fun hHeld2 => ?_)
        clear hK K hHeld
        have hHeld := hHeld2
        clear hHeld2
        try simp only [Act.put, List.setIfInBounds_toArray, List.set_cons_zero, List.set_cons_succ, List.getElem_toArray, List.getElem_cons_succ, List.getElem_cons_zero]
        refine wpAnyH_ready (rs := [6]) (by kernel_rfl) (by simp) ?_
        refine AllReadyH.cons rfl (fun K hK => ?_) AllReadyH.nil
        have HB0 : Hid (base ≤ w15.heap.size) := by rw [HBS.out]; exact HB.out.size
        go_simp
        refine (HA.out _ _ _ HR.out).mono ?_
        rintro e w16 ⟨rfl, hb⟩
        clear HR
        have HF2 := Lib.hid (HF.out.inn hb HF.out.lt)
        clear HF
        have HF := HF2
        clear HF2
        have HB2 : Hid (Below base Z w16) := HB.out.trans (hb.mono HB0.out)
        clear HB
        have HB := HB2
        clear HB2
        clear hb
        clear HB0
        refine hK.out _ _ (HS.out _ HB.out) (fun hHeld2 => ?_)
        clear hK K hHeld
        have hHeld := hHeld2
        clear hHeld2
        try simp only [Act.put, List.setIfInBounds_toArray, List.set_cons_zero, List.set_cons_succ, List.getElem_toArray, List.getElem_cons_succ, List.getElem_cons_zero]
        refine wpAnyH_take (i := 7) (v := ?_) rfl (by kernel_rfl) (by kernel_rfl) (by kernel_rfl) (fun _ _ _ h => h) (Or.inl ⟨by rfl, ?_⟩) (by assumption) ?_
        rotate_left
        · intro z hSz
          obtain ⟨k0, k1, k2, k3, k4, k5, k6, k7, k8⟩ := hSz
          go_simp
          try with_reducible rfl
        try simp only [Act.put, List.setIfInBounds_toArray, List.set_cons_zero, List.set_cons_succ, List.getElem_toArray, List.getElem_cons_succ, List.getElem_cons_zero]
        refine wpAnyH_take (i := 8) (v := ?_) rfl (by kernel_rfl) (by kernel_rfl) (by kernel_rfl) (fun _ _ _ h => h) (Or.inl ⟨by rfl, ?_⟩) (by assumption) ?_
        rotate_left
        · intro z hSz
          obtain ⟨k0, k1, k2, k3, k4, k5, k6, k7, k8⟩ := hSz
          go_simp
          try with_reducible rfl
        try simp only [Act.put, List.setIfInBounds_toArray, List.set_cons_zero, List.set_cons_succ, List.getElem_toArray, List.getElem_cons_succ, List.getElem_cons_zero]
        refine wpAnyH_take (i := 9) (v := ?_) rfl (by kernel_rfl) (by kernel_rfl) (by kernel_rfl) (fun _ _ _ h => h) (Or.inl ⟨by rfl, ?_⟩) (by assumption) ?_
        rotate_left
        · intro z hSz
          obtain ⟨k0, k1, k2, k3, k4, k5, k6, k7, k8⟩ := hSz
          go_simp
          try with_reducible rfl
        try simp only [Act.put, List.setIfInBounds_toArray, List.set_cons_zero, List.set_cons_succ, List.getElem_toArray, List.getElem_cons_succ, List.getElem_cons_zero]
        refine wpAnyH_ready (rs := [11]) (by kernel_rfl) (by simp) ?_
        refine AllReadyH.cons rfl (fun K hK => ?_) AllReadyH.nil
        have m0 : w16.cell? ⟨nF, 0, none⟩ = some (.int .i64 0) := HF.out.cell 0
        have m1 : w16.cell? ⟨nF, 1, none⟩ = some (.int .i64 0) := HF.out.cell 1
        have m2 : w16.cell? ⟨nF, 2, none⟩ = some (.int .i64 0) := HF.out.cell 2
        have f0 : w16.frozen? ⟨nF, 0, none⟩ = false := HF.out.fz 0
        have f1 : w16.frozen? ⟨nF, 1, none⟩ = false := HF.out.fz 1
        have f2 : w16.frozen? ⟨nF, 2, none⟩ = false := HF.out.fz 2
        go_simp
        have HF9 : Hid (Bw (((w16.setCell ⟨nF, 0, none⟩ (.int .i64 q0)).setCell ⟨nF, 1, none⟩ (.int .i64 q1)).setCell ⟨nF, 2, none⟩ (.int .i64 q2)) nF [.int .i64 q0, .int .i64 q1, .int .i64 q2] 23) := ((HF.out.set 0 (.int .i64 q0)).set 1 (.int .i64 q1)).set 2 (.int .i64 q2)
        have HB9 : Hid (Below base Z (((w16.setCell ⟨nF, 0, none⟩ (.int .i64 q0)).setCell ⟨nF, 1, none⟩ (.int .i64 q1)).setCell ⟨nF, 2, none⟩ (.int .i64 q2))) := ((HB.out.setCell (p := ⟨nF, 0, none⟩) HNF.out _).setCell (p := ⟨nF, 1, none⟩) HNF.out _).setCell (p := ⟨nF, 2, none⟩) HNF.out _
        clear m0 m1 m2 f0 f1 f2 HF HB
        refine hK.out _ _ (HS.out _ HB9.out) (fun hHeld2 => ?_)
        clear hK K hHeld
        have hHeld := hHeld2
        clear hHeld2
        try simp only [Act.put, List.setIfInBounds_toArray, List.set_cons_zero, List.set_cons_succ, List.getElem_toArray, List.getElem_cons_succ, List.getElem_cons_zero]
        refine wpAnyH_take (i := 12) (v := ?_) rfl (by kernel_rfl) (by kernel_rfl) (by kernel_rfl) (fun _ _ _ h => h) (Or.inl ⟨by rfl, ?_⟩) (by assumption) ?_
        rotate_left
        · intro z hSz
          obtain ⟨k0, k1, k2, k3, k4, k5, k6, k7, k8⟩ := hSz
          go_simp
          try with_reducible rfl
        try simp only [Act.put, List.setIfInBounds_toArray, List.set_cons_zero, List.set_cons_succ, List.getElem_toArray, List.getElem_cons_succ, List.getElem_cons_zero]
        refine wpAnyH_done (by kernel_rfl) ?_ _
        clear hHeld
        go_wp2_with fail
        go_meet
        case rel => exact ⟨nF, rfl, rfl, ⟨HF9.out, HNF.out, HB9.out⟩⟩
      refine AllReadyH.cons rfl (fun K hK => ?_) AllReadyH.nil
      have HB0 : Hid (base ≤ w12.heap.size) := by rw [HBS.out]; exact HB.out.size
      go_simp
      obtain ⟨nC, hnC⟩ : ∃ n, n = w12.heap.size := ⟨_, rfl⟩
      obtain ⟨w13, hw⟩ : ∃ x, x = w12.alloc (.cells #[.string xn, .int .i64 x0, .int .i64 x1, .int .i64 x2, .slice xwa xwn xwc, .slice xba xbn xbc, .string xg, .string xa, .int .i64 xr] 26) := ⟨_, rfl⟩
      have hb : Below w12.heap.size w12 w13 := by rw [hw]; exact al _ _
      have hn : ∀ j u, (flatT [(⟨xn, xg, xa, x0, x1, x2, xr, xwa, xwn, xwc, xba, xbn, xbc⟩ : Tk)])[j]? = some u → w13.cell? ((⟨nC, 0, none⟩ : Addr).add j) = some u := by rw [hw, hnC, flatT_one]; exact news_new w12 _ _
      have hn2 : nC < w13.heap.size := by rw [hw, hnC]; simp
      rw [← hw]
      rw [← hnC]
      have hne : (Value.slice (some ⟨nR, 0, none⟩) 0 0).ownBlock ≠ some nC := by intro e; have e : nR = nC := Option.some.inj e; have := (HR.out.lt nR rfl).2; omega
      have HR2 := Lib.hid (HR.out.keep hb)
      clear HR
      have HR := HR2
      clear HR2
      have HF2 := Lib.hid (HF.out.inn hb HF.out.lt)
      clear HF
      have HF := HF2
      clear HF2
      have HB2 : Hid (Below base Z w13) := HB.out.trans (hb.mono HB0.out)
      clear HB
      have HB := HB2
      clear HB2
      have HC := Lib.hid hn
      have HNC := Lib.hid hn2
      clear hn2
      have HNE := Lib.hid hne
      clear hne
      clear hb hn hw hnC
      clear HB0
      refine hK.out _ _ (HS.out _ HB.out) (fun hHeld2 => ?_)
      clear hK K hHeld
      have hHeld := hHeld2
      clear hHeld2
      try simp only [Act.put, List.setIfInBounds_toArray, List.set_cons_zero, List.set_cons_succ, List.getElem_toArray, List.getElem_cons_succ, List.getElem_cons_zero]
      refine wpAnyH_ready (rs := [2]) (by kernel_rfl) (by simp) ?_
      refine AllReadyH.cons rfl (fun K hK => ?_) AllReadyH.nil
      have HB0 : Hid (base ≤ w13.heap.size) := by rw [HBS.out]; exact HB.out.size
      obtain ⟨vR, w14, hr, hn, hg, hwh⟩ := run_appT (m := l) HR.out HB0.out va vc 22 (HSRC.out _ (HWZ.out.trans (HB.out.mono (Nat.le_of_lt (Nat.lt_of_le_of_lt (Nat.le_refl _) HPb.out.1))))) HM1.out
      rw [List.nil_append] at hn
      refine step_app rfl (.tmp 26) (.tmp 27) 22 rfl _ _ _ rfl rfl hr ?_
      clear hr
      have HB2 : Hid (Below base Z w14) := HB.out.grown hg HB0.out (fun k hk => (HR.out.lt k hk).1)
      have HC2 := Lib.hid (news_keep HC.out (hg.block nC HNC.out (fun e => HNE.out e.symm)))
      have HNC2 : Hid (nC < w14.heap.size) := Nat.lt_of_lt_of_le HNC.out hg.size
      have HNE2 : Hid (vR.ownBlock ≠ some nC) := by
        intro e
        rcases hwh with h | h
        · rw [h] at e; exact HNE.out e
        · rw [h] at e; have e := Option.some.inj e; have := HNC.out; omega
      clear HC HNC HNE
      have HC := HC2
      have HNC := HNC2
      have HNE := HNE2
      clear HC2 HNC2 HNE2
      have HF2 := Lib.hid (HF.out.grown hg (own_type HR.out HF.out (by decide)))
      clear HF
      have HF := HF2
      clear HF2
      clear HR HB hg hwh
      have HR := Lib.hid hn
      have HB := HB2
      clear hn HB2
      clear HB0
      refine hK.out _ _ (HS.out _ HB.out) (fun hHeld2 => ?_)
      clear hK K hHeld
      have hHeld := hHeld2
      clear hHeld2
      try simp only [Act.put, List.setIfInBounds_toArray, List.set_cons_zero, List.set_cons_succ, List.getElem_toArray, List.getElem_cons_succ, List.getElem_cons_zero]
      refine wpAnyH_ready (rs := [5]) (by kernel_rfl) (by simp) ?_
      refine AllReadyH.cons rfl (fun K hK => ?_) AllReadyH.nil
      have HB0 : Hid (base ≤ w14.heap.size) := by rw [HBS.out]; exact HB.out.size
      obtain ⟨vD, w15, hr, hn, hg, -⟩ := run_appT (m := [⟨xn, xg, xa, x0, x1, x2, xr, xwa, xwn, xwc, xba, xbn, xbc⟩]) HR.out HB0.out (some ⟨nC, 0, none⟩) 1 22 (.inr ⟨_, rfl, HC.out⟩) HM2.out
      refine step_app rfl (.tmp 28) (.tmp 30) 22 rfl _ _ _ rfl rfl hr ?_
      clear hr
      have HB2 : Hid (Below base Z w15) := HB.out.grown hg HB0.out (fun k hk => (HR.out.lt k hk).1)
      have HF2 := Lib.hid (HF.out.grown hg (own_type HR.out HF.out (by decide)))
      clear HF
      have HF := HF2
      clear HF2
      clear HR HB hg HC HNC HNE
      have HR := Lib.hid hn
      have HB := HB2
      clear hn HB2
      clear HB0
      refine hK.out _ _ (HS.out _ HB.out) (fun hHeld2 => ?_)
      clear hK K hHeld
      have hHeld := hHeld2
      clear hHeld2
      try simp only [Act.put, List.setIfInBounds_toArray, List.set_cons_zero, List.set_cons_succ, List.getElem_toArray, List.getElem_cons_succ, List.getElem_cons_zero]
      refine wpAnyH_ready (rs := [6]) (by kernel_rfl) (by simp) ?_
      refine AllReadyH.cons rfl (fun K hK => ?_) AllReadyH.nil
      have HB0 : Hid (base ≤ w15.heap.size) := by rw [HBS.out]; exact HB.out.size
      go_simp
      refine (HA.out _ _ _ HR.out).mono ?_
      rintro e w16 ⟨rfl, hb⟩
      clear HR
      have HF2 := Lib.hid (HF.out.inn hb HF.out.lt)
      clear HF
      have HF := HF2
      clear HF2
      have HB2 : Hid (Below base Z w16) := HB.out.trans (hb.mono HB0.out)
      clear HB
      have HB := HB2
      clear HB2
      clear hb
      clear HB0
      refine hK.out _ _ (HS.out _ HB.out) (fun hHeld2 => ?_)
      clear hK K hHeld
      have hHeld := hHeld2
      clear hHeld2
      try simp only [Act.put, List.setIfInBounds_toArray, List.set_cons_zero, List.set_cons_succ, List.getElem_toArray, List.getElem_cons_succ, List.getElem_cons_zero]
      refine wpAnyH_take (i := 7) (v := ?_) rfl (by kernel_rfl) (by kernel_rfl) (by kernel_rfl) (fun _ _ _ h => h) (Or.inl ⟨by rfl, ?_⟩) (by assumption) ?_
      rotate_left
      · intro z hSz
        obtain ⟨k0, k1, k2, k3, k4, k5, k6, k7, k8⟩ := hSz
        go_simp
        try with_reducible rfl
      try simp only [Act.put, List.setIfInBounds_toArray, List.set_cons_zero, List.set_cons_succ, List.getElem_toArray, List.getElem_cons_succ, List.getElem_cons_zero]
      refine wpAnyH_take (i := 8) (v := ?_) rfl (by kernel_rfl) (by kernel_rfl) (by kernel_rfl) (fun _ _ _ h => h) (Or.inl ⟨by rfl, ?_⟩) (by assumption) ?_
      rotate_left
      · intro z hSz
        obtain ⟨k0, k1, k2, k3, k4, k5, k6, k7, k8⟩ := hSz
        go_simp
        try with_reducible rfl
      try simp only [Act.put, List.setIfInBounds_toArray, List.set_cons_zero, List.set_cons_succ, List.getElem_toArray, List.getElem_cons_succ, List.getElem_cons_zero]
      refine wpAnyH_take (i := 9) (v := ?_) rfl (by kernel_rfl) (by kernel_rfl) (by kernel_rfl) (fun _ _ _ h => h) (Or.inl ⟨by rfl, ?_⟩) (by assumption) ?_
      rotate_left
      · intro z hSz
        obtain ⟨k0, k1, k2, k3, k4, k5, k6, k7, k8⟩ := hSz
        go_simp
        try with_reducible rfl
      try simp only [Act.put, List.setIfInBounds_toArray, List.set_cons_zero, List.set_cons_succ, List.getElem_toArray, List.getElem_cons_succ, List.getElem_cons_zero]
      refine wpAnyH_ready (rs := [11]) (by kernel_rfl) (by simp) ?_
      refine AllReadyH.cons rfl (fun K hK => ?_) AllReadyH.nil
      have m0 : w16.cell? ⟨nF, 0, none⟩ = some (.int .i64 0) := HF.out.cell 0
      have m1 : w16.cell? ⟨nF, 1, none⟩ = some (.int .i64 0) := HF.out.cell 1
      have m2 : w16.cell? ⟨nF, 2, none⟩ = some (.int .i64 0) := HF.out.cell 2
      have f0 : w16.frozen? ⟨nF, 0, none⟩ = false := HF.out.fz 0
      have f1 : w16.frozen? ⟨nF, 1, none⟩ = false := HF.out.fz 1
      have f2 : w16.frozen? ⟨nF, 2, none⟩ = false := HF.out.fz 2
      go_simp
      have HF9 : Hid (Bw (((w16.setCell ⟨nF, 0, none⟩ (.int .i64 q0)).setCell ⟨nF, 1, none⟩ (.int .i64 q1)).setCell ⟨nF, 2, none⟩ (.int .i64 q2)) nF [.int .i64 q0, .int .i64 q1, .int .i64 q2] 23) := ((HF.out.set 0 (.int .i64 q0)).set 1 (.int .i64 q1)).set 2 (.int .i64 q2)
      have HB9 : Hid (Below base Z (((w16.setCell ⟨nF, 0, none⟩ (.int .i64 q0)).setCell ⟨nF, 1, none⟩ (.int .i64 q1)).setCell ⟨nF, 2, none⟩ (.int .i64 q2))) := ((HB.out.setCell (p := ⟨nF, 0, none⟩) HNF.out _).setCell (p := ⟨nF, 1, none⟩) HNF.out _).setCell (p := ⟨nF, 2, none⟩) HNF.out _
      clear m0 m1 m2 f0 f1 f2 HF HB
      refine hK.out _ _ (HS.out _ HB9.out) (fun hHeld2 => ?_)
      clear hK K hHeld
      have hHeld := hHeld2
      clear hHeld2
      try simp only [Act.put, List.setIfInBounds_toArray, List.set_cons_zero, List.set_cons_succ, List.getElem_toArray, List.getElem_cons_succ, List.getElem_cons_zero]
      refine wpAnyH_take (i := 12) (v := ?_) rfl (by kernel_rfl) (by kernel_rfl) (by kernel_rfl) (fun _ _ _ h => h) (Or.inl ⟨by rfl, ?_⟩) (by assumption) ?_
      rotate_left
      · intro z hSz
        obtain ⟨k0, k1, k2, k3, k4, k5, k6, k7, k8⟩ := hSz
        go_simp
        try with_reducible rfl
      try simp only [Act.put, List.setIfInBounds_toArray, List.set_cons_zero, List.set_cons_succ, List.getElem_toArray, List.getElem_cons_succ, List.getElem_cons_zero]
      refine wpAnyH_done (by kernel_rfl) ?_ _
      clear hHeld
      go_wp2_with fail
      go_meet
      case rel => exact ⟨nF, rfl, rfl, ⟨HF9.out, HNF.out, HB9.out⟩⟩
    refine AllReadyH.cons rfl (fun K hK => ?_) ?_
    · have HB0 : Hid (base ≤ w10.heap.size) := by rw [HBS.out]; exact HB.out.size
      go_simp
      obtain ⟨nC, hnC⟩ : ∃ n, n = w10.heap.size := ⟨_, rfl⟩
      obtain ⟨w11, hw⟩ : ∃ x, x = w10.alloc (.cells #[.string xn, .int .i64 x0, .int .i64 x1, .int .i64 x2, .slice xwa xwn xwc, .slice xba xbn xbc, .string xg, .string xa, .int .i64 xr] 26) := ⟨_, rfl⟩
      have hb : Below w10.heap.size w10 w11 := by rw [hw]; exact al _ _
      have hn : ∀ j u, (flatT [(⟨xn, xg, xa, x0, x1, x2, xr, xwa, xwn, xwc, xba, xbn, xbc⟩ : Tk)])[j]? = some u → w11.cell? ((⟨nC, 0, none⟩ : Addr).add j) = some u := by rw [hw, hnC, flatT_one]; exact news_new w10 _ _
      have hn2 : nC < w11.heap.size := by rw [hw, hnC]; simp
      rw [← hw]
      rw [← hnC]
      have HB2 : Hid (Below base Z w11) := HB.out.trans (hb.mono HB0.out)
      clear HB
      have HB := HB2
      clear HB2
      have HC := Lib.hid hn
      have HNC := Lib.hid hn2
      clear hn2
      clear hb hn hw hnC
      clear HB0
      refine hK.out _ _ (HS.out _ HB.out) (fun hHeld2 => ?_)
      clear hK K hHeld
      have hHeld := hHeld2
      clear hHeld2
      try simp only [Act.put, List.setIfInBounds_toArray, List.set_cons_zero, List.set_cons_succ, List.getElem_toArray, List.getElem_cons_succ, List.getElem_cons_zero]
      refine wpAnyH_ready (rs := [0, 10]) (by kernel_rfl) (by simp) ?_
      refine AllReadyH.cons rfl (fun K hK => ?_) ?_
      · have HB0 : Hid (base ≤ w11.heap.size) := by rw [HBS.out]; exact HB.out.size
        go_simp
        obtain ⟨nR, hnR⟩ : ∃ n, n = w11.heap.size := ⟨_, rfl⟩
        obtain ⟨w12, hw⟩ : ∃ x, x = w11.alloc (.cells #[] 26) := ⟨_, rfl⟩
        have hb : Below w11.heap.size w11 w12 := by rw [hw]; exact al _ _
        have hn : OwnT w12 base (.slice (some ⟨nR, 0, none⟩) 0 0) [] := by rw [hw, hnR]; exact OwnT.made w11 base HB0.out
        rw [← hw]
        rw [← hnR]
        have hne : (Value.slice (some ⟨nR, 0, none⟩) 0 0).ownBlock ≠ some nC := by intro e; have e : nR = nC := Option.some.inj e; have := HNC.out; omega
        have HC2 := Lib.hid (news_keep HC.out (hb.block nC HNC.out))
        have HNC2 : Hid (nC < w12.heap.size) := Nat.lt_of_lt_of_le HNC.out hb.size
        clear HC HNC
        have HC := HC2
        have HNC := HNC2
        clear HC2 HNC2
        have HB2 : Hid (Below base Z w12) := HB.out.trans (hb.mono HB0.out)
        clear HB
        have HB := HB2
        clear HB2
        have HR := Lib.hid hn
        have HNE := Lib.hid hne
        clear hne
        clear hb hn hw hnR
        clear HB0
        refine hK.out _ _ (HS.out _ HB.out) (fun hHeld2 => ?_)
        clear hK K hHeld
        have hHeld := hHeld2
        clear hHeld2
        try simp only [Act.put, List.setIfInBounds_toArray, List.set_cons_zero, List.set_cons_succ, List.getElem_toArray, List.getElem_cons_succ, List.getElem_cons_zero]
        refine wpAnyH_ready (rs := [2, 10]) (by kernel_rfl) (by simp) ?_
        refine AllReadyH.cons rfl (fun K hK => ?_) ?_
        · have HB0 : Hid (base ≤ w12.heap.size) := by rw [HBS.out]; exact HB.out.size
          obtain ⟨vR, w13, hr, hn, hg, hwh⟩ := run_appT (m := l) HR.out HB0.out va vc 22 (HSRC.out _ (HWZ.out.trans (HB.out.mono (Nat.le_of_lt (Nat.lt_of_le_of_lt (Nat.le_refl _) HPb.out.1))))) HM1.out
          rw [List.nil_append] at hn
          refine step_app rfl (.tmp 26) (.tmp 27) 22 rfl _ _ _ rfl rfl hr ?_
          clear hr
          have HB2 : Hid (Below base Z w13) := HB.out.grown hg HB0.out (fun k hk => (HR.out.lt k hk).1)
          have HC2 := Lib.hid (news_keep HC.out (hg.block nC HNC.out (fun e => HNE.out e.symm)))
          have HNC2 : Hid (nC < w13.heap.size) := Nat.lt_of_lt_of_le HNC.out hg.size
          have HNE2 : Hid (vR.ownBlock ≠ some nC) := by
            intro e
            rcases hwh with h | h
            · rw [h] at e; exact HNE.out e
            · rw [h] at e; have e := Option.some.inj e; have := HNC.out; omega
          clear HC HNC HNE
          have HC := HC2
          have HNC := HNC2
          have HNE := HNE2
          clear HC2 HNC2 HNE2
          clear HR HB hg hwh
          have HR := Lib.hid hn
          have HB := HB2
          clear hn HB2
          clear HB0
          refine hK.out _ _ (HS.out _ HB.out) (fun hHeld2 => ?_)
          clear hK K hHeld
          have hHeld := hHeld2
          clear hHeld2
          try simp only [Act.put, List.setIfInBounds_toArray, List.set_cons_zero, List.set_cons_succ, List.getElem_toArray, List.getElem_cons_succ, List.getElem_cons_zero]
          refine wpAnyH_ready (rs := [5, 10]) (by kernel_rfl) (by simp) ?_
          refine AllReadyH.cons rfl (fun K hK => ?_) ?_
          · have HB0 : Hid (base ≤ w13.heap.size) := by rw [HBS.out]; exact HB.out.size
            obtain ⟨vD, w14, hr, hn, hg, -⟩ := run_appT (m := [⟨xn, xg, xa, x0, x1, x2, xr, xwa, xwn, xwc, xba, xbn, xbc⟩]) HR.out HB0.out (some ⟨nC, 0, none⟩) 1 22 (.inr ⟨_, rfl, HC.out⟩) HM2.out
            refine step_app rfl (.tmp 28) (.tmp 30) 22 rfl _ _ _ rfl rfl hr ?_
            clear hr
            have HB2 : Hid (Below base Z w14) := HB.out.grown hg HB0.out (fun k hk => (HR.out.lt k hk).1)
            clear HR HB hg HC HNC HNE
            have HR := Lib.hid hn
            have HB := HB2
            clear hn HB2
            clear HB0
            refine hK.out _ _ (HS.out _ HB.out) (fun hHeld2 => ?_)
            clear hK K hHeld
            have hHeld := hHeld2
            clear hHeld2
            try simp only [Act.put, List.setIfInBounds_toArray, List.set_cons_zero, List.set_cons_succ, List.getElem_toArray, List.getElem_cons_succ, List.getElem_cons_zero]
            refine wpAnyH_ready (rs := [6, 10]) (by kernel_rfl) (by simp) ?_
            refine AllReadyH.cons rfl (fun K hK => ?_) ?_
            · have HB0 : Hid (base ≤ w14.heap.size) := by rw [HBS.out]; exact HB.out.size
              go_simp
              refine (HA.out _ _ _ HR.out).mono ?_
              rintro e w15 ⟨rfl, hb⟩
              clear HR
              have HB2 : Hid (Below base Z w15) := HB.out.trans (hb.mono HB0.out)
              clear HB
              have HB := HB2
              clear HB2
              clear hb
              clear HB0
              refine hK.out _ _ (HS.out _ HB.out) (fun hHeld2 => ?_)
              clear hK K hHeld
              have hHeld := hHeld2
              clear hHeld2
              try simp only [Act.put, List.setIfInBounds_toArray, List.set_cons_zero, List.set_cons_succ, List.getElem_toArray, List.getElem_cons_succ, List.getElem_cons_zero]
              refine wpAnyH_take (i := 7) (v := ?_) rfl (by kernel_rfl) (by kernel_rfl) (by kernel_rfl) (fun _ _ _ h => h) (Or.inl ⟨by rfl, ?_⟩) (by assumption) ?_
              rotate_left
              · intro z hSz
                obtain ⟨k0, k1, k2, k3, k4, k5, k6, k7, k8⟩ := hSz
                go_simp
                try with_reducible rfl
              try simp only [Act.put, List.setIfInBounds_toArray, List.set_cons_zero, List.set_cons_succ, List.getElem_toArray, List.getElem_cons_succ, List.getElem_cons_zero]
              refine wpAnyH_take (i := 8) (v := ?_) rfl (by kernel_rfl) (by kernel_rfl) (by kernel_rfl) (fun _ _ _ h => h) (Or.inl ⟨by rfl, ?_⟩) (by assumption) ?_
              rotate_left
              · intro z hSz
                obtain ⟨k0, k1, k2, k3, k4, k5, k6, k7, k8⟩ := hSz
                go_simp
                try with_reducible rfl
              try simp only [Act.put, List.setIfInBounds_toArray, List.set_cons_zero, List.set_cons_succ, List.getElem_toArray, List.getElem_cons_succ, List.getElem_cons_zero]
              refine wpAnyH_take (i := 9) (v := ?_) rfl (by kernel_rfl) (by kernel_rfl) (by kernel_rfl) (fun _ _ _ h => h) (Or.inl ⟨by rfl, ?_⟩) (by assumption) ?_
              rotate_left
              · intro z hSz
                obtain ⟨k0, k1, k2, k3, k4, k5, k6, k7, k8⟩ := hSz
                go_simp
                try with_reducible rfl
              try simp only [Act.put, List.setIfInBounds_toArray, List.set_cons_zero, List.set_cons_succ, List.getElem_toArray, List.getElem_cons_succ, List.getElem_cons_zero]
              refine wpAnyH_ready (rs := [10]) (by kernel_rfl) (by simp) ?_
              refine AllReadyH.cons rfl (fun K hK => ?_) AllReadyH.nil
              have HB0 : Hid (base ≤ w15.heap.size) := by rw [HBS.out]; exact HB.out.size
              go_simp
              obtain ⟨nF, hnF⟩ : ∃ n, n = w15.heap.size := ⟨_, rfl⟩
              obtain ⟨w16, hw⟩ : ∃ x, x = w15.alloc (.cells #[.int .i64 0, .int .i64 0, .int .i64 0] 23) := ⟨_, rfl⟩
              have hb : Below w15.heap.size w15 w16 := by rw [hw]; exact al _ _
              have hn : Bw w16 nF [.int .i64 0, .int .i64 0, .int .i64 0] 23 := by rw [hw, hnF]; exact Bw.made w15 _ _
              have hn2 : base ≤ nF := by rw [hnF]; exact HB0.out
              rw [← hw]
              rw [← hnF]
              have HB2 : Hid (Below base Z w16) := HB.out.trans (hb.mono HB0.out)
              clear HB
              have HB := HB2
              clear HB2
              have HF := Lib.hid hn
              have HNF := Lib.hid hn2
              clear hn2
              clear hb hn hw hnF
              clear HB0
              refine hK.out _ _ (HS.out _ HB.out) (fun hHeld2 => ?_)
              clear hK K hHeld
              have hHeld := hHeld2
              clear hHeld2
              try simp only [Act.put, List.setIfInBounds_toArray, List.set_cons_zero, List.set_cons_succ, List.getElem_toArray, List.getElem_cons_succ, List.getElem_cons_zero]
              refine wpAnyH_ready (rs := [11]) (by kernel_rfl) (by simp) ?_
              refine AllReadyH.cons rfl (fun K hK => ?_) AllReadyH.nil
              have m0 : w16.cell? ⟨nF, 0, none⟩ = some (.int .i64 0) := HF.out.cell 0
              have m1 : w16.cell? ⟨nF, 1, none⟩ = some (.int .i64 0) := HF.out.cell 1
              have m2 : w16.cell? ⟨nF, 2, none⟩ = some (.int .i64 0) := HF.out.cell 2
              have f0 : w16.frozen? ⟨nF, 0, none⟩ = false := HF.out.fz 0
              have f1 : w16.frozen? ⟨nF, 1, none⟩ = false := HF.out.fz 1
              have f2 : w16.frozen? ⟨nF, 2, none⟩ = false := HF.out.fz 2
              go_simp
              have HF9 : Hid (Bw (((w16.setCell ⟨nF, 0, none⟩ (.int .i64 q0)).setCell ⟨nF, 1, none⟩ (.int .i64 q1)).setCell ⟨nF, 2, none⟩ (.int .i64 q2)) nF [.int .i64 q0, .int .i64 q1, .int .i64 q2] 23) := ((HF.out.set 0 (.int .i64 q0)).set 1 (.int .i64 q1)).set 2 (.int .i64 q2)
              have HB9 : Hid (Below base Z (((w16.setCell ⟨nF, 0, none⟩ (.int .i64 q0)).setCell ⟨nF, 1, none⟩ (.int .i64 q1)).setCell ⟨nF, 2, none⟩ (.int .i64 q2))) := ((HB.out.setCell (p := ⟨nF, 0, none⟩) HNF.out _).setCell (p := ⟨nF, 1, none⟩) HNF.out _).setCell (p := ⟨nF, 2, none⟩) HNF.out _
              clear m0 m1 m2 f0 f1 f2 HF HB
              refine hK.out _ _ (HS.out _ HB9.out) (fun hHeld2 => ?_)
              clear hK K hHeld
              have hHeld := hHeld2
              clear hHeld2
              try simp only [Act.put, List.setIfInBounds_toArray, List.set_cons_zero, List.set_cons_succ, List.getElem_toArray, List.getElem_cons_succ, List.getElem_cons_zero]
              refine wpAnyH_take (i := 12) (v := ?_) rfl (by kernel_rfl) (by kernel_rfl) (by kernel_rfl) (fun _ _ _ h => h) (Or.inl ⟨by rfl, ?_⟩) (by assumption) ?_
              rotate_left
              · intro z hSz
                obtain ⟨k0, k1, k2, k3, k4, k5, k6, k7, k8⟩ := hSz
                go_simp
                try with_reducible rfl
              try simp only [Act.put, List.setIfInBounds_toArray, List.set_cons_zero, List.set_cons_succ, List.getElem_toArray, List.getElem_cons_succ, List.getElem_cons_zero]
              refine wpAnyH_done (by kernel_rfl) ?_ _
              clear hHeld
              go_wp2_with fail
              go_meet
              case rel => exact ⟨nF, rfl, rfl, ⟨HF9.out, HNF.out, HB9.out⟩⟩
            refine AllReadyH.cons rfl (fun K hK => ?_) AllReadyH.nil
            have HB0 : Hid (base ≤ w14.heap.size) := by rw [HBS.out]; exact HB.out.size
            go_simp
            obtain ⟨nF, hnF⟩ : ∃ n, n = w14.heap.size := ⟨_, rfl⟩
            obtain ⟨w15, hw⟩ : ∃ x, x = w14.alloc (.cells #[.int .i64 0, .int .i64 0, .int .i64 0] 23) := ⟨_, rfl⟩
            have hb : Below w14.heap.size w14 w15 := by rw [hw]; exact al _ _
            have hn : Bw w15 nF [.int .i64 0, .int .i64 0, .int .i64 0] 23 := by rw [hw, hnF]; exact Bw.made w14 _ _
            have hn2 : base ≤ nF := by rw [hnF]; exact HB0.out
            rw [← hw]
            rw [← hnF]
            have HR2 := Lib.hid (HR.out.keep hb)
            clear HR
            have HR := HR2
            clear HR2
            have HB2 : Hid (Below base Z w15) := HB.out.trans (hb.mono HB0.out)
            clear HB
            have HB := HB2
            clear HB2
            have HF := Lib.hid hn
            have HNF := Lib.hid hn2
            clear hn2
            clear hb hn hw hnF
            clear HB0
            refine hK.out _ _ (HS.out _ HB.out) (fun hHeld2 => ?_)
            clear hK K hHeld
            have hHeld := hHeld2
            clear hHeld2
            try simp only [Act.put, List.setIfInBounds_toArray, List.set_cons_zero, List.set_cons_succ, List.getElem_toArray, List.getElem_cons_succ, List.getElem_cons_zero]
            refine wpAnyH_ready (rs := [6]) (by kernel_rfl) (by simp) ?_
            refine AllReadyH.cons rfl (fun K hK => ?_) AllReadyH.nil
            have HB0 : Hid (base ≤ w15.heap.size) := by rw [HBS.out]; exact HB.out.size
            go_simp
            refine (HA.out _ _ _ HR.out).mono ?_
            rintro e w16 ⟨rfl, hb⟩
            clear HR
            have HF2 := Lib.hid (HF.out.inn hb HF.out.lt)
            clear HF
            have HF := HF2
            clear HF2
            have HB2 : Hid (Below base Z w16) := HB.out.trans (hb.mono HB0.out)
            clear HB
            have HB := HB2
            clear HB2
            clear hb
            clear HB0
            refine hK.out _ _ (HS.out _ HB.out) (fun hHeld2 => ?_)
            clear hK K hHeld
            have hHeld := hHeld2
            clear hHeld2
            try simp only [Act.put, List.setIfInBounds_toArray, List.set_cons_zero, List.set_cons_succ, List.getElem_toArray, List.getElem_cons_succ, List.getElem_cons_zero]
            refine wpAnyH_take (i := 7) (v := ?_) rfl (by kernel_rfl) (by kernel_rfl) (by kernel_rfl) (fun _ _ _ h => h) (Or.inl ⟨by rfl, ?_⟩) (by assumption) ?_
            rotate_left
            · intro z hSz
              obtain ⟨k0, k1, k2, k3, k4, k5, k6, k7, k8⟩ := hSz
              go_simp
              try with_reducible rfl
            try simp only [Act.put, List.setIfInBounds_toArray, List.set_cons_zero, List.set_cons_succ, List.getElem_toArray, List.getElem_cons_succ, List.getElem_cons_zero]
            refine wpAnyH_take (i := 8) (v := ?_) rfl (by kernel_rfl) (by kernel_rfl) (by kernel_rfl) (fun _ _ _ h => h) (Or.inl ⟨by rfl, ?_⟩) (by assumption) ?_
            rotate_left
            · intro z hSz
              obtain ⟨k0, k1, k2, k3, k4, k5, k6, k7, k8⟩ := hSz
              go_simp
              try with_reducible rfl
            try simp only [Act.put, List.setIfInBounds_toArray, List.set_cons_zero, List.set_cons_succ, List.getElem_toArray, List.getElem_cons_succ, List.getElem_cons_zero]
            refine wpAnyH_take (i := 9) (v := ?_) rfl (by kernel_rfl) (by kernel_rfl) (by kernel_rfl) (fun _ _ _ h => h) (Or.inl ⟨by rfl, ?_⟩) (by assumption) ?_
            rotate_left
            · intro z hSz
              obtain ⟨k0, k1, k2, k3, k4, k5, k6, k7, k8⟩ := hSz
              go_simp
              try with_reducible rfl
            try simp only [Act.put, List.setIfInBounds_toArray, List.set_cons_zero, List.set_cons_succ, List.getElem_toArray, List.getElem_cons_succ, List.getElem_cons_zero]
            refine wpAnyH_ready (rs := [11]) (by kernel_rfl) (by simp) ?_
            refine AllReadyH.cons rfl (fun K hK => ?_) AllReadyH.nil
            have m0 : w16.cell? ⟨nF, 0, none⟩ = some (.int .i64 0) := HF.out.cell 0
            have m1 : w16.cell? ⟨nF, 1, none⟩ = some (.int .i64 0) := HF.out.cell 1
            have m2 : w16.cell? ⟨nF, 2, none⟩ = some (.int .i64 0) := HF.out.cell 2
            have f0 : w16.frozen? ⟨nF, 0, none⟩ = false := HF.out.fz 0
            have f1 : w16.frozen? ⟨nF, 1, none⟩ = false := HF.out.fz 1
            have f2 : w16.frozen? ⟨nF, 2, none⟩ = false := HF.out.fz 2
            go_simp
            have HF9 : Hid (Bw (((w16.setCell ⟨nF, 0, none⟩ (.int .i64 q0)).setCell ⟨nF, 1, none⟩ (.int .i64 q1)).setCell ⟨nF, 2, none⟩ (.int .i64 q2)) nF [.int .i64 q0, .int .i64 q1, .int .i64 q2] 23) := ((HF.out.set 0 (.int .i64 q0)).set 1 (.int .i64 q1)).set 2 (.int .i64 q2)
            have HB9 : Hid (Below base Z (((w16.setCell ⟨nF, 0, none⟩ (.int .i64 q0)).setCell ⟨nF, 1, none⟩ (.int .i64 q1)).setCell ⟨nF, 2, none⟩ (.int .i64 q2))) := ((HB.out.setCell (p := ⟨nF, 0, none⟩) HNF.out _).setCell (p := ⟨nF, 1, none⟩) HNF.out _).setCell (p := ⟨nF, 2, none⟩) HNF.out _
            clear m0 m1 m2 f0 f1 f2 HF HB
            refine hK.out _ _ (HS.out _ HB9.out) (fun hHeld2 => ?_)
            clear hK K hHeld
            have hHeld := hHeld2
            clear hHeld2
            try simp only [Act.put, List.setIfInBounds_toArray, List.set_cons_zero, List.set_cons_succ, List.getElem_toArray, List.getElem_cons_succ, List.getElem_cons_zero]
            refine wpAnyH_take (i := 12) (v := ?_) rfl (by kernel_rfl) (by kernel_rfl) (by kernel_rfl) (fun _ _ _ h => h) (Or.inl ⟨by rfl, ?_⟩) (by assumption) ?_
            rotate_left
            · intro z hSz
              obtain ⟨k0, k1, k2, k3, k4, k5, k6, k7, k8⟩ := hSz
              go_simp
              try with_reducible rfl
            try simp only [Act.put, List.setIfInBounds_toArray, List.set_cons_zero, List.set_cons_succ, List.getElem_toArray, List.getElem_cons_succ, List.getElem_cons_zero]
            refine wpAnyH_done (by kernel_rfl) ?_ _
            clear hHeld
            go_wp2_with fail
            go_meet
            case rel => exact ⟨nF, rfl, rfl, ⟨HF9.out, HNF.out, HB9.out⟩⟩
          refine AllReadyH.cons rfl (fun K hK => ?_) AllReadyH.nil
          have HB0 : Hid (base ≤ w13.heap.size) := by rw [HBS.out]; exact HB.out.size
          go_simp
          obtain ⟨nF, hnF⟩ : ∃ n, n = w13.heap.size := ⟨_, rfl⟩
          obtain ⟨w14, hw⟩ : ∃ x, x = w13.alloc (.cells #[.int .i64 0, .int .i64 0, .int .i64 0] 23) := ⟨_, rfl⟩
          have hb : Below w13.heap.size w13 w14 := by rw [hw]; exact al _ _
          have hn : Bw w14 nF [.int .i64 0, .int .i64 0, .int .i64 0] 23 := by rw [hw, hnF]; exact Bw.made w13 _ _
          have hn2 : base ≤ nF := by rw [hnF]; exact HB0.out
          rw [← hw]
          rw [← hnF]
          have HR2 := Lib.hid (HR.out.keep hb)
          clear HR
          have HR := HR2
          clear HR2
          have HC2 := Lib.hid (news_keep HC.out (hb.block nC HNC.out))
          have HNC2 : Hid (nC < w14.heap.size) := Nat.lt_of_lt_of_le HNC.out hb.size
          clear HC HNC
          have HC := HC2
          have HNC := HNC2
          clear HC2 HNC2
          have HB2 : Hid (Below base Z w14) := HB.out.trans (hb.mono HB0.out)
          clear HB
          have HB := HB2
          clear HB2
          have HF := Lib.hid hn
          have HNF := Lib.hid hn2
          clear hn2
          clear hb hn hw hnF
          clear HB0
          refine hK.out _ _ (HS.out _ HB.out) (fun hHeld2 => ?_)
          clear hK K hHeld
          have hHeld := hHeld2
          clear hHeld2
          try simp only [Act.put, List.setIfInBounds_toArray, List.set_cons_zero, List.set_cons_succ, List.getElem_toArray, List.getElem_cons_succ, List.getElem_cons_zero]
          refine wpAnyH_ready (rs := [5]) (by kernel_rfl) (by simp) ?_
          refine AllReadyH.cons rfl (fun K hK => ?_) AllReadyH.nil
          have HB0 : Hid (base ≤ w14.heap.size) := by rw [HBS.out]; exact HB.out.size
          obtain ⟨vD, w15, hr, hn, hg, -⟩ := run_appT (m := [⟨xn, xg, xa, x0, x1, x2, xr, xwa, xwn, xwc, xba, xbn, xbc⟩]) HR.out HB0.out (some ⟨nC, 0, none⟩) 1 22 (.inr ⟨_, rfl, HC.out⟩) HM2.out
          refine step_app rfl (.tmp 28) (.tmp 30) 22 rfl _ _ _ rfl rfl hr ?_
          clear hr
          have HB2 : Hid (Below base Z w15) := HB.out.grown hg HB0.out (fun k hk => (HR.out.lt k hk).1)
          have HF2 := Lib.hid (HF.out.grown hg (own_type HR.out HF.out (by decide)))
          clear HF
          have HF := HF2
          clear HF2
          clear HR HB hg HC HNC HNE
          have HR := Lib.hid hn
          have HB := HB2
          clear hn HB2
          clear HB0
          refine hK.out _ _ (HS.out _ HB.out) (fun hHeld2 => ?_)
          clear hK K hHeld
          have hHeld := hHeld2
          clear hHeld2
          try simp only [Act.put, List.setIfInBounds_toArray, List.set_cons_zero, List.set_cons_succ, List.getElem_toArray, List.getElem_cons_succ, List.getElem_cons_zero]
          refine wpAnyH_ready (rs := [6]) (by kernel_rfl) (by simp) ?_
          refine AllReadyH.cons rfl (fun K hK => ?_) AllReadyH.nil
          have HB0 : Hid (base ≤ w15.heap.size) := by rw [HBS.out]; exact HB.out.size
          go_simp
          refine (HA.out _ _ _ HR.out).mono ?_
          rintro e w16 ⟨rfl, hb⟩
          clear HR
          have HF2 := Lib.hid (HF.out.inn hb HF.out.lt)
          clear HF
          have HF := HF2
          clear HF2
          have HB2 : Hid (Below base Z w16) := HB.out.trans (hb.mono HB0.out)
          clear HB
          have HB := HB2
          clear HB2
          clear hb
          clear HB0
          refine hK.out _ _ (HS.out _ HB.out) (fun hHeld2 => ?_)
          clear hK K hHeld
          have hHeld := hHeld2
          clear hHeld2
          try simp only [Act.put, List.setIfInBounds_toArray, List.set_cons_zero, List.set_cons_succ, List.getElem_toArray, List.getElem_cons_succ, List.getElem_cons_zero]
          refine wpAnyH_take (i := 7) (v := ?_) rfl (by kernel_rfl) (by kernel_rfl) (by kernel_rfl) (fun _ _ _ h => h) (Or.inl ⟨by rfl, ?_⟩) (by assumption) ?_
          rotate_left
          · intro z hSz
            obtain ⟨k0, k1, k2, k3, k4, k5, k6, k7, k8⟩ := hSz
            go_simp
            try with_reducible rfl
          try simp only [Act.put, List.setIfInBounds_toArray, List.set_cons_zero, List.set_cons_succ, List.getElem_toArray, List.getElem_cons_succ, List.getElem_cons_zero]
          refine wpAnyH_take (i := 8) (v := ?_) rfl (by kernel_rfl) (by kernel_rfl) (by kernel_rfl) (fun _ _ _ h => h) (Or.inl ⟨by rfl, ?_⟩) (by assumption) ?_
          rotate_left
          · intro z hSz
            obtain ⟨k0, k1, k2, k3, k4, k5, k6, k7, k8⟩ := hSz
            go_simp
            try with_reducible rfl
          try simp only [Act.put, List.setIfInBounds_toArray, List.set_cons_zero, List.set_cons_succ, List.getElem_toArray, List.getElem_cons_succ, List.getElem_cons_zero]
          refine wpAnyH_take (i := 9) (v := ?_) rfl (by kernel_rfl) (by kernel_rfl) (by kernel_rfl) (fun _ _ _ h => h) (Or.inl ⟨by rfl, ?_⟩) (by assumption) ?_
          rotate_left
          · intro z hSz
            obtain ⟨k0, k1, k2, k3, k4, k5, k6, k7, k8⟩ := hSz
            go_simp
            try with_reducible rfl
          try simp only [Act.put, List.setIfInBounds_toArray, List.set_cons_zero, List.set_cons_succ, List.getElem_toArray, List.getElem_cons_succ, List.getElem_cons_zero]
          refine wpAnyH_ready (rs := [11]) (by kernel_rfl) (by simp) ?_
          refine AllReadyH.cons rfl (fun K hK => ?_) AllReadyH.nil
          have m0 : w16.cell? ⟨nF, 0, none⟩ = some (.int .i64 0) := HF.out.cell 0
          have m1 : w16.cell? ⟨nF, 1, none⟩ = some (.int .i64 0) := HF.out.cell 1
          have m2 : w16.cell? ⟨nF, 2, none⟩ = some (.int .i64 0) := HF.out.cell 2
          have f0 : w16.frozen? ⟨nF, 0, none⟩ = false := HF.out.fz 0
          have f1 : w16.frozen? ⟨nF, 1, none⟩ = false := HF.out.fz 1
          have f2 : w16.frozen? ⟨nF, 2, none⟩ = false := HF.out.fz 2
          go_simp
          have HF9 : Hid (Bw (((w16.setCell ⟨nF, 0, none⟩ (.int .i64 q0)).setCell ⟨nF, 1, none⟩ (.int .i64 q1)).setCell ⟨nF, 2, none⟩ (.int .i64 q2)) nF [.int .i64 q0, .int .i64 q1, .int .i64 q2] 23) := ((HF.out.set 0 (.int .i64 q0)).set 1 (.int .i64 q1)).set 2 (.int .i64 q2)
          have HB9 : Hid (Below base Z (((w16.setCell ⟨nF, 0, none⟩ (.int .i64 q0)).setCell ⟨nF, 1, none⟩ (.int .i64 q1)).setCell ⟨nF, 2, none⟩ (.int .i64 q2))) := ((HB.out.setCell (p := ⟨nF, 0, none⟩) HNF.out _).setCell (p := ⟨nF, 1, none⟩) HNF.out _).setCell (p := ⟨nF, 2, none⟩) HNF.out _
          clear m0 m1 m2 f0 f1 f2 HF HB
          refine hK.out _ _ (HS.out _ HB9.out) (fun hHeld2 => ?_)
          clear hK K hHeld
          have hHeld := hHeld2
          clear hHeld2
          try simp only [Act.put, List.setIfInBounds_toArray, List.set_cons_zero, List.set_cons_succ, List.getElem_toArray, List.getElem_cons_succ, List.getElem_cons_zero]
          refine wpAnyH_take (i := 12) (v := ?_) rfl (by kernel_rfl) (by kernel_rfl) (by kernel_rfl) (fun _ _ _ h => h) (Or.inl ⟨by rfl, ?_⟩) (by assumption) ?_
          rotate_left
          · intro z hSz
            obtain ⟨k0, k1, k2, k3, k4, k5, k6, k7, k8⟩ := hSz
            go_simp
            try with_reducible rfl
          try simp only [Act.put, List.setIfInBounds_toArray, List.set_cons_zero, List.set_cons_succ, List.getElem_toArray, List.getElem_cons_succ, List.getElem_cons_zero]
          refine wpAnyH_done (by kernel_rfl) ?_ _
          clear hHeld
          go_wp2_with fail
          go_meet
          case rel => exact ⟨nF, rfl, rfl, ⟨HF9.out, HNF.out, HB9.out⟩⟩
        refine AllReadyH.cons rfl (fun K hK => ?_) AllReadyH.nil
        have HB0 : Hid (base ≤ w12.heap.size) := by rw [HBS.out]; exact HB.out.size
        go_simp
        obtain ⟨nF, hnF⟩ : ∃ n, n = w12.heap.size := ⟨_, rfl⟩
        obtain ⟨w13, hw⟩ : ∃ x, x = w12.alloc (.cells #[.int .i64 0, .int .i64 0, .int .i64 0] 23) := ⟨_, rfl⟩
        have hb : Below w12.heap.size w12 w13 := by rw [hw]; exact al _ _
        have hn : Bw w13 nF [.int .i64 0, .int .i64 0, .int .i64 0] 23 := by rw [hw, hnF]; exact Bw.made w12 _ _
        have hn2 : base ≤ nF := by rw [hnF]; exact HB0.out
        rw [← hw]
        rw [← hnF]
        have HR2 := Lib.hid (HR.out.keep hb)
        clear HR
        have HR := HR2
        clear HR2
        have HC2 := Lib.hid (news_keep HC.out (hb.block nC HNC.out))
        have HNC2 : Hid (nC < w13.heap.size) := Nat.lt_of_lt_of_le HNC.out hb.size
        clear HC HNC
        have HC := HC2
        have HNC := HNC2
        clear HC2 HNC2
        have HB2 : Hid (Below base Z w13) := HB.out.trans (hb.mono HB0.out)
        clear HB
        have HB := HB2
        clear HB2
        have HF := Lib.hid hn
        have HNF := Lib.hid hn2
        clear hn2
        clear hb hn hw hnF
        clear HB0
        refine hK.out _ _ (HS.out _ HB.out) (fun hHeld2 => ?_)
        clear hK K hHeld
        have hHeld := hHeld2
        clear hHeld2
        try simp only [Act.put, List.setIfInBounds_toArray, List.set_cons_zero, List.set_cons_succ, List.getElem_toArray, List.getElem_cons_succ, List.getElem_cons_zero]
        refine wpAnyH_ready (rs := [2]) (by kernel_rfl) (by simp) ?_
        refine AllReadyH.cons rfl (fun K hK => ?_) AllReadyH.nil
        have HB0 : Hid (base ≤ w13.heap.size) := by rw [HBS.out]; exact HB.out.size
        obtain ⟨vR, w14, hr, hn, hg, hwh⟩ := run_appT (m := l) HR.out HB0.out va vc 22 (HSRC.out _ (HWZ.out.trans (HB.out.mono (Nat.le_of_lt (Nat.lt_of_le_of_lt (Nat.le_refl _) HPb.out.1))))) HM1.out
        rw [List.nil_append] at hn
        refine step_app rfl (.tmp 26) (.tmp 27) 22 rfl _ _ _ rfl rfl hr ?_
        clear hr
        have HB2 : Hid (Below base Z w14) := HB.out.grown hg HB0.out (fun k hk => (HR.out.lt k hk).1)
        have HC2 := Lib.hid (news_keep HC.out (hg.block nC HNC.out (fun e => HNE.out e.symm)))
        have HNC2 : Hid (nC < w14.heap.size) := Nat.lt_of_lt_of_le HNC.out hg.size
        have HNE2 : Hid (vR.ownBlock ≠ some nC) := by
          intro e
          rcases hwh with h | h
          · rw [h] at e; exact HNE.out e
          · rw [h] at e; have e := Option.some.inj e; have := HNC.out; omega
        clear HC HNC HNE
        have HC := HC2
        have HNC := HNC2
        have HNE := HNE2
        clear HC2 HNC2 HNE2
        have HF2 := Lib.hid (HF.out.grown hg (own_type HR.out HF.out (by decide)))
        clear HF
        have HF := HF2
        clear HF2
        clear HR HB hg hwh
        have HR := Lib.hid hn
        have HB := HB2
        clear hn HB2
        clear HB0
        refine hK.out _ _ (HS.out _ HB.out) (fun hHeld2 => ?_)
        clear hK K hHeld
        have hHeld := hHeld2
        clear hHeld2
        try simp only [Act.put, List.setIfInBounds_toArray, List.set_cons_zero, List.set_cons_succ, List.getElem_toArray, List.getElem_cons_succ, List.getElem_cons_zero]
        refine wpAnyH_ready (rs := [5]) (by kernel_rfl) (by simp) ?_
        refine AllReadyH.cons rfl (fun K hK => ?_) AllReadyH.nil
        have HB0 : Hid (base ≤ w14.heap.size) := by rw [HBS.out]; exact HB.out.size
        obtain ⟨vD, w15, hr, hn, hg, -⟩ := run_appT (m := [⟨xn, xg, xa, x0, x1, x2, xr, xwa, xwn, xwc, xba, xbn, xbc⟩]) HR.out HB0.out (some ⟨nC, 0, none⟩) 1 22 (.inr ⟨_, rfl, HC.out⟩) HM2.out
        refine step_app rfl (.tmp 28) (.tmp 30) 22 rfl _ _ _ rfl rfl hr ?_
        clear hr
        have HB2 : Hid (Below base Z w15) := HB.out.grown hg HB0.out (fun k hk => (HR.out.lt k hk).1)
        have HF2 := Lib.hid (HF.out.grown hg (own_type HR.out HF.out (by decide)))
        clear HF
        have HF := HF2
        clear HF2
        clear HR HB hg HC HNC HNE
        have HR := Lib.hid hn
        have HB := HB2
        clear hn HB2
        clear HB0
        refine hK.out _ _ (HS.out _ HB.out) (fun hHeld2 => ?_)
        clear hK K hHeld
        have hHeld := hHeld2
        clear hHeld2
        try simp only [Act.put, List.setIfInBounds_toArray, List.set_cons_zero, List.set_cons_succ, List.getElem_toArray, List.getElem_cons_succ, List.getElem_cons_zero]
        refine wpAnyH_ready (rs := [6]) (by kernel_rfl) (by simp) ?_
        refine AllReadyH.cons rfl (fun K hK => ?_) AllReadyH.nil
        have HB0 : Hid (base ≤ w15.heap.size) := by rw [HBS.out]; exact HB.out.size
        go_simp
        refine (HA.out _ _ _ HR.out).mono ?_
        rintro e w16 ⟨rfl, hb⟩
        clear HR
        have HF2 := Lib.hid (HF.out.inn hb HF.out.lt)
        clear HF
        have HF := HF2
        clear HF2
        have HB2 : Hid (Below base Z w16) := HB.out.trans (hb.mono HB0.out)
        clear HB
        have HB := HB2
        clear HB2
        clear hb
        clear HB0
        refine hK.out _ _ (HS.out _ HB.out) (fun hHeld2 => ?_)
        clear hK K hHeld
        have hHeld := hHeld2
        clear hHeld2
        try simp only [Act.put, List.setIfInBounds_toArray, List.set_cons_zero, List.set_cons_succ, List.getElem_toArray, List.getElem_cons_succ, List.getElem_cons_zero]
        refine wpAnyH_take (i := 7) (v := ?_) rfl (by kernel_rfl) (by kernel_rfl) (by kernel_rfl) (fun _ _ _ h => h) (Or.inl ⟨by rfl, ?_⟩) (by assumption) ?_
        rotate_left
        · intro z hSz
          obtain ⟨k0, k1, k2, k3, k4, k5, k6, k7, k8⟩ := hSz
          go_simp
          try with_reducible rfl
        try simp only [Act.put, List.setIfInBounds_toArray, List.set_cons_zero, List.set_cons_succ, List.getElem_toArray, List.getElem_cons_succ, List.getElem_cons_zero]
        refine wpAnyH_take (i := 8) (v := ?_) rfl (by kernel_rfl) (by kernel_rfl) (by kernel_rfl) (fun _ _ _ h => h) (Or.inl ⟨by rfl, ?_⟩) (by assumption) ?_
        rotate_left
        · intro z hSz
          obtain ⟨k0, k1, k2, k3, k4, k5, k6, k7, k8⟩ := hSz
          go_simp
          try with_reducible rfl
        try simp only [Act.put, List.setIfInBounds_toArray, List.set_cons_zero, List.set_cons_succ, List.getElem_toArray, List.getElem_cons_succ, List.getElem_cons_zero]
        refine wpAnyH_take (i := 9) (v := ?_) rfl (by kernel_rfl) (by kernel_rfl) (by kernel_rfl) (fun _ _ _ h => h) (Or.inl ⟨by rfl, ?_⟩) (by assumption) ?_
        rotate_left
        · intro z hSz
          obtain ⟨k0, k1, k2, k3, k4, k5, k6, k7, k8⟩ := hSz
          go_simp
          try with_reducible rfl
        try simp only [Act.put, List.setIfInBounds_toArray, List.set_cons_zero, List.set_cons_succ, List.getElem_toArray, List.getElem_cons_succ, List.getElem_cons_zero]
        refine wpAnyH_ready (rs := [11]) (by kernel_rfl) (by simp) ?_
        refine AllReadyH.cons rfl (fun K hK => ?_) AllReadyH.nil
        have m0 : w16.cell? ⟨nF, 0, none⟩ = some (.int .i64 0) := HF.out.cell 0
        have m1 : w16.cell? ⟨nF, 1, none⟩ = some (.int .i64 0) := HF.out.cell 1
        have m2 : w16.cell? ⟨nF, 2, none⟩ = some (.int .i64 0) := HF.out.cell 2
        have f0 : w16.frozen? ⟨nF, 0, none⟩ = false := HF.out.fz 0
        have f1 : w16.frozen? ⟨nF, 1, none⟩ = false := HF.out.fz 1
        have f2 : w16.frozen? ⟨nF, 2, none⟩ = false := HF.out.fz 2
        go_simp
        have HF9 : Hid (Bw (((w16.setCell ⟨nF, 0, none⟩ (.int .i64 q0)).setCell ⟨nF, 1, none⟩ (.int .i64 q1)).setCell ⟨nF, 2, none⟩ (.int .i64 q2)) nF [.int .i64 q0, .int .i64 q1, .int .i64 q2] 23) := ((HF.out.set 0 (.int .i64 q0)).set 1 (.int .i64 q1)).set 2 (.int .i64 q2)
        have HB9 : Hid (Below base Z (((w16.setCell ⟨nF, 0, none⟩ (.int .i64 q0)).setCell ⟨nF, 1, none⟩ (.int .i64 q1)).setCell ⟨nF, 2, none⟩ (.int .i64 q2))) := ((HB.out.setCell (p := ⟨nF, 0, none⟩) HNF.out _).setCell (p := ⟨nF, 1, none⟩) HNF.out _).setCell (p := ⟨nF, 2, none⟩) HNF.out _
        clear m0 m1 m2 f0 f1 f2 HF HB
        refine hK.out _ _ (HS.out _ HB9.out) (fun hHeld2 => ?_)
        clear hK K hHeld
        have hHeld := hHeld2
        clear hHeld2
        try simp only [Act.put, List.setIfInBounds_toArray, List.set_cons_zero, List.set_cons_succ, List.getElem_toArray, List.getElem_cons_succ, List.getElem_cons_zero]
        refine wpAnyH_take (i := 12) (v := ?_) rfl (by kernel_rfl) (by kernel_rfl) (by kernel_rfl) (fun _ _ _ h => h) (Or.inl ⟨by rfl, ?_⟩) (by assumption) ?_
        rotate_left
        · intro z hSz
          obtain ⟨k0, k1, k2, k3, k4, k5, k6, k7, k8⟩ := hSz
          go_simp
          try with_reducible rfl
        try simp only [Act.put, List.setIfInBounds_toArray, List.set_cons_zero, List.set_cons_succ, List.getElem_toArray, List.getElem_cons_succ, List.getElem_cons_zero]
        refine wpAnyH_done (by kernel_rfl) ?_ _
        clear hHeld
        go_wp2_with fail
        go_meet
        case rel => exact ⟨nF, rfl, rfl, ⟨HF9.out, HNF.out, HB9.out⟩⟩
      refine AllReadyH.cons rfl (fun K hK => ?_) AllReadyH.nil
      have HB0 : Hid (base ≤ w11.heap.size) := by rw [HBS.out]; exact HB.out.size
      go_simp
      obtain ⟨nF, hnF⟩ : ∃ n, n = w11.heap.size := ⟨_, rfl⟩
      obtain ⟨w12, hw⟩ : ∃ x, x = w11.alloc (.cells #[.int .i64 0, .int .i64 0, .int .i64 0] 23) := ⟨_, rfl⟩
      have hb : Below w11.heap.size w11 w12 := by rw [hw]; exact al _ _
      have hn : Bw w12 nF [.int .i64 0, .int .i64 0, .int .i64 0] 23 := by rw [hw, hnF]; exact Bw.made w11 _ _
      have hn2 : base ≤ nF := by rw [hnF]; exact HB0.out
      rw [← hw]
      rw [← hnF]
      have HC2 := Lib.hid (news_keep HC.out (hb.block nC HNC.out))
      have HNC2 : Hid (nC < w12.heap.size) := Nat.lt_of_lt_of_le HNC.out hb.size
      clear HC HNC
      have HC := HC2
      have HNC := HNC2
      clear HC2 HNC2
      have HB2 : Hid (Below base Z w12) := HB.out.trans (hb.mono HB0.out)
      clear HB
      have HB := HB2
      clear HB2
      have HF := Lib.hid hn
      have HNF := Lib.hid hn2
      clear hn2
      clear hb hn hw hnF
      clear HB0
      refine hK.out _ _ (HS.out _ HB.out) (fun hHeld2 => ?_)
      clear hK K hHeld
      have hHeld := hHeld2
      clear hHeld2
      try simp only [Act.put, List.setIfInBounds_toArray, List.set_cons_zero, List.set_cons_succ, List.getElem_toArray, List.getElem_cons_succ, List.getElem_cons_zero]
      refine wpAnyH_ready (rs := [0]) (by kernel_rfl) (by simp) ?_
      refine AllReadyH.cons rfl (fun K hK => ?_) AllReadyH.nil
      have HB0 : Hid (base ≤ w12.heap.size) := by rw [HBS.out]; exact HB.out.size
      go_simp
      obtain ⟨nR, hnR⟩ : ∃ n, n = w12.heap.size := ⟨_, rfl⟩
      obtain ⟨w13, hw⟩ : ∃ x, x = w12.alloc (.cells #[] 26) := ⟨_, rfl⟩
      have hb : Below w12.heap.size w12 w13 := by rw [hw]; exact al _ _
      have hn : OwnT w13 base (.slice (some ⟨nR, 0, none⟩) 0 0) [] := by rw [hw, hnR]; exact OwnT.made w12 base HB0.out
      rw [← hw]
      rw [← hnR]
      have hne : (Value.slice (some ⟨nR, 0, none⟩) 0 0).ownBlock ≠ some nC := by intro e; have e : nR = nC := Option.some.inj e; have := HNC.out; omega
      have HC2 := Lib.hid (news_keep HC.out (hb.block nC HNC.out))
      have HNC2 : Hid (nC < w13.heap.size) := Nat.lt_of_lt_of_le HNC.out hb.size
      clear HC HNC
      have HC := HC2
      have HNC := HNC2
      clear HC2 HNC2
      have HF2 := Lib.hid (HF.out.inn hb HF.out.lt)
      clear HF
      have HF := HF2
      clear HF2
      have HB2 : Hid (Below base Z w13) := HB.out.trans (hb.mono HB0.out)
      clear HB
      have HB := HB2
      clear HB2
      have HR := Lib.hid hn
      have HNE := Lib.hid hne
      clear hne
      clear hb hn hw hnR
      clear HB0
      refine hK.out _ _ (HS.out _ HB.out) (fun hHeld2 => ?_)
      clear hK K hHeld
      have hHeld := hHeld2
      clear hHeld2
      try simp only [Act.put, List.setIfInBounds_toArray, List.set_cons_zero, List.set_cons_succ, List.getElem_toArray, List.getElem_cons_succ, List.getElem_cons_zero]
      refine wpAnyH_ready (rs := [2]) (by kernel_rfl) (by simp) ?_
      refine AllReadyH.cons rfl (fun K hK => ?_) AllReadyH.nil
      have HB0 : Hid (base ≤ w13.heap.size) := by rw [HBS.out]; exact HB.out.size
      obtain ⟨vR, w14, hr, hn, hg, hwh⟩ := run_appT (m := l) HR.out HB0.out va vc 22 (HSRC.out _ (HWZ.out.trans (HB.out.mono (Nat.le_of_lt (Nat.lt_of_le_of_lt (Nat.le_refl _) HPb.out.1))))) HM1.out
      rw [List.nil_append] at hn
      refine step_app rfl (.tmp 26) (.tmp 27) 22 rfl _ _ _ rfl rfl hr ?_
      clear hr
      have HB2 : Hid (Below base Z w14) := HB.out.grown hg HB0.out (fun k hk => (HR.out.lt k hk).1)
      have HC2 := Lib.hid (news_keep HC.out (hg.block nC HNC.out (fun e => HNE.out e.symm)))
      have HNC2 : Hid (nC < w14.heap.size) := Nat.lt_of_lt_of_le HNC.out hg.size
      have HNE2 : Hid (vR.ownBlock ≠ some nC) := by
        intro e
        rcases hwh with h | h
        · rw [h] at e; exact HNE.out e
        · rw [h] at e; have e := Option.some.inj e; have := HNC.out; omega
      clear HC HNC HNE
      have HC := HC2
      have HNC := HNC2
      have HNE := HNE2
      clear HC2 HNC2 HNE2
      have HF2 := Lib.hid (HF.out.grown hg (own_type HR.out HF.out (by decide)))
      clear HF
      have HF := HF2
      clear HF2
      clear HR HB hg hwh
      have HR := Lib.hid hn
      have HB := HB2
      clear hn HB2
      clear HB0
      refine hK.out _ _ (HS.out _ HB.out) (fun hHeld2 => ?_)
      clear hK K hHeld
      have hHeld := hHeld2
      clear hHeld2
      try simp only [Act.put, List.setIfInBounds_toArray, List.set_cons_zero, List.set_cons_succ, List.getElem_toArray, List.getElem_cons_succ, List.getElem_cons_zero]
      refine wpAnyH_ready (rs := [5]) (by kernel_rfl) (by simp) ?_
      refine AllReadyH.cons rfl (fun K hK => ?_) AllReadyH.nil
      have HB0 : Hid (base ≤ w14.heap.size) := by rw [HBS.out]; exact HB.out.size
      obtain ⟨vD, w15, hr, hn, hg, -⟩ := run_appT (m := [⟨xn, xg, xa, x0, x1, x2, xr, xwa, xwn, xwc, xba, xbn, xbc⟩]) HR.out HB0.out (some ⟨nC, 0, none⟩) 1 22 (.inr ⟨_, rfl, HC.out⟩) HM2.out
      refine step_app rfl (.tmp 28) (.tmp 30) 22 rfl _ _ _ rfl rfl hr ?_
      clear hr
      have HB2 : Hid (Below base Z w15) := HB.out.grown hg HB0.out (fun k hk => (HR.out.lt k hk).1)
      have HF2 := Lib.hid (HF.out.grown hg (own_type HR.out HF.out (by decide)))
      clear HF
      have HF := HF2
      clear HF2
      clear HR HB hg HC HNC HNE
      have HR := Lib.hid hn
      have HB := HB2
      clear hn HB2
      clear HB0
      refine hK.out _ _ (HS.out _ HB.out) (fun hHeld2 => ?_)
      clear hK K hHeld
      have hHeld := hHeld2
      clear hHeld2
      try simp only [Act.put, List.setIfInBounds_toArray, List.set_cons_zero, List.set_cons_succ, List.getElem_toArray, List.getElem_cons_succ, List.getElem_cons_zero]
      refine wpAnyH_ready (rs := [6]) (by kernel_rfl) (by simp) ?_
      refine AllReadyH.cons rfl (fun K hK => ?_) AllReadyH.nil
      have HB0 : Hid (base ≤ w15.heap.size) := by rw [HBS.out]; exact HB.out.size
      go_simp
      refine (HA.out _ _ _ HR.out).mono ?_
      rintro e w16 ⟨rfl, hb⟩
      clear HR
      have HF2 := Lib.hid (HF.out.inn hb HF.out.lt)
      clear HF
      have HF := HF2
      clear HF2
      have HB2 : Hid (Below base Z w16) := HB.out.trans (hb.mono HB0.out)
      clear HB
      have HB := HB2
      clear HB2
      clear hb
      clear HB0
      refine hK.out _ _ (HS.out _ HB.out) (fun hHeld2 => ?_)
      clear hK K hHeld
      have hHeld := hHeld2
      clear hHeld2
      try simp only [Act.put, List.setIfInBounds_toArray, List.set_cons_zero, List.set_cons_succ, List.getElem_toArray, List.getElem_cons_succ, List.getElem_cons_zero]
      refine wpAnyH_take (i := 7) (v := ?_) rfl (by kernel_rfl) (by kernel_rfl) (by kernel_rfl) (fun _ _ _ h => h) (Or.inl ⟨by rfl, ?_⟩) (by assumption) ?_
      rotate_left
      · intro z hSz
        obtain ⟨k0, k1, k2, k3, k4, k5, k6, k7, k8⟩ := hSz
        go_simp
        try with_reducible rfl
      try simp only [Act.put, List.setIfInBounds_toArray, List.set_cons_zero, List.set_cons_succ, List.getElem_toArray, List.getElem_cons_succ, List.getElem_cons_zero]
      refine wpAnyH_take (i := 8) (v := ?_) rfl (by kernel_rfl) (by kernel_rfl) (by kernel_rfl) (fun _ _ _ h => h) (Or.inl ⟨by rfl, ?_⟩) (by assumption) ?_
      rotate_left
      · intro z hSz
        obtain ⟨k0, k1, k2, k3, k4, k5, k6, k7, k8⟩ := hSz
        go_simp
        try with_reducible rfl
      try simp only [Act.put, List.setIfInBounds_toArray, List.set_cons_zero, List.set_cons_succ, List.getElem_toArray, List.getElem_cons_succ, List.getElem_cons_zero]
      refine wpAnyH_take (i := 9) (v := ?_) rfl (by kernel_rfl) (by kernel_rfl) (by kernel_rfl) (fun _ _ _ h => h) (Or.inl ⟨by rfl, ?_⟩) (by assumption) ?_
      rotate_left
      · intro z hSz
        obtain ⟨k0, k1, k2, k3, k4, k5, k6, k7, k8⟩ := hSz
        go_simp
        try with_reducible rfl
      try simp only [Act.put, List.setIfInBounds_toArray, List.set_cons_zero, List.set_cons_succ, List.getElem_toArray, List.getElem_cons_succ, List.getElem_cons_zero]
      refine wpAnyH_ready (rs := [11]) (by kernel_rfl) (by simp) ?_
      refine AllReadyH.cons rfl (fun K hK => ?_) AllReadyH.nil
      have m0 : w16.cell? ⟨nF, 0, none⟩ = some (.int .i64 0) := HF.out.cell 0
      have m1 : w16.cell? ⟨nF, 1, none⟩ = some (.int .i64 0) := HF.out.cell 1
      have m2 : w16.cell? ⟨nF, 2, none⟩ = some (.int .i64 0) := HF.out.cell 2
      have f0 : w16.frozen? ⟨nF, 0, none⟩ = false := HF.out.fz 0
      have f1 : w16.frozen? ⟨nF, 1, none⟩ = false := HF.out.fz 1
      have f2 : w16.frozen? ⟨nF, 2, none⟩ = false := HF.out.fz 2
      go_simp
      have HF9 : Hid (Bw (((w16.setCell ⟨nF, 0, none⟩ (.int .i64 q0)).setCell ⟨nF, 1, none⟩ (.int .i64 q1)).setCell ⟨nF, 2, none⟩ (.int .i64 q2)) nF [.int .i64 q0, .int .i64 q1, .int .i64 q2] 23) := ((HF.out.set 0 (.int .i64 q0)).set 1 (.int .i64 q1)).set 2 (.int .i64 q2)
      have HB9 : Hid (Below base Z (((w16.setCell ⟨nF, 0, none⟩ (.int .i64 q0)).setCell ⟨nF, 1, none⟩ (.int .i64 q1)).setCell ⟨nF, 2, none⟩ (.int .i64 q2))) := ((HB.out.setCell (p := ⟨nF, 0, none⟩) HNF.out _).setCell (p := ⟨nF, 1, none⟩) HNF.out _).setCell (p := ⟨nF, 2, none⟩) HNF.out _
      clear m0 m1 m2 f0 f1 f2 HF HB
      refine hK.out _ _ (HS.out _ HB9.out) (fun hHeld2 => ?_)
      clear hK K hHeld
      have hHeld := hHeld2
      clear hHeld2
      try simp only [Act.put, List.setIfInBounds_toArray, List.set_cons_zero, List.set_cons_succ, List.getElem_toArray, List.getElem_cons_succ, List.getElem_cons_zero]
      refine wpAnyH_take (i := 12) (v := ?_) rfl (by kernel_rfl) (by kernel_rfl) (by kernel_rfl) (fun _ _ _ h => h) (Or.inl ⟨by rfl, ?_⟩) (by assumption) ?_
      rotate_left
      · intro z hSz
        obtain ⟨k0, k1, k2, k3, k4, k5, k6, k7, k8⟩ := hSz
        go_simp
        try with_reducible rfl
      try simp only [Act.put, List.setIfInBounds_toArray, List.set_cons_zero, List.set_cons_succ, List.getElem_toArray, List.getElem_cons_succ, List.getElem_cons_zero]
      refine wpAnyH_done (by kernel_rfl) ?_ _
      clear hHeld
      go_wp2_with fail
      go_meet
      case rel => exact ⟨nF, rfl, rfl, ⟨HF9.out, HNF.out, HB9.out⟩⟩
    refine AllReadyH.cons rfl (fun K hK => ?_) AllReadyH.nil
    have HB0 : Hid (base ≤ w10.heap.size) := by rw [HBS.out]; exact HB.out.size
    go_simp
    obtain ⟨nF, hnF⟩ : ∃ n, n = w10.heap.size := ⟨_, rfl⟩
    obtain ⟨w11, hw⟩ : ∃ x, x = w10.alloc (.cells #[.int .i64 0, .int .i64 0, .int .i64 0] 23) := ⟨_, rfl⟩
    have hb : Below w10.heap.size w10 w11 := by rw [hw]; exact al _ _
    have hn : Bw w11 nF [.int .i64 0, .int .i64 0, .int .i64 0] 23 := by rw [hw, hnF]; exact Bw.made w10 _ _
    have hn2 : base ≤ nF := by rw [hnF]; exact HB0.out
    rw [← hw]
    rw [← hnF]
    have HB2 : Hid (Below base Z w11) := HB.out.trans (hb.mono HB0.out)
    clear HB
    have HB := HB2
    clear HB2
    have HF := Lib.hid hn
    have HNF := Lib.hid hn2
    clear hn2
    clear hb hn hw hnF
    clear HB0
    refine hK.out _ _ (HS.out _ HB.out) (fun hHeld2 => ?_)
    clear hK K hHeld
    have hHeld := hHeld2
    clear hHeld2
    try simp only [Act.put, List.setIfInBounds_toArray, List.set_cons_zero, List.set_cons_succ, List.getElem_toArray, List.getElem_cons_succ, List.getElem_cons_zero]
    refine wpAnyH_ready (rs := [0, 4]) (by kernel_rfl) (by simp) ?_
    refine AllReadyH.cons rfl (fun K hK => ?_) ?_
    · have HB0 : Hid (base ≤ w11.heap.size) := by rw [HBS.out]; exact HB.out.size
      go_simp
      obtain ⟨nR, hnR⟩ : ∃ n, n = w11.heap.size := ⟨_, rfl⟩
      obtain ⟨w12, hw⟩ : ∃ x, x = w11.alloc (.cells #[] 26) := ⟨_, rfl⟩
      have hb : Below w11.heap.size w11 w12 := by rw [hw]; exact al _ _
      have hn : OwnT w12 base (.slice (some ⟨nR, 0, none⟩) 0 0) [] := by rw [hw, hnR]; exact OwnT.made w11 base HB0.out
      rw [← hw]
      rw [← hnR]
      have HF2 := Lib.hid (HF.out.inn hb HF.out.lt)
      clear HF
      have HF := HF2
      clear HF2
      have HB2 : Hid (Below base Z w12) := HB.out.trans (hb.mono HB0.out)
      clear HB
      have HB := HB2
      clear HB2
      have HR := Lib.hid hn
      clear hb hn hw hnR
      clear HB0
      refine hK.out _ _ (HS.out _ HB.out) (fun hHeld2 => ?_)
      clear hK K hHeld
      have hHeld := hHeld2
      clear hHeld2
      try simp only [Act.put, List.setIfInBounds_toArray, List.set_cons_zero, List.set_cons_succ, List.getElem_toArray, List.getElem_cons_succ, List.getElem_cons_zero]
      refine wpAnyH_ready (rs := [2, 4]) (by kernel_rfl) (by simp) ?_
      refine AllReadyH.cons rfl (fun K hK => ?_) ?_
      · have HB0 : Hid (base ≤ w12.heap.size) := by rw [HBS.out]; exact HB.out.size
        obtain ⟨vR, w13, hr, hn, hg, hwh⟩ := run_appT (m := l) HR.out HB0.out va vc 22 (HSRC.out _ (HWZ.out.trans (HB.out.mono (Nat.le_of_lt (Nat.lt_of_le_of_lt (Nat.le_refl _) HPb.out.1))))) HM1.out
        rw [List.nil_append] at hn
        refine step_app rfl (.tmp 26) (.tmp 27) 22 rfl _ _ _ rfl rfl hr ?_
        clear hr
        have HB2 : Hid (Below base Z w13) := HB.out.grown hg HB0.out (fun k hk => (HR.out.lt k hk).1)
        have HF2 := Lib.hid (HF.out.grown hg (own_type HR.out HF.out (by decide)))
        clear HF
        have HF := HF2
        clear HF2
        clear HR HB hg hwh
        have HR := Lib.hid hn
        have HB := HB2
        clear hn HB2
        clear HB0
        refine hK.out _ _ (HS.out _ HB.out) (fun hHeld2 => ?_)
        clear hK K hHeld
        have hHeld := hHeld2
        clear hHeld2
        try simp only [Act.put, List.setIfInBounds_toArray, List.set_cons_zero, List.set_cons_succ, List.getElem_toArray, List.getElem_cons_succ, List.getElem_cons_zero]
        refine wpAnyH_ready (rs := [4]) (by kernel_rfl) (by simp) ?_
        refine AllReadyH.cons rfl (fun K hK => ?_) AllReadyH.nil
        have HB0 : Hid (base ≤ w13.heap.size) := by rw [HBS.out]; exact HB.out.size
        go_simp
        obtain ⟨nC, hnC⟩ : ∃ n, n = w13.heap.size := ⟨_, rfl⟩
        obtain ⟨w14, hw⟩ : ∃ x, x = w13.alloc (.cells #[.string xn, .int .i64 x0, .int .i64 x1, .int .i64 x2, .slice xwa xwn xwc, .slice xba xbn xbc, .string xg, .string xa, .int .i64 xr] 26) := ⟨_, rfl⟩
        have hb : Below w13.heap.size w13 w14 := by rw [hw]; exact al _ _
        have hn : ∀ j u, (flatT [(⟨xn, xg, xa, x0, x1, x2, xr, xwa, xwn, xwc, xba, xbn, xbc⟩ : Tk)])[j]? = some u → w14.cell? ((⟨nC, 0, none⟩ : Addr).add j) = some u := by rw [hw, hnC, flatT_one]; exact news_new w13 _ _
        have hn2 : nC < w14.heap.size := by rw [hw, hnC]; simp
        rw [← hw]
        rw [← hnC]
        have hne : vR.ownBlock ≠ some nC := by intro e; have := (HR.out.lt nC e).2; omega
        have HR2 := Lib.hid (HR.out.keep hb)
        clear HR
        have HR := HR2
        clear HR2
        have HF2 := Lib.hid (HF.out.inn hb HF.out.lt)
        clear HF
        have HF := HF2
        clear HF2
        have HB2 : Hid (Below base Z w14) := HB.out.trans (hb.mono HB0.out)
        clear HB
        have HB := HB2
        clear HB2
        have HC := Lib.hid hn
        have HNC := Lib.hid hn2
        clear hn2
        have HNE := Lib.hid hne
        clear hne
        clear hb hn hw hnC
        clear HB0
        refine hK.out _ _ (HS.out _ HB.out) (fun hHeld2 => ?_)
        clear hK K hHeld
        have hHeld := hHeld2
        clear hHeld2
        try simp only [Act.put, List.setIfInBounds_toArray, List.set_cons_zero, List.set_cons_succ, List.getElem_toArray, List.getElem_cons_succ, List.getElem_cons_zero]
        refine wpAnyH_ready (rs := [5]) (by kernel_rfl) (by simp) ?_
        refine AllReadyH.cons rfl (fun K hK => ?_) AllReadyH.nil
        have HB0 : Hid (base ≤ w14.heap.size) := by rw [HBS.out]; exact HB.out.size
        obtain ⟨vD, w15, hr, hn, hg, -⟩ := run_appT (m := [⟨xn, xg, xa, x0, x1, x2, xr, xwa, xwn, xwc, xba, xbn, xbc⟩]) HR.out HB0.out (some ⟨nC, 0, none⟩) 1 22 (.inr ⟨_, rfl, HC.out⟩) HM2.out
        refine step_app rfl (.tmp 28) (.tmp 30) 22 rfl _ _ _ rfl rfl hr ?_
        clear hr
        have HB2 : Hid (Below base Z w15) := HB.out.grown hg HB0.out (fun k hk => (HR.out.lt k hk).1)
        have HF2 := Lib.hid (HF.out.grown hg (own_type HR.out HF.out (by decide)))
        clear HF
        have HF := HF2
        clear HF2
        clear HR HB hg HC HNC HNE
        have HR := Lib.hid hn
        have HB := HB2
        clear hn HB2
        clear HB0
        refine hK.out _ _ (HS.out _ HB.out) (fun hHeld2 => ?_)
        clear hK K hHeld
        have hHeld := hHeld2
        clear hHeld2
        try simp only [Act.put, List.setIfInBounds_toArray, List.set_cons_zero, List.set_cons_succ, List.getElem_toArray, List.getElem_cons_succ, List.getElem_cons_zero]
        refine wpAnyH_ready (rs := [6]) (by kernel_rfl) (by simp) ?_
        refine AllReadyH.cons rfl (fun K hK => ?_) AllReadyH.nil
        have HB0 : Hid (base ≤ w15.heap.size) := by rw [HBS.out]; exact HB.out.size
        go_simp
        refine (HA.out _ _ _ HR.out).mono ?_
        rintro e w16 ⟨rfl, hb⟩
        clear HR
        have HF2 := Lib.hid (HF.out.inn hb HF.out.lt)
        clear HF
        have HF := HF2
        clear HF2
        have HB2 : Hid (Below base Z w16) := HB.out.trans (hb.mono HB0.out)
        clear HB
        have HB := HB2
        clear HB2
        clear hb
        clear HB0
        refine hK.out _ _ (HS.out _ HB.out) (fun hHeld2 => ?_)
        clear hK K hHeld
        have hHeld := hHeld2
        clear hHeld2
        try simp only [Act.put, List.setIfInBounds_toArray, List.set_cons_zero, List.set_cons_succ, List.getElem_toArray, List.getElem_cons_succ, List.getElem_cons_zero]
        refine wpAnyH_take (i := 7) (v := ?_) rfl (by kernel_rfl) (by kernel_rfl) (by kernel_rfl) (fun _ _ _ h => h) (Or.inl ⟨by rfl, ?_⟩) (by assumption) ?_
        rotate_left
        · intro z hSz
          obtain ⟨k0, k1, k2, k3, k4, k5, k6, k7, k8⟩ := hSz
          go_simp
          try with_reducible rfl
        try simp only [Act.put, List.setIfInBounds_toArray, List.set_cons_zero, List.set_cons_succ, List.getElem_toArray, List.getElem_cons_succ, List.getElem_cons_zero]
        refine wpAnyH_take (i := 8) (v := ?_) rfl (by kernel_rfl) (by kernel_rfl) (by kernel_rfl) (fun _ _ _ h => h) (Or.inl ⟨by rfl, ?_⟩) (by assumption) ?_
        rotate_left
        · intro z hSz
          obtain ⟨k0, k1, k2, k3, k4, k5, k6, k7, k8⟩ := hSz
          go_simp
          try with_reducible rfl
        try simp only [Act.put, List.setIfInBounds_toArray, List.set_cons_zero, List.set_cons_succ, List.getElem_toArray, List.getElem_cons_succ, List.getElem_cons_zero]
        refine wpAnyH_take (i := 9) (v := ?_) rfl (by kernel_rfl) (by kernel_rfl) (by kernel_rfl) (fun _ _ _ h => h) (Or.inl ⟨by rfl, ?_⟩) (by assumption) ?_
        rotate_left
        · intro z hSz
          obtain ⟨k0, k1, k2, k3, k4, k5, k6, k7, k8⟩ := hSz
          go_simp
          try with_reducible rfl
        try simp only [Act.put, List.setIfInBounds_toArray, List.set_cons_zero, List.set_cons_succ, List.getElem_toArray, List.getElem_cons_succ, List.getElem_cons_zero]
        refine wpAnyH_ready (rs := [11]) (by kernel_rfl) (by simp) ?_
        refine AllReadyH.cons rfl (fun K hK => ?_) AllReadyH.nil
        have m0 : w16.cell? ⟨nF, 0, none⟩ = some (.int .i64 0) := HF.out.cell 0
        have m1 : w16.cell? ⟨nF, 1, none⟩ = some (.int .i64 0) := HF.out.cell 1
        have m2 : w16.cell? ⟨nF, 2, none⟩ = some (.int .i64 0) := HF.out.cell 2
        have f0 : w16.frozen? ⟨nF, 0, none⟩ = false := HF.out.fz 0
        have f1 : w16.frozen? ⟨nF, 1, none⟩ = false := HF.out.fz 1
        have f2 : w16.frozen? ⟨nF, 2, none⟩ = false := HF.out.fz 2
        go_simp
        have HF9 : Hid (Bw (((w16.setCell ⟨nF, 0, none⟩ (.int .i64 q0)).setCell ⟨nF, 1, none⟩ (.int .i64 q1)).setCell ⟨nF, 2, none⟩ (.int .i64 q2)) nF [.int .i64 q0, .int .i64 q1, .int .i64 q2] 23) := ((HF.out.set 0 (.int .i64 q0)).set 1 (.int .i64 q1)).set 2 (.int .i64 q2)
        have HB9 : Hid (Below base Z (((w16.setCell ⟨nF, 0, none⟩ (.int .i64 q0)).setCell ⟨nF, 1, none⟩ (.int .i64 q1)).setCell ⟨nF, 2, none⟩ (.int .i64 q2))) := ((HB.out.setCell (p := ⟨nF, 0, none⟩) HNF.out _).setCell (p := ⟨nF, 1, none⟩) HNF.out _).setCell (p := ⟨nF, 2, none⟩) HNF.out _
        clear m0 m1 m2 f0 f1 f2 HF HB
        refine hK.out _ _ (HS.out _ HB9.out) (fun hHeld2 => ?_)
        clear hK K hHeld
        have hHeld := hHeld2
        clear hHeld2
        try simp only [Act.put, List.setIfInBounds_toArray, List.set_cons_zero, List.set_cons_succ, List.getElem_toArray, List.getElem_cons_succ, List.getElem_cons_zero]
        refine wpAnyH_take (i := 12) (v := ?_) rfl (by kernel_rfl) (by kernel_rfl) (by kernel_rfl) (fun _ _ _ h => h) (Or.inl ⟨by rfl, ?_⟩) (by assumption) ?_
        rotate_left
        · intro z hSz
          obtain ⟨k0, k1, k2, k3, k4, k5, k6, k7, k8⟩ := hSz
          go_simp
          try with_reducible rfl
        try simp only [Act.put, List.setIfInBounds_toArray, List.set_cons_zero, List.set_cons_succ, List.getElem_toArray, List.getElem_cons_succ, List.getElem_cons_zero]
        refine wpAnyH_done (by kernel_rfl) ?_ _
        clear hHeld
        go_wp2_with fail
        go_meet
        case rel => exact ⟨nF, rfl, rfl, ⟨HF9.out, HNF.out, HB9.out⟩⟩
      refine AllReadyH.cons rfl (fun K hK => ?_) AllReadyH.nil
      have HB0 : Hid (base ≤ w12.heap.size) := by rw [HBS.out]; exact HB.out.size
      go_simp
      obtain ⟨nC, hnC⟩ : ∃ n, n = w12.heap.size := ⟨_, rfl⟩
      obtain ⟨w13, hw⟩ : ∃ x, x = w12.alloc (.cells #[.string xn, .int .i64 x0, .int .i64 x1, .int .i64 x2, .slice xwa xwn xwc, .slice xba xbn xbc, .string xg, .string xa, .int .i64 xr] 26) := ⟨_, rfl⟩
      have hb : Below w12.heap.size w12 w13 := by rw [hw]; exact al _ _
      have hn : ∀ j u, (flatT [(⟨xn, xg, xa, x0, x1, x2, xr, xwa, xwn, xwc, xba, xbn, xbc⟩ : Tk)])[j]? = some u → w13.cell? ((⟨nC, 0, none⟩ : Addr).add j) = some u := by rw [hw, hnC, flatT_one]; exact news_new w12 _ _
      have hn2 : nC < w13.heap.size := by rw [hw, hnC]; simp
      rw [← hw]
      rw [← hnC]
      have hne : (Value.slice (some ⟨nR, 0, none⟩) 0 0).ownBlock ≠ some nC := by intro e; have e : nR = nC := Option.some.inj e; have := (HR.out.lt nR rfl).2; omega
      have HR2 := Lib.hid (HR.out.keep hb)
      clear HR
      have HR := HR2
      clear HR2
      have HF2 := Lib.hid (HF.out.inn hb HF.out.lt)
      clear HF
      have HF := HF2
      clear HF2
      have HB2 : Hid (Below base Z w13) := HB.out.trans (hb.mono HB0.out)
      clear HB
      have HB := HB2
      clear HB2
      have HC := Lib.hid hn
      have HNC := Lib.hid hn2
      clear hn2
      have HNE := Lib.hid hne
      clear hne
      clear hb hn hw hnC
      clear HB0
      refine hK.out _ _ (HS.out _ HB.out) (fun hHeld2 => ?_)
      clear hK K hHeld
      have hHeld := hHeld2
      clear hHeld2
      try simp only [Act.put, List.setIfInBounds_toArray, List.set_cons_zero, List.set_cons_succ, List.getElem_toArray, List.getElem_cons_succ, List.getElem_cons_zero]
      refine wpAnyH_ready (rs := [2]) (by kernel_rfl) (by simp) ?_
      refine AllReadyH.cons rfl (fun K hK => ?_) AllReadyH.nil
      have HB0 : Hid (base ≤ w13.heap.size) := by rw [HBS.out]; exact HB.out.size
      obtain ⟨vR, w14, hr, hn, hg, hwh⟩ := run_appT (m := l) HR.out HB0.out va vc 22 (HSRC.out _ (HWZ.out.trans (HB.out.mono (Nat.le_of_lt (Nat.lt_of_le_of_lt (Nat.le_refl _) HPb.out.1))))) HM1.out
      rw [List.nil_append] at hn
      refine step_app rfl (.tmp 26) (.tmp 27) 22 rfl _ _ _ rfl rfl hr ?_
      clear hr
      have HB2 : Hid (Below base Z w14) := HB.out.grown hg HB0.out (fun k hk => (HR.out.lt k hk).1)
      have HC2 := Lib.hid (news_keep HC.out (hg.block nC HNC.out (fun e => HNE.out e.symm)))
      have HNC2 : Hid (nC < w14.heap.size) := Nat.lt_of_lt_of_le HNC.out hg.size
      have HNE2 : Hid (vR.ownBlock ≠ some nC) := by
        intro e
        rcases hwh with h | h
        · rw [h] at e; exact HNE.out e
        · rw [h] at e; have e := Option.some.inj e; have := HNC.out; omega
      clear HC HNC HNE
      have HC := HC2
      have HNC := HNC2
      have HNE := HNE2
      clear HC2 HNC2 HNE2
      have HF2 := Lib.hid (HF.out.grown hg (own_type HR.out HF.out (by decide)))
      clear HF
      have HF := HF2
      clear HF2
      clear HR HB hg hwh
      have HR := Lib.hid hn
      have HB := HB2
      clear hn HB2
      clear HB0
      refine hK.out _ _ (HS.out _ HB.out) (fun hHeld2 => ?_)
      clear hK K hHeld
      have hHeld := hHeld2
      clear hHeld2
      try simp only [Act.put, List.setIfInBounds_toArray, List.set_cons_zero, List.set_cons_succ, List.getElem_toArray, List.getElem_cons_succ, List.getElem_cons_zero]
      refine wpAnyH_ready (rs := [5]) (by kernel_rfl) (by simp) ?_
      refine AllReadyH.cons rfl (fun K hK => ?_) AllReadyH.nil
      have HB0 : Hid (base ≤ w14.heap.size) := by rw [HBS.out]; exact HB.out.size
      obtain ⟨vD, w15, hr, hn, hg, -⟩ := run_appT (m := [⟨xn, xg, xa, x0, x1, x2, xr, xwa, xwn, xwc, xba, xbn, xbc⟩]) HR.out HB0.out (some ⟨nC, 0, none⟩) 1 22 (.inr ⟨_, rfl, HC.out⟩) HM2.out
      refine step_app rfl (.tmp 28) (.tmp 30) 22 rfl _ _ _ rfl rfl hr ?_
      clear hr
      have HB2 : Hid (Below base Z w15) := HB.out.grown hg HB0.out (fun k hk => (HR.out.lt k hk).1)
      have HF2 := Lib.hid (HF.out.grown hg (own_type HR.out HF.out (by decide)))
      clear HF
      have HF := HF2
      clear HF2
      clear HR HB hg HC HNC HNE
      have HR := Lib.hid hn
      have HB := HB2
      clear hn HB2
      clear HB0
      refine hK.out _ _ (HS.out _ HB.out) (fun hHeld2 => ?_)
      clear hK K hHeld
      have hHeld := hHeld2
      clear hHeld2
      try simp only [Act.put, List.setIfInBounds_toArray, List.set_cons_zero, List.set_cons_succ, List.getElem_toArray, List.getElem_cons_succ, List.getElem_cons_zero]
      refine wpAnyH_ready (rs := [6]) (by kernel_rfl) (by simp) ?_
      refine AllReadyH.cons rfl (fun K hK => ?_) AllReadyH.nil
      have HB0 : Hid (base ≤ w15.heap.size) := by rw [HBS.out]; exact HB.out.size
      go_simp
      refine (HA.out _ _ _ HR.out).mono ?_
      rintro e w16 ⟨rfl, hb⟩
      clear HR
      have HF2 := Lib.hid (HF.out.inn hb HF.out.lt)
      clear HF
      have HF := HF2
      clear HF2
      have HB2 : Hid (Below base Z w16) := HB.out.trans (hb.mono HB0.out)
      clear HB
      have HB := HB2
      clear HB2
      clear hb
      clear HB0
      refine hK.out _ _ (HS.out _ HB.out) (fun hHeld2 => ?_)
      clear hK K hHeld
      have hHeld := hHeld2
      clear hHeld2
      try simp only [Act.put, List.setIfInBounds_toArray, List.set_cons_zero, List.set_cons_succ, List.getElem_toArray, List.getElem_cons_succ, List.getElem_cons_zero]
      refine wpAnyH_take (i := 7) (v := ?_) rfl (by kernel_rfl) (by kernel_rfl) (by kernel_rfl) (fun _ _ _ h => h) (Or.inl ⟨by rfl, ?_⟩) (by assumption) ?_
      rotate_left
      · intro z hSz
        obtain ⟨k0, k1, k2, k3, k4, k5, k6, k7, k8⟩ := hSz
        go_simp
        try with_reducible rfl
      try simp only [Act.put, List.setIfInBounds_toArray, List.set_cons_zero, List.set_cons_succ, List.getElem_toArray, List.getElem_cons_succ, List.getElem_cons_zero]
      refine wpAnyH_take (i := 8) (v := ?_) rfl (by kernel_rfl) (by kernel_rfl) (by kernel_rfl) (fun _ _ _ h => h) (Or.inl ⟨by rfl, ?_⟩) (by assumption) ?_
      rotate_left
      · intro z hSz
        obtain ⟨k0, k1, k2, k3, k4, k5, k6, k7, k8⟩ := hSz
        go_simp
        try with_reducible rfl
      try simp only [Act.put, List.setIfInBounds_toArray, List.set_cons_zero, List.set_cons_succ, List.getElem_toArray, List.getElem_cons_succ, List.getElem_cons_zero]
      refine wpAnyH_take (i := 9) (v := ?_) rfl (by kernel_rfl) (by kernel_rfl) (by kernel_rfl) (fun _ _ _ h => h) (Or.inl ⟨by rfl, ?_⟩) (by assumption) ?_
      rotate_left
      · intro z hSz
        obtain ⟨k0, k1, k2, k3, k4, k5, k6, k7, k8⟩ := hSz
        go_simp
        try with_reducible rfl
      try simp only [Act.put, List.setIfInBounds_toArray, List.set_cons_zero, List.set_cons_succ, List.getElem_toArray, List.getElem_cons_succ, List.getElem_cons_zero]
      refine wpAnyH_ready (rs := [11]) (by kernel_rfl) (by simp) ?_
      refine AllReadyH.cons rfl (fun K hK => ?_) AllReadyH.nil
      have m0 : w16.cell? ⟨nF, 0, none⟩ = some (.int .i64 0) := HF.out.cell 0
      have m1 : w16.cell? ⟨nF, 1, none⟩ = some (.int .i64 0) := HF.out.cell 1
      have m2 : w16.cell? ⟨nF, 2, none⟩ = some (.int .i64 0) := HF.out.cell 2
      have f0 : w16.frozen? ⟨nF, 0, none⟩ = false := HF.out.fz 0
      have f1 : w16.frozen? ⟨nF, 1, none⟩ = false := HF.out.fz 1
      have f2 : w16.frozen? ⟨nF, 2, none⟩ = false := HF.out.fz 2
      go_simp
      have HF9 : Hid (Bw (((w16.setCell ⟨nF, 0, none⟩ (.int .i64 q0)).setCell ⟨nF, 1, none⟩ (.int .i64 q1)).setCell ⟨nF, 2, none⟩ (.int .i64 q2)) nF [.int .i64 q0, .int .i64 q1, .int .i64 q2] 23) := ((HF.out.set 0 (.int .i64 q0)).set 1 (.int .i64 q1)).set 2 (.int .i64 q2)
      have HB9 : Hid (Below base Z (((w16.setCell ⟨nF, 0, none⟩ (.int .i64 q0)).setCell ⟨nF, 1, none⟩ (.int .i64 q1)).setCell ⟨nF, 2, none⟩ (.int .i64 q2))) := ((HB.out.setCell (p := ⟨nF, 0, none⟩) HNF.out _).setCell (p := ⟨nF, 1, none⟩) HNF.out _).setCell (p := ⟨nF, 2, none⟩) HNF.out _
      clear m0 m1 m2 f0 f1 f2 HF HB
      refine hK.out _ _ (HS.out _ HB9.out) (fun hHeld2 => ?_)
      clear hK K hHeld
      have hHeld := hHeld2
      clear hHeld2
      try simp only [Act.put, List.setIfInBounds_toArray, List.set_cons_zero, List.set_cons_succ, List.getElem_toArray, List.getElem_cons_succ, List.getElem_cons_zero]
      refine wpAnyH_take (i := 12) (v := ?_) rfl (by kernel_rfl) (by kernel_rfl) (by kernel_rfl) (fun _ _ _ h => h) (Or.inl ⟨by rfl, ?_⟩) (by assumption) ?_
      rotate_left
      · intro z hSz
        obtain ⟨k0, k1, k2, k3, k4, k5, k6, k7, k8⟩ := hSz
        go_simp
        try with_reducible rfl
      try simp only [Act.put, List.setIfInBounds_toArray, List.set_cons_zero, List.set_cons_succ, List.getElem_toArray, List.getElem_cons_succ, List.getElem_cons_zero]
      refine wpAnyH_done (by kernel_rfl) ?_ _
      clear hHeld
      go_wp2_with fail
      go_meet
      case rel => exact ⟨nF, rfl, rfl, ⟨HF9.out, HNF.out, HB9.out⟩⟩
    refine AllReadyH.cons rfl (fun K hK => ?_) AllReadyH.nil
    have HB0 : Hid (base ≤ w11.heap.size) := by rw [HBS.out]; exact HB.out.size
    go_simp
    obtain ⟨nC, hnC⟩ : ∃ n, n = w11.heap.size := ⟨_, rfl⟩
    obtain ⟨w12, hw⟩ : ∃ x, x = w11.alloc (.cells #[.string xn, .int .i64 x0, .int .i64 x1, .int .i64 x2, .slice xwa xwn xwc, .slice xba xbn xbc, .string xg, .string xa, .int .i64 xr] 26) := ⟨_, rfl⟩
    have hb : Below w11.heap.size w11 w12 := by rw [hw]; exact al _ _
    have hn : ∀ j u, (flatT [(⟨xn, xg, xa, x0, x1, x2, xr, xwa, xwn, xwc, xba, xbn, xbc⟩ : Tk)])[j]? = some u → w12.cell? ((⟨nC, 0, none⟩ : Addr).add j) = some u := by rw [hw, hnC, flatT_one]; exact news_new w11 _ _
    have hn2 : nC < w12.heap.size := by rw [hw, hnC]; simp
    rw [← hw]
    rw [← hnC]
    have HF2 := Lib.hid (HF.out.inn hb HF.out.lt)
    clear HF
    have HF := HF2
    clear HF2
    have HB2 : Hid (Below base Z w12) := HB.out.trans (hb.mono HB0.out)
    clear HB
    have HB := HB2
    clear HB2
    have HC := Lib.hid hn
    have HNC := Lib.hid hn2
    clear hn2
    clear hb hn hw hnC
    clear HB0
    refine hK.out _ _ (HS.out _ HB.out) (fun hHeld2 => ?_)
    clear hK K hHeld
    have hHeld := hHeld2
    clear hHeld2
    try simp only [Act.put, List.setIfInBounds_toArray, List.set_cons_zero, List.set_cons_succ, List.getElem_toArray, List.getElem_cons_succ, List.getElem_cons_zero]
    refine wpAnyH_ready (rs := [0]) (by kernel_rfl) (by simp) ?_
    refine AllReadyH.cons rfl (fun K hK => ?_) AllReadyH.nil
    have HB0 : Hid (base ≤ w12.heap.size) := by rw [HBS.out]; exact HB.out.size
    go_simp
    obtain ⟨nR, hnR⟩ : ∃ n, n = w12.heap.size := ⟨_, rfl⟩
    obtain ⟨w13, hw⟩ : ∃ x, x = w12.alloc (.cells #[] 26) := ⟨_, rfl⟩
    have hb : Below w12.heap.size w12 w13 := by rw [hw]; exact al _ _
    have hn : OwnT w13 base (.slice (some ⟨nR, 0, none⟩) 0 0) [] := by rw [hw, hnR]; exact OwnT.made w12 base HB0.out
    rw [← hw]
    rw [← hnR]
    have hne : (Value.slice (some ⟨nR, 0, none⟩) 0 0).ownBlock ≠ some nC := by intro e; have e : nR = nC := Option.some.inj e; have := HNC.out; omega
    have HC2 := Lib.hid (news_keep HC.out (hb.block nC HNC.out))
    have HNC2 : Hid (nC < w13.heap.size) := Nat.lt_of_lt_of_le HNC.out hb.size
    clear HC HNC
    have HC := HC2
    have HNC := HNC2
    clear HC2 HNC2
    have HF2 := Lib.hid (HF.out.inn hb HF.out.lt)
    clear HF
    have HF := HF2
    clear HF2
    have HB2 : Hid (Below base Z w13) := HB.out.trans (hb.mono HB0.out)
    clear HB
    have HB := HB2
    clear HB2
    have HR := Lib.hid hn
    have HNE := Lib.hid hne
    clear hne
    clear hb hn hw hnR
    clear HB0
    refine hK.out _ _ (HS.out _ HB.out) (fun hHeld2 => ?_)
    clear hK K hHeld
    have hHeld := hHeld2
    clear hHeld2
    try simp only [Act.put, List.setIfInBounds_toArray, List.set_cons_zero, List.set_cons_succ, List.getElem_toArray, List.getElem_cons_succ, List.getElem_cons_zero]
    refine wpAnyH_ready (rs := [2]) (by kernel_rfl) (by simp) ?_
    refine AllReadyH.cons rfl (fun K hK => ?_) AllReadyH.nil
    have HB0 : Hid (base ≤ w13.heap.size) := by rw [HBS.out]; exact HB.out.size
    obtain ⟨vR, w14, hr, hn, hg, hwh⟩ := run_appT (m := l) HR.out HB0.out va vc 22 (HSRC.out _ (HWZ.out.trans (HB.out.mono (Nat.le_of_lt (Nat.lt_of_le_of_lt (Nat.le_refl _) HPb.out.1))))) HM1.out
    rw [List.nil_append] at hn
    refine step_app rfl (.tmp 26) (.tmp 27) 22 rfl _ _ _ rfl rfl hr ?_
    clear hr
    have HB2 : Hid (Below base Z w14) := HB.out.grown hg HB0.out (fun k hk => (HR.out.lt k hk).1)
    have HC2 := Lib.hid (news_keep HC.out (hg.block nC HNC.out (fun e => HNE.out e.symm)))
    have HNC2 : Hid (nC < w14.heap.size) := Nat.lt_of_lt_of_le HNC.out hg.size
    have HNE2 : Hid (vR.ownBlock ≠ some nC) := by
      intro e
      rcases hwh with h | h
      · rw [h] at e; exact HNE.out e
      · rw [h] at e; have e := Option.some.inj e; have := HNC.out; omega
    clear HC HNC HNE
    have HC := HC2
    have HNC := HNC2
    have HNE := HNE2
    clear HC2 HNC2 HNE2
    have HF2 := Lib.hid (HF.out.grown hg (own_type HR.out HF.out (by decide)))
    clear HF
    have HF := HF2
    clear HF2
    clear HR HB hg hwh
    have HR := Lib.hid hn
    have HB := HB2
    clear hn HB2
    clear HB0
    refine hK.out _ _ (HS.out _ HB.out) (fun hHeld2 => ?_)
    clear hK K hHeld
    have hHeld := hHeld2
    clear hHeld2
    try simp only [Act.put, List.setIfInBounds_toArray, List.set_cons_zero, List.set_cons_succ, List.getElem_toArray, List.getElem_cons_succ, List.getElem_cons_zero]
    refine wpAnyH_ready (rs := [5]) (by kernel_rfl) (by simp) ?_
    refine AllReadyH.cons rfl (fun K hK => ?_) AllReadyH.nil
    have HB0 : Hid (base ≤ w14.heap.size) := by rw [HBS.out]; exact HB.out.size
    obtain ⟨vD, w15, hr, hn, hg, -⟩ := run_appT (m := [⟨xn, xg, xa, x0, x1, x2, xr, xwa, xwn, xwc, xba, xbn, xbc⟩]) HR.out HB0.out (some ⟨nC, 0, none⟩) 1 22 (.inr ⟨_, rfl, HC.out⟩) HM2.out
    refine step_app rfl (.tmp 28) (.tmp 30) 22 rfl _ _ _ rfl rfl hr ?_
    clear hr
    have HB2 : Hid (Below base Z w15) := HB.out.grown hg HB0.out (fun k hk => (HR.out.lt k hk).1)
    have HF2 := Lib.hid (HF.out.grown hg (own_type HR.out HF.out (by decide)))
    clear HF
    have HF := HF2
    clear HF2
    clear HR HB hg HC HNC HNE
    have HR := Lib.hid hn
    have HB := HB2
    clear hn HB2
    clear HB0
    refine hK.out _ _ (HS.out _ HB.out) (fun hHeld2 => ?_)
    clear hK K hHeld
    have hHeld := hHeld2
    clear hHeld2
    try simp only [Act.put, List.setIfInBounds_toArray, List.set_cons_zero, List.set_cons_succ, List.getElem_toArray, List.getElem_cons_succ, List.getElem_cons_zero]
    refine wpAnyH_ready (rs := [6]) (by kernel_rfl) (by simp) ?_
    refine AllReadyH.cons rfl (fun K hK => ?_) AllReadyH.nil
    have HB0 : Hid (base ≤ w15.heap.size) := by rw [HBS.out]; exact HB.out.size
    go_simp
    refine (HA.out _ _ _ HR.out).mono ?_
    rintro e w16 ⟨rfl, hb⟩
    clear HR
    have HF2 := Lib.hid (HF.out.inn hb HF.out.lt)
    clear HF
    have HF := HF2
    clear HF2
    have HB2 : Hid (Below base Z w16) := HB.out.trans (hb.mono HB0.out)
    clear HB
    have HB := HB2
    clear HB2
    clear hb
    clear HB0
    refine hK.out _ _ (HS.out _ HB.out) (fun hHeld2 => ?_)
    clear hK K hHeld
    have hHeld := hHeld2
    clear hHeld2
    try simp only [Act.put, List.setIfInBounds_toArray, List.set_cons_zero, List.set_cons_succ, List.getElem_toArray, List.getElem_cons_succ, List.getElem_cons_zero]
    refine wpAnyH_take (i := 7) (v := ?_) rfl (by kernel_rfl) (by kernel_rfl) (by kernel_rfl) (fun _ _ _ h => h) (Or.inl ⟨by rfl, ?_⟩) (by assumption) ?_
    rotate_left
    · intro z hSz
      obtain ⟨k0, k1, k2, k3, k4, k5, k6, k7, k8⟩ := hSz
      go_simp
      try with_reducible rfl
    try simp only [Act.put, List.setIfInBounds_toArray, List.set_cons_zero, List.set_cons_succ, List.getElem_toArray, List.getElem_cons_succ, List.getElem_cons_zero]
    refine wpAnyH_take (i := 8) (v := ?_) rfl (by kernel_rfl) (by kernel_rfl) (by kernel_rfl) (fun _ _ _ h => h) (Or.inl ⟨by rfl, ?_⟩) (by assumption) ?_
    rotate_left
    · intro z hSz
      obtain ⟨k0, k1, k2, k3, k4, k5, k6, k7, k8⟩ := hSz
      go_simp
      try with_reducible rfl
    try simp only [Act.put, List.setIfInBounds_toArray, List.set_cons_zero, List.set_cons_succ, List.getElem_toArray, List.getElem_cons_succ, List.getElem_cons_zero]
    refine wpAnyH_take (i := 9) (v := ?_) rfl (by kernel_rfl) (by kernel_rfl) (by kernel_rfl) (fun _ _ _ h => h) (Or.inl ⟨by rfl, ?_⟩) (by assumption) ?_
    rotate_left
    · intro z hSz
      obtain ⟨k0, k1, k2, k3, k4, k5, k6, k7, k8⟩ := hSz
      go_simp
      try with_reducible rfl
    try simp only [Act.put, List.setIfInBounds_toArray, List.set_cons_zero, List.set_cons_succ, List.getElem_toArray, List.getElem_cons_succ, List.getElem_cons_zero]
    refine wpAnyH_ready (rs := [11]) (by kernel_rfl) (by simp) ?_
    refine AllReadyH.cons rfl (fun K hK => ?_) AllReadyH.nil
    have m0 : w16.cell? ⟨nF, 0, none⟩ = some (.int .i64 0) := HF.out.cell 0
    have m1 : w16.cell? ⟨nF, 1, none⟩ = some (.int .i64 0) := HF.out.cell 1
    have m2 : w16.cell? ⟨nF, 2, none⟩ = some (.int .i64 0) := HF.out.cell 2
    have f0 : w16.frozen? ⟨nF, 0, none⟩ = false := HF.out.fz 0
    have f1 : w16.frozen? ⟨nF, 1, none⟩ = false := HF.out.fz 1
    have f2 : w16.frozen? ⟨nF, 2, none⟩ = false := HF.out.fz 2
    go_simp
    have HF9 : Hid (Bw (((w16.setCell ⟨nF, 0, none⟩ (.int .i64 q0)).setCell ⟨nF, 1, none⟩ (.int .i64 q1)).setCell ⟨nF, 2, none⟩ (.int .i64 q2)) nF [.int .i64 q0, .int .i64 q1, .int .i64 q2] 23) := ((HF.out.set 0 (.int .i64 q0)).set 1 (.int .i64 q1)).set 2 (.int .i64 q2)
    have HB9 : Hid (Below base Z (((w16.setCell ⟨nF, 0, none⟩ (.int .i64 q0)).setCell ⟨nF, 1, none⟩ (.int .i64 q1)).setCell ⟨nF, 2, none⟩ (.int .i64 q2))) := ((HB.out.setCell (p := ⟨nF, 0, none⟩) HNF.out _).setCell (p := ⟨nF, 1, none⟩) HNF.out _).setCell (p := ⟨nF, 2, none⟩) HNF.out _
    clear m0 m1 m2 f0 f1 f2 HF HB
    refine hK.out _ _ (HS.out _ HB9.out) (fun hHeld2 => ?_)
    clear hK K hHeld
    have hHeld := hHeld2
    clear hHeld2
    try simp only [Act.put, List.setIfInBounds_toArray, List.set_cons_zero, List.set_cons_succ, List.getElem_toArray, List.getElem_cons_succ, List.getElem_cons_zero]
    refine wpAnyH_take (i := 12) (v := ?_) rfl (by kernel_rfl) (by kernel_rfl) (by kernel_rfl) (fun _ _ _ h => h) (Or.inl ⟨by rfl, ?_⟩) (by assumption) ?_
    rotate_left
    · intro z hSz
      obtain ⟨k0, k1, k2, k3, k4, k5, k6, k7, k8⟩ := hSz
      go_simp
      try with_reducible rfl
    try simp only [Act.put, List.setIfInBounds_toArray, List.set_cons_zero, List.set_cons_succ, List.getElem_toArray, List.getElem_cons_succ, List.getElem_cons_zero]
    refine wpAnyH_done (by kernel_rfl) ?_ _
    clear hHeld
    go_wp2_with fail
    go_meet
    case rel => exact ⟨nF, rfl, rfl, ⟨HF9.out, HNF.out, HB9.out⟩⟩

  case rest =>
    obtain ⟨nF, rfl, rfl, HX⟩ := hcut
    have HFc : Hid (Bw wc nF [.int .i64 q0, .int .i64 q1, .int .i64 q2] 23) := HX.out.1
    have HNF : Hid (base ≤ nF) := HX.out.2.1
    have HB : Hid (Below base Z wc) := HX.out.2.2
    clear HX HZ0
    have HNE0 : Hid (nA ≠ nF ∧ nA ≠ w.heap.size ∧ w.heap.size ≤ nA) := ⟨by have := HPb.out.2.2; have := HNF.out; omega, HWN.out, HWA.out⟩
    have HB0 : Hid (base ≤ wc.heap.size) := by rw [HBS.out]; exact HB.out.size
    have hpc := HKP.out _ HB.out
    have k0 : wc.cell? ⟨w.heap.size, 0, none⟩ = some (.string xn) := hpc.cell 0
    have k1 : wc.cell? ⟨w.heap.size, 1, none⟩ = some (.int .i64 x0) := hpc.cell 1
    have k2 : wc.cell? ⟨w.heap.size, 2, none⟩ = some (.int .i64 x1) := hpc.cell 2
    have k3 : wc.cell? ⟨w.heap.size, 3, none⟩ = some (.int .i64 x2) := hpc.cell 3
    have k4 : wc.cell? ⟨w.heap.size, 4, none⟩ = some (.slice xwa xwn xwc) := hpc.cell 4
    have k5 : wc.cell? ⟨w.heap.size, 5, none⟩ = some (.slice xba xbn xbc) := hpc.cell 5
    have k6 : wc.cell? ⟨w.heap.size, 6, none⟩ = some (.string xg) := hpc.cell 6
    have k7 : wc.cell? ⟨w.heap.size, 7, none⟩ = some (.string xa) := hpc.cell 7
    have k8 : wc.cell? ⟨w.heap.size, 8, none⟩ = some (.int .i64 xr) := hpc.cell 8
    clear hpc
    go_upto_region 6 with fail
    refine wp_region_list ?_
    refine wpList_plain rfl fun K hK => ?_
    go_simp
    refine hK _ _ ?_
    clear hK K
    refine wpList_plain rfl fun K hK => ?_
    go_simp
    refine hK _ _ ?_
    clear hK K
    clear k0 k1 k2 k3 k4 k5 k6 k7 k8
    refine wpList_plain rfl fun K hK => ?_
    go_simp
    refine hK _ _ ?_
    clear hK K
    have hb4 : Below wc.heap.size wc (wc.alloc (.cells #[.string xn, .int .i64 x0, .int .i64 x1, .int .i64 x2, .slice xwa xwn xwc, .slice xba xbn xbc, .string xg, .string xa, .int .i64 xr] 26)) := al _ _
    have ho4 : OwnT (wc.alloc (.cells #[.string xn, .int .i64 x0, .int .i64 x1, .int .i64 x2, .slice xwa xwn xwc, .slice xba xbn xbc, .string xg, .string xa, .int .i64 xr] 26)) wc.heap.size (.slice (some ⟨wc.heap.size, 0, none⟩) 1 1) [⟨xn, xg, xa, x0, x1, x2, xr, xwa, xwn, xwc, xba, xbn, xbc⟩] := by
      refine ⟨rfl, .inr ⟨wc.heap.size, 1, #[.string xn, .int .i64 x0, .int .i64 x1, .int .i64 x2, .slice xwa xwn xwc, .slice xba xbn xbc, .string xg, .string xa, .int .i64 xr], rfl, Nat.le_refl _, heap_alloc_new wc _, Nat.le_refl _, by unfold maxLen; omega, by simp, by simp [flatT, encT]⟩⟩
    obtain ⟨vD, w5, hr, hn, hg, -⟩ := run_appT (m := l) ho4 hb4.size va vc 22 (HSRC.out _ (HWZ.out.trans ((HB.out.trans (hb4.mono HB0.out)).mono (Nat.le_of_lt HPb.out.1)))) HM3.out
    refine wpl_app rfl (.tmp 37) (.tmp 38) 22 rfl _ _ _ rfl rfl hr ?_
    have hb5 : Below wc.heap.size wc w5 := hb4.grown hg hb4.size (fun k hk => (ho4.lt k hk).1)
    have HR5 := Lib.hid hn
    have HF5 : Hid (Bw w5 nF [.int .i64 q0, .int .i64 q1, .int .i64 q2] 23) := HFc.out.inn hb5 HFc.out.lt
    have HB5 : Hid (Below base Z w5) := HB.out.trans (hb5.mono HB0.out)
    clear hr hn hg hb4 ho4 hb5 HB HFc
    refine wpList_plain rfl fun K hK => ?_
    go_wp2_with fail
    refine (HA2.out _ _ _ HR5.out).mono ?_
    rintro e w6 ⟨rfl, hb⟩
    refine hK _ _ ?_
    clear hK K
    have HF6 : Hid (Bw w6 nF [.int .i64 q0, .int .i64 q1, .int .i64 q2] 23) := HF5.out.inn hb HF5.out.lt
    have HB6 : Hid (Below base Z w6) := HB5.out.trans (hb.mono (by rw [HBS.out]; exact HB5.out.size))
    clear hb HR5 HF5 HB5 HA HA2
    refine wpList_plain rfl fun K hK => ?_
    go_simp
    refine hK _ _ ?_
    clear hK K
    refine wpList_plain rfl fun K hK => ?_
    go_simp
    refine hK _ _ ?_
    clear hK K
    refine wpList_plain rfl fun K hK => ?_
    go_simp
    refine hK _ _ ?_
    clear hK K
    have hb7 : Below w6.heap.size w6 (w6.alloc (.cells #[.int .i64 0, .int .i64 0, .int .i64 0] 23)) := al _ _
    have hn7 : Bw (w6.alloc (.cells #[.int .i64 0, .int .i64 0, .int .i64 0] 23)) w6.heap.size [.int .i64 0, .int .i64 0, .int .i64 0] 23 := Bw.made w6 _ _
    have HF7 := Lib.hid (HF6.out.inn hb7 HF6.out.lt)
    have HB7 : Hid (Below base Z (w6.alloc (.cells #[.int .i64 0, .int .i64 0, .int .i64 0] 23))) := HB6.out.trans (hb7.mono (by rw [HBS.out]; exact HB6.out.size))
    have HNG : Hid (nF ≠ w6.heap.size ∧ base ≤ w6.heap.size) := by have := HF6.out.lt; have := HB6.out.size; have := HBS.out; exact ⟨by omega, by omega⟩
    refine wpList_plain rfl fun K hK => ?_
    go_simp
    refine hK _ _ ?_
    clear hK K
    generalize w6.alloc (.cells #[.int .i64 0, .int .i64 0, .int .i64 0] 23) = w7 at *
    generalize w6.heap.size = nG at *
    have m0 : w7.cell? ⟨nG, 0, none⟩ = some (.int .i64 0) := hn7.cell 0
    have m1 : w7.cell? ⟨nG, 1, none⟩ = some (.int .i64 0) := hn7.cell 1
    have m2 : w7.cell? ⟨nG, 2, none⟩ = some (.int .i64 0) := hn7.cell 2
    have f0 : w7.frozen? ⟨nG, 0, none⟩ = false := hn7.fz 0
    have f1 : w7.frozen? ⟨nG, 1, none⟩ = false := hn7.fz 1
    have f2 : w7.frozen? ⟨nG, 2, none⟩ = false := hn7.fz 2
    have hg8 := ((hn7.set 0 (.int .i64 q0)).set 1 (.int .i64 q1)).set 2 (.int .i64 q2)
    have hf8 := ((HF7.out.far HNG.out.1.symm 0 (.int .i64 q0)).far HNG.out.1.symm 1 (.int .i64 q1)).far HNG.out.1.symm 2 (.int .i64 q2)
    have HB8 := Lib.hid (((HB7.out.setCell (p := ⟨nG, 0, none⟩) HNG.out.2 (.int .i64 q0)).setCell (p := ⟨nG, 1, none⟩) HNG.out.2 (.int .i64 q1)).setCell (p := ⟨nG, 2, none⟩) HNG.out.2 (.int .i64 q2))
    have HG8 := Lib.hid hg8
    have HF8 := Lib.hid hf8
    clear hg8 hf8 HF7 HB7 HF6 HB6 hb7 hn7
    refine wpList_plain rfl fun K hK => ?_
    go_simp
    refine hK _ _ ?_
    clear hK K
    clear m0 m1 m2 f0 f1 f2
    generalize ((w7.setCell ⟨nG, 0, none⟩ (.int .i64 q0)).setCell ⟨nG, 1, none⟩ (.int .i64 q1)).setCell ⟨nG, 2, none⟩ (.int .i64 q2) = w8 at *
    refine wpList_plain rfl fun K hK => ?_
    go_simp
    refine hK _ _ ?_
    clear hK K
    refine wpList_nil ?_
    have hnb := HNZ.out.inn HB8.out HPb.out.2.1
    have hab := HAZ.out.inn HB8.out HPb.out.2.2
    have n0 : w8.cell? ⟨nN, 0, none⟩ = some (.int .i64 0) := hnb.cell 0
    have n1 : w8.cell? ⟨nN, 1, none⟩ = some (.int .i64 0) := hnb.cell 1
    have n2 : w8.cell? ⟨nN, 2, none⟩ = some (.int .i64 0) := hnb.cell 2
    have g0 : w8.cell? ⟨nG, 0, none⟩ = some (.int .i64 q0) := HG8.out.cell 0
    have g1 : w8.cell? ⟨nG, 1, none⟩ = some (.int .i64 q1) := HG8.out.cell 1
    have g2 : w8.cell? ⟨nG, 2, none⟩ = some (.int .i64 q2) := HG8.out.cell 2
    have e0 : w8.cell? ⟨nF, 0, none⟩ = some (.int .i64 q0) := HF8.out.cell 0
    have e1 : w8.cell? ⟨nF, 1, none⟩ = some (.int .i64 q1) := HF8.out.cell 1
    have e2 : w8.cell? ⟨nF, 2, none⟩ = some (.int .i64 q2) := HF8.out.cell 2
    have c1 := neq_arr1 0 0 0
    have c2 := neq_arr1 q0 q1 q2
    have HWE : Hid (Below w.heap.size w w8) := HWZ.out.trans (HB8.out.mono (Nat.le_of_lt HPb.out.1))
    rcases HPL.out with ⟨rfl, rfl, rfl, rfl⟩ | ⟨rfl, rfl, r0, r1, r2, ⟨a1, a2⟩, ⟨a3, a4⟩, ⟨a5, a6⟩, ⟨b1, b2⟩, ⟨b3, b4⟩, ⟨b5, b6⟩⟩
    · have c3 := eq_arr1 0 0 0
      clear hnb hab
      go_wp2
      go_ret
      exact ⟨rfl, HWE.out⟩
    · have HAb := Lib.hid hab
      have HPp := Lib.hid (HKP.out _ HB8.out)
      have v0 : IntKind.i64.wrap (s0 + x0) = s0 + x0 := by rw [IntKind.wrap_i64]; omega
      have v1 : IntKind.i64.wrap (s1 + x1) = s1 + x1 := by rw [IntKind.wrap_i64]; omega
      have v2 : IntKind.i64.wrap (s2 + x2) = s2 + x2 := by rw [IntKind.wrap_i64]; omega
      have HQ : Hid (q0 = s0 + x0 ∧ q1 = s1 + x1 ∧ q2 = s2 + x2) := ⟨r0, r1, r2⟩
      clear hnb hab r0 r1 r2 a1 a2 a3 a4 a5 a6 b1 b2 b3 b4 b5 b6 HPL
      go_wp2
      clear n0 n1 n2 g0 g1 g2 e0 e1 e2 c1 c2
      go_loopg [65] 3 (fun gg i wx => ∃ m : Nat, m + gg = 3 ∧ i = .int .i64 m ∧ Aside (Bw wx nA (l3 s0 s1 s2 x0 x1 x2 m) 23 ∧ Bw wx nF [.int .i64 q0, .int .i64 q1, .int .i64 q2] 23 ∧ Bw wx w.heap.size [.string xn, .int .i64 x0, .int .i64 x1, .int .i64 x2, .slice xwa xwn xwc, .slice xba xbn xbc, .string xg, .string xa, .int .i64 xr] 26 ∧ Below w.heap.size w wx))
      case atStart => exact ⟨0, by omega, rfl, ⟨HAb.out, HF8.out, HPp.out, HWE.out⟩⟩
      case round =>
        obtain ⟨m, hmg, rfl, HX⟩ := hrel
        clear HAb HF8 HG8 HPp HWE
        cases gk with
        | zero =>
          obtain rfl : m = 3 := by omega
          have g0 : wr.cell? ⟨nA, 0, none⟩ = some (.int .i64 q0) := by rw [HQ.out.1]; exact HX.out.1.cell 0
          have g1 : wr.cell? ⟨nA, 1, none⟩ = some (.int .i64 q1) := by rw [HQ.out.2.1]; exact HX.out.1.cell 1
          have g2 : wr.cell? ⟨nA, 2, none⟩ = some (.int .i64 q2) := by rw [HQ.out.2.2]; exact HX.out.1.cell 2
          have e0 : wr.cell? ⟨nF, 0, none⟩ = some (.int .i64 q0) := HX.out.2.1.cell 0
          have e1 : wr.cell? ⟨nF, 1, none⟩ = some (.int .i64 q1) := HX.out.2.1.cell 1
          have e2 : wr.cell? ⟨nF, 2, none⟩ = some (.int .i64 q2) := HX.out.2.1.cell 2
          have c3 := eq_arr1 q0 q1 q2
          have HE : Hid (Below w.heap.size w wr) := HX.out.2.2.2
          clear HX hmg
          go_wp2
          go_ret
          exact ⟨rfl, HE.out⟩
        | succ gg =>
          rcases (by omega : m = 0 ∨ m = 1 ∨ m = 2) with rfl | rfl | rfl
          · have p1 : wr.cell? ⟨nA, 0, none⟩ = some (.int .i64 s0) := HX.out.1.cell 0
            have f1 : wr.frozen? ⟨nA, 0, none⟩ = false := HX.out.1.fz 0
            have p2 : wr.cell? ⟨w.heap.size, 1, none⟩ = some (.int .i64 x0) := HX.out.2.2.1.cell 1
            have HN : Hid (Bw (wr.setCell ⟨nA, 0, none⟩ (.int .i64 (s0 + x0))) nA (l3 s0 s1 s2 x0 x1 x2 1) 23 ∧ Bw (wr.setCell ⟨nA, 0, none⟩ (.int .i64 (s0 + x0))) nF [.int .i64 q0, .int .i64 q1, .int .i64 q2] 23 ∧ Bw (wr.setCell ⟨nA, 0, none⟩ (.int .i64 (s0 + x0))) w.heap.size [.string xn, .int .i64 x0, .int .i64 x1, .int .i64 x2, .slice xwa xwn xwc, .slice xba xbn xbc, .string xg, .string xa, .int .i64 xr] 26 ∧ Below w.heap.size w (wr.setCell ⟨nA, 0, none⟩ (.int .i64 (s0 + x0)))) := ⟨HX.out.1.set 0 _, HX.out.2.1.far HNE0.out.1 0 _, HX.out.2.2.1.far HNE0.out.2.1 0 _, HX.out.2.2.2.setCell (p := ⟨nA, 0, none⟩) HNE0.out.2.2 _⟩
            clear HX
            go_upto_region 14 with fail
            go_region
            all_goals
              go_wp2
              go_roundg gg
              case measure => omega
              case rel => exact ⟨1, by omega, rfl, ⟨HN.out.1, HN.out.2.1, HN.out.2.2.1, HN.out.2.2.2.drew⟩⟩
          · have p1 : wr.cell? ⟨nA, 1, none⟩ = some (.int .i64 s1) := HX.out.1.cell 1
            have f1 : wr.frozen? ⟨nA, 1, none⟩ = false := HX.out.1.fz 1
            have p2 : wr.cell? ⟨w.heap.size, 2, none⟩ = some (.int .i64 x1) := HX.out.2.2.1.cell 2
            have HN : Hid (Bw (wr.setCell ⟨nA, 1, none⟩ (.int .i64 (s1 + x1))) nA (l3 s0 s1 s2 x0 x1 x2 2) 23 ∧ Bw (wr.setCell ⟨nA, 1, none⟩ (.int .i64 (s1 + x1))) nF [.int .i64 q0, .int .i64 q1, .int .i64 q2] 23 ∧ Bw (wr.setCell ⟨nA, 1, none⟩ (.int .i64 (s1 + x1))) w.heap.size [.string xn, .int .i64 x0, .int .i64 x1, .int .i64 x2, .slice xwa xwn xwc, .slice xba xbn xbc, .string xg, .string xa, .int .i64 xr] 26 ∧ Below w.heap.size w (wr.setCell ⟨nA, 1, none⟩ (.int .i64 (s1 + x1)))) := ⟨HX.out.1.set 1 _, HX.out.2.1.far HNE0.out.1 1 _, HX.out.2.2.1.far HNE0.out.2.1 1 _, HX.out.2.2.2.setCell (p := ⟨nA, 1, none⟩) HNE0.out.2.2 _⟩
            clear HX
            go_upto_region 14 with fail
            go_region
            all_goals
              go_wp2
              go_roundg gg
              case measure => omega
              case rel => exact ⟨2, by omega, rfl, ⟨HN.out.1, HN.out.2.1, HN.out.2.2.1, HN.out.2.2.2.drew⟩⟩
          · have p1 : wr.cell? ⟨nA, 2, none⟩ = some (.int .i64 s2) := HX.out.1.cell 2
            have f1 : wr.frozen? ⟨nA, 2, none⟩ = false := HX.out.1.fz 2
            have p2 : wr.cell? ⟨w.heap.size, 3, none⟩ = some (.int .i64 x2) := HX.out.2.2.1.cell 3
            have HN : Hid (Bw (wr.setCell ⟨nA, 2, none⟩ (.int .i64 (s2 + x2))) nA (l3 s0 s1 s2 x0 x1 x2 3) 23 ∧ Bw (wr.setCell ⟨nA, 2, none⟩ (.int .i64 (s2 + x2))) nF [.int .i64 q0, .int .i64 q1, .int .i64 q2] 23 ∧ Bw (wr.setCell ⟨nA, 2, none⟩ (.int .i64 (s2 + x2))) w.heap.size [.string xn, .int .i64 x0, .int .i64 x1, .int .i64 x2, .slice xwa xwn xwc, .slice xba xbn xbc, .string xg, .string xa, .int .i64 xr] 26 ∧ Below w.heap.size w (wr.setCell ⟨nA, 2, none⟩ (.int .i64 (s2 + x2)))) := ⟨HX.out.1.set 2 _, HX.out.2.1.far HNE0.out.1 2 _, HX.out.2.2.1.far HNE0.out.2.1 2 _, HX.out.2.2.2.setCell (p := ⟨nA, 2, none⟩) HNE0.out.2.2 _⟩
            clear HX
            go_upto_region 14 with fail
            go_region
            all_goals
              go_wp2
              go_roundg gg
              case measure => omega
              case rel => exact ⟨3, by omega, rfl, ⟨HN.out.1, HN.out.2.1, HN.out.2.2.1, HN.out.2.2.2.drew⟩⟩

end Rg
end Go.Proofs.Ytgdnpjmicdiclaa
