/-
  Send whatever the net is; gafferref18.right, Check, Copy, Same; packets compared.
-/
import Derived.Test.YtejolapbdkkdaaaNetOps
import Derived.Laws.StructEq
namespace Go.Proofs.Ytejolapbdkkdaaa
open Go.RowKit Go.Lib
namespace Nt
open Rw
set_option linter.unusedVariables false
theorem bdN {B : Nat} {a w : World} (h : Below B a w) (n : Nat) : Below B a (w.drewN n) := ⟨h.os, h.tape, h.output, h.size, h.block⟩
def putR (n l : List Pk) : List Pk := if netB n then n ++ sent n l else []
def putN (n l : List Pk) : Nat := if netB n then (sent n l).length else 0
def SendIs (w : World) (n l : List Pk) (e : Ending) (w' : World) : Prop := ∃ v', e = .returned (.tuple #[.agg #[v'], .int .i64 (putN n l : Nat), .int .i64 (errN n)]) ∧ OwnP w' w.heap.size v' (putR n l) ∧ Below w.heap.size w w'
set_option maxRecDepth 100000 in
set_option maxHeartbeats 2000000 in
theorem send_any (va vl : Value) (n l : List Pk) (w : World) {A B : Nat} (hn : Sl w A w.heap.size va n) (hl : Sl w B w.heap.size vl l) :
    Calls Try.prog 8 #[.agg #[va], vl] w (SendIs w n l) := by
  cases hq : netB n
  · have HX : Hid (∀ z, Below w.heap.size w z → Calls Try.prog 18 #[.agg #[va]] z fun e w' => e = .returned (.int .i64 10) ∧ Below z.heap.size z w') := fun z hz => by
      have := check_own va n z (hn.on hz)
      rwa [show errN n = 10 by unfold errN; rw [hq]; rfl] at this
    have HT : Hid (∀ e w', e = .returned (.tuple #[.agg #[.slice none 0 0], .int .i64 0, .int .i64 10]) → Below w.heap.size w w' → SendIs w n l e w') := fun e w' h1 h2 =>
      ⟨.slice none 0 0, by rw [h1]; unfold putN errN; rw [hq]; rfl, by unfold putR; rw [hq]; exact Own.nil _ _ _, h2⟩
    obtain ⟨a, c, rfl⟩ := hn.slice
    obtain ⟨a2, c2, rfl⟩ := hl.slice
    obtain ⟨⟨hp0, hp1, hf1⟩, hb0, hs0⟩ := boxes2 w (.slice a n.length c)
    have HB := Lib.hid hb0
    have HP1 := Lib.hid hp1
    have HF1 := Lib.hid hf1
    have HZ : Hid (w.heap.size + 1 < ((w.alloc (.cells #[.slice a n.length c] 24)).alloc (.cells #[.slice none 0 0] 24)).heap.size) := by show _ < _; omega
    clear hb0 hp0 hp1 hf1 hs0 hn hl hq
    refine Cm.calls Try.func8 rfl ?_
    simp only [Try.ntmps8, List.size_toArray, List.length_cons, List.length_nil, Nat.reduceAdd, Nat.reduceSub, Array.replicate_succ, Array.replicate_zero, List.push_toArray, List.append_toArray, List.nil_append, List.cons_append]
    refine Cm.seq_wp fun K hK => ?_
    go_wp2
    refine Cm.scope ?_
    refine Cm.seq_wp fun K hK => ?_
    go_wp2_with (go_at_call 18; go_loud ((with_reducible refine (HX.out _ HB.out).mono ?_); rintro e w1 ⟨rfl, hb⟩; have HB1 := Lib.hid (HB.out.trans (hb.mono HB.out.size)); have y1 := (hb.cell (p := ⟨w.heap.size + 1, 0, none⟩) HZ.out).trans HP1.out; have f1 := (hb.frozen (p := ⟨w.heap.size + 1, 0, none⟩) HZ.out).trans HF1.out; clear hb))
    go_wp2
    rw [Exit.noGoto_ret]
    refine bodyPost_net3 (u := 5) (x := 6) rfl (w.heap.size + 1) (.slice none 0 0) rfl rfl (World.cell?_setCell_same _ _ _ y1) (HT.out _ _ rfl (HB1.out.setCell (by show w.heap.size ≤ w.heap.size + 1; omega) _))
  · refine (send_own va vl n l w hn hl hq).mono fun e w' ⟨v', h1, h2, h3⟩ => ⟨v', ?_, ?_, h3⟩
    · rw [h1]; unfold putN errN; rw [hq]; rfl
    · unfold putR; rw [hq]; exact h2
/-- Whether two packets are one. -/
def eqP (f1 t1 : Int) (d1 : ByteArray) (f2 t2 : Int) (d2 : ByteArray) : Bool := (f1 == f2) && ((t1 == t2) && (d1.toList == d2.toList))
theorem ba_ext {a b : ByteArray} (e : a.toList = b.toList) : a = b := by
  rw [ByteArray.toList_eq, ByteArray.toList_eq] at e
  exact ByteArray.ext (Array.ext' e)
theorem eqP_iff {f1 t1 : Int} {d1 : ByteArray} {f2 t2 : Int} {d2 : ByteArray} : eqP f1 t1 d1 f2 t2 d2 = true ↔ (⟨f1, t1, d1⟩ : Pk) = ⟨f2, t2, d2⟩ := by
  constructor
  · intro h
    simp [eqP] at h
    obtain ⟨rfl, rfl, h3⟩ := h
    rw [ba_ext h3]
  · intro h
    cases h
    simp [eqP]
set_option maxRecDepth 100000 in
theorem neq_pk (f1 t1 : Int) (d1 : ByteArray) (f2 t2 : Int) (d2 : ByteArray) (w : World) : (binOp .neq 30 (.agg #[.int .i64 f1, .int .i64 t1, .string d1]) (.agg #[.int .i64 f2, .int .i64 t2, .string d2])).run Try.prog w = .ok (.bool (!eqP f1 t1 d1 f2 t2 d2)) w := by
  have u3 := Try.underlying3
  have u9 := Try.underlying9
  have a3 := Try.isAgg3
  have a9 := Try.isAgg9
  have z3 := Try.sizeOf3
  have z9 := Try.sizeOf9
  have hS : Try.prog.underlying 30 = some (.struct (Try.prog.fieldsOf 30)) := by kernel_rfl
  have hp : Try.prog.stoodInHeld 30 = false := by kernel_rfl
  rw [run_neq_struct, show (10000 : Nat) = 9999 + 1 from rfl, run_equalIn_agg w 9999 30 _ _ hS hp]
  simp only [Program.fieldsOf, Try.underlying30]
  go_simp
  by_cases h1 : f1 = f2 <;> by_cases h2 : t1 = t2 <;> by_cases h3 : d1.toList = d2.toList <;> simp [h1, h2, h3, eqP]
set_option maxRecDepth 100000 in
theorem eql_pk (f1 t1 : Int) (d1 : ByteArray) (f2 t2 : Int) (d2 : ByteArray) (w : World) : (binOp .eql 30 (.agg #[.int .i64 f1, .int .i64 t1, .string d1]) (.agg #[.int .i64 f2, .int .i64 t2, .string d2])).run Try.prog w = .ok (.bool (eqP f1 t1 d1 f2 t2 d2)) w := by
  have u3 := Try.underlying3
  have u9 := Try.underlying9
  have a3 := Try.isAgg3
  have a9 := Try.isAgg9
  have z3 := Try.sizeOf3
  have z9 := Try.sizeOf9
  have hS : Try.prog.underlying 30 = some (.struct (Try.prog.fieldsOf 30)) := by kernel_rfl
  have hp : Try.prog.stoodInHeld 30 = false := by kernel_rfl
  rw [run_eql_struct, show (10000 : Nat) = 9999 + 1 from rfl, run_equalIn_agg w 9999 30 _ _ hS hp]
  simp only [Program.fieldsOf, Try.underlying30]
  go_simp
  by_cases h1 : f1 = f2 <;> by_cases h2 : t1 = t2 <;> by_cases h3 : d1.toList = d2.toList <;> simp [h1, h2, h3, eqP]
theorem guard_pk : Try.prog.eqGuardType Try.prog.depth 30 = false := by kernel_rfl
/-- What Same tells of two nets. -/
def SameIs (l m : List Pk) (e : Ending) : Prop := ∃ b, e = .returned (.bool b) ∧ (b = true ↔ l = m)
theorem SameIs.yes {l m : List Pk} (h : l = m) : SameIs l m (.returned (.bool true)) := ⟨true, rfl, by simp [h]⟩
theorem SameIs.no {l m : List Pk} (h : ¬ l = m) : SameIs l m (.returned (.bool false)) := ⟨false, rfl, by simp; exact h⟩
set_option maxRecDepth 100000 in
set_option maxHeartbeats 4000000 in
theorem same_ref (v u : Value) (l m : List Pk) (w : World) {A B : Nat} (hv : Sl w A w.heap.size v l) (hu : Sl w B w.heap.size u m) :
    Calls Try.prog 13 #[.agg #[v], .agg #[u]] w fun e w' => SameIs l m e ∧ Below w.heap.size w w' := by
  have HV := Lib.hid hv
  have HU := Lib.hid hu
  obtain ⟨a, c, rfl⟩ := hv.slice
  obtain ⟨a2, c2, rfl⟩ := hu.slice
  have hll := hv.len
  clear hv hu
  have HW := Lib.hid (((Below.refl _ w).alloc (Nat.le_refl _) (.cells #[.slice a l.length c] 24)).alloc (by simp) (.cells #[.slice a2 m.length c2] 24))
  by_cases hln : m.length = l.length
  · have HLN := Lib.hid hln
    rw [hln] at HW HU ⊢
    have t0 : ((l.length : Int) != (l.length : Int)) = false := by simp
    clear hln
    go_enter Try.func13, Try.ntmps13
    go_wp2
    go_loopg [16] l.length (fun g i wx => ∃ k : Nat, k + g = l.length ∧ i = .int .i64 k ∧ Aside (∀ j (h : j < l.length) (h2 : j < m.length), j < k → l[j] = m[j]) ∧ Below (w.heap.size + 2) ((w.alloc (.cells #[.slice a l.length c] 24)).alloc (.cells #[.slice a2 l.length c2] 24)) wx)
    case atStart => exact ⟨0, by omega, rfl, fun j _ _ h => absurd h (Nat.not_lt_zero _), Below.refl _ _⟩
    case round =>
      obtain ⟨k, hkg, rfl, HO, hbx⟩ := hrel
      have HEQ : Hid _ := HO
      have HX := Lib.hid hbx
      have HB := Lib.hid (HW.out.trans (hbx.mono (by omega)))
      cases gk with
      | zero =>
        obtain rfl : k = l.length := by omega
        clear hkg hbx
        go_wp2
        go_ret
        exact ⟨.yes (List.ext_getElem HLN.out.symm (fun i h1 h2 => HEQ.out i h1 h2 h1)), HB.out⟩
      | succ g =>
        have hlk : k < l.length := by omega
        have HG := Lib.hid hkg
        have hk2 : k < m.length := by rw [HLN.out]; exact hlk
        obtain ⟨a9, c9, he, -, -, -, hcc⟩ := HV.out
        simp only [Value.slice.injEq, true_and] at he
        obtain ⟨rfl, rfl⟩ := he
        obtain ⟨b, off, rfl, -, hb, hcell⟩ := hcc (by omega)
        obtain ⟨a8, c8, he, -, -, -, hcc2⟩ := HU.out
        simp only [Value.slice.injEq] at he
        obtain ⟨rfl, -, rfl⟩ := he
        obtain ⟨b2, off2, rfl, -, hb2, hcell2⟩ := hcc2 (by omega)
        have d0 : wr.cell? ⟨w.heap.size, 0, none⟩ = some (.slice (some ⟨b, off, none⟩) l.length c) := by rw [hbx.cell (by simp)]; simp [go_sem]
        have d1 : wr.cell? ⟨w.heap.size + 1, 0, none⟩ = some (.slice (some ⟨b2, off2, none⟩) l.length c2) := by rw [hbx.cell (by simp)]; simp [go_sem]
        obtain ⟨k1, k2, k3⟩ := at_pk ((hcell k hlk).keep HB.out hb)
        obtain ⟨k4, k5, k6⟩ := at_pk ((hcell2 k hk2).keep HB.out hb2)
        have k1 : wr.cell? ⟨b, off + k * 3, none⟩ = some (.int .i64 l[k].f) := k1
        have k2 : wr.cell? ⟨b, off + k * 3 + 1, none⟩ = some (.int .i64 l[k].t) := k2
        have k3 : wr.cell? ⟨b, off + k * 3 + 2, none⟩ = some (.string l[k].d) := k3
        have k4 : wr.cell? ⟨b2, off2 + k * 3, none⟩ = some (.int .i64 m[k].f) := k4
        have k5 : wr.cell? ⟨b2, off2 + k * 3 + 1, none⟩ = some (.int .i64 m[k].t) := k5
        have k6 : wr.cell? ⟨b2, off2 + k * 3 + 2, none⟩ = some (.string m[k].d) := k6
        have t1 : (k : Int) < (l.length : Int) := by omega
        have t2 : (0 : Int) ≤ (k : Int) := by omega
        have HK : Hid (l[k] = m[k] → ∀ j (h : j < l.length) (h2 : j < m.length), j < k + 1 → l[j] = m[j]) := by
          intro he j h h2 hj
          by_cases hjk : j < k
          · exact HEQ.out j h h2 hjk
          · have e : j = k := by omega
            subst e
            exact he
        have HN : Hid (l[k] ≠ m[k] → l ≠ m) := fun hne he => hne (by subst he; rfl)
        clear hkg hbx hcc hcc2 hcell hcell2 hb hb2
        generalize l[k] = x at *
        generalize m[k] = y at *
        rcases x with ⟨f1, t1', d1'⟩
        rcases y with ⟨f2, t2', d2'⟩
        have gf := guard_pk
        have hq := neq_pk f1 t1' d1' f2 t2' d2'
        cases hb : eqP f1 t1' d1' f2 t2' d2'
        · have HE := Lib.hid (HN.out (fun h => by have := eqP_iff.2 h; rw [hb] at this; cases this))
          rw [hb] at hq
          go_wp2
          go_quiet (fail)
          go_wp2
          go_ret
          exact ⟨.no HE.out, bdN HB.out _⟩
        · have HE := Lib.hid (HK.out (eqP_iff.1 hb))
          rw [hb] at hq
          go_wp2
          go_quiet (fail)
          go_wp2
          go_roundg g
          case measure => omega
          case rel => exact ⟨k + 1, by have := HG.out; omega, by go_num, HE.out, bdN HX.out _⟩
  · have t1 : ¬ ((l.length : Int) = (m.length : Int)) := by omega
    have t2 : (((l.length : Int) == (m.length : Int))) = false := by simpa using t1
    have HNE : Hid (l ≠ m) := fun h => hln (by rw [h])
    clear hln HV HU
    go_enter Try.func13, Try.ntmps13
    go_wp2
    go_ret
    exact ⟨.no HNE.out, HW.out⟩
end Nt
end Go.Proofs.Ytejolapbdkkdaaa
