/-
  WHO SUITS WHAT: rig.allAmong, the document's within, rig.Suits, the document's Suits, and the examples.
-/
import Derived.Test.YthbmnkeigmbbdaaGreatRgA
import Derived.Laws.StructEq
namespace Go.Proofs.YthbmnkeigmbbdaaGreat
open Go.RowKit
namespace Rg
def eqP (p q : Pr) : Bool := (p.k.toList == q.k.toList) && (p.v.toList == q.v.toList)
def isIn (o : List Pr) (p : Pr) : Bool := o.any (eqP p)
def amongB (l o : List Pr) : Bool := l.all (isIn o)
theorem all_snoc (f : Pr → Bool) (l : List Pr) (k : Nat) (h : k < l.length) : (l.take (k + 1)).all f = ((l.take k).all f && f l[k]) := by
  rw [List.take_succ_eq_append_getElem h, List.all_append]; simp
theorem any_snoc (f : Pr → Bool) (l : List Pr) (k : Nat) (h : k < l.length) : (l.take (k + 1)).any f = ((l.take k).any f || f l[k]) := by
  rw [List.take_succ_eq_append_getElem h, List.any_append]; simp
theorem in_hit (o : List Pr) (p : Pr) (j : Nat) (h : j < o.length) (he : eqP p o[j] = true) : isIn o p = true := by
  unfold isIn
  rw [List.any_eq_true]
  exact ⟨_, List.getElem_mem h, he⟩
theorem among_miss (l o : List Pr) (k : Nat) (h : k < l.length) (hn : isIn o l[k] = false) : amongB l o = false := by
  unfold amongB
  rw [← Bool.not_eq_true, List.all_eq_true]
  intro ha
  have := ha _ (List.getElem_mem h)
  rw [hn] at this; cases this
set_option maxRecDepth 100000 in
theorem eql_pair (k1 v1 k2 v2 : ByteArray) (w : World) : (binOp .eql 89 (.agg #[.string k1, .string v1]) (.agg #[.string k2, .string v2])).run Tryz.prog w = .ok (.bool (eqP ⟨k1, v1⟩ ⟨k2, v2⟩)) w := by
  have u9 := Tryz.underlying9
  have a9 := Tryz.isAgg9
  have z9 := Tryz.sizeOf9
  have hS : Tryz.prog.underlying 89 = some (.struct (Tryz.prog.fieldsOf 89)) := by kernel_rfl
  have hp : Tryz.prog.stoodInHeld 89 = false := by kernel_rfl
  rw [run_eql_struct, show (10000 : Nat) = 9999 + 1 from rfl, run_equalIn_agg w 9999 89 _ _ hS hp]
  simp only [Program.fieldsOf, Tryz.underlying89]
  go_simp
  by_cases h1 : k1.toList = k2.toList <;> by_cases h2 : v1.toList = v2.toList <;> simp [h1, h2, eqP]
theorem guard_pair : Tryz.prog.eqGuardType Tryz.prog.depth 89 = false := by kernel_rfl

set_option maxRecDepth 100000 in
set_option maxHeartbeats 4000000 in
theorem among_any (v vo : Value) (l o : List Pr) (w : World) (hv : Pairs w w.heap.size v l) (ho : Pairs w w.heap.size vo o) :
    Calls Tryz.prog 184 #[v, vo] w fun e w' => e = .returned (.bool (amongB l o)) ∧ Below w.heap.size w w' := by
  obtain ⟨a, c, rfl, hl, -, hc⟩ := hv
  obtain ⟨a2, c2, rfl, hl2, -, hc2⟩ := ho
  have HC := Lib.hid hc
  have HC2 := Lib.hid hc2
  clear hc hc2
  have gf := guard_pair
  go_enter Tryz.func184, Tryz.ntmps184
  go_wp2
  go_step3
  go_wp2
  go_step3
  go_wp2
  go_loopg [11] l.length (fun g i wx => ∃ k : Nat, k + g = l.length ∧ i = .int .i64 k ∧ Aside ((l.take k).all (isIn o) = true) ∧ Below w.heap.size w wx)
  case atStart => exact ⟨0, by omega, rfl, by show _ = _; simp, Below.refl _ _⟩
  case round =>
    obtain ⟨k, hkg, rfl, HA, hbx⟩ := hrel
    have HX := Lib.hid hbx
    cases gk with
    | zero =>
      obtain rfl : k = l.length := by omega
      have HN : Hid (amongB l o = true) := by
        have := HA.out
        rw [List.take_length] at this
        exact this
      clear hkg hbx
      go_wp2
      rw [Exit.noGoto_ret]
      go_ret
      exact ⟨by rw [HN.out]; rfl, HX.out⟩
    | succ g =>
      have hlk : k < l.length := by omega
      have HG := Lib.hid hkg
      have HS := Lib.hid (all_snoc (isIn o) l k hlk)
      have HM := Lib.hid (among_miss l o k hlk)
      obtain ⟨b, off, rfl, hblt, hcc⟩ := HC.out (by omega)
      obtain ⟨d1, d2⟩ := hcc k hlk
      have e1 := (hbx.cell (by exact hblt)).trans d1
      have e2 := (hbx.cell (by exact hblt)).trans d2
      have hszr := hbx.size
      clear hkg hbx d1 d2 hcc
      generalize l[k] = p at *
      rcases p with ⟨pk, pv⟩
      obtain ⟨wo, rfl⟩ : ∃ wo : World, wo = wr := ⟨_, rfl⟩
      go_wp2
      go_loopg [17] o.length (fun g2 j wy => ∃ m : Nat, m + g2 = o.length ∧ j = .int .i64 m ∧ Aside ((o.take m).any (eqP ⟨pk, pv⟩) = false) ∧ Below (wo.heap.size + 1) (wo.alloc (.cells #[.string pk, .string pv] 89)) wy)
      case atStart => exact ⟨0, by omega, rfl, by show _ = _; simp, Below.refl _ _⟩
      case round =>
        obtain ⟨m, hmg, rfl, HB, hby⟩ := hrel
        have p0 : wr.cell? ⟨wo.heap.size, 0, none⟩ = some (.string pk) := by rw [hby.cell (by simp)]; simp [go_sem]
        have p1 : wr.cell? ⟨wo.heap.size, 1, none⟩ = some (.string pv) := by rw [hby.cell (by simp)]; simp [go_sem]
        have hszy := hby.size
        simp at hszy
        have HY := Lib.hid hby
        have HW : Hid (Below w.heap.size w wr) := (HX.out.alloc hszr _).trans (hby.mono (by omega))
        cases gk with
        | zero =>
          obtain rfl : m = o.length := by omega
          have HN : Hid (amongB l o = false) := HM.out (by
            have := HB.out
            rw [List.take_length] at this
            exact this)
          clear hmg hby
          go_wp2
          rw [Exit.noGoto_ret]
          go_ret
          exact ⟨by rw [HN.out]; rfl, HW.out⟩
        | succ g2 =>
          have hlm : m < o.length := by omega
          have HG2 := Lib.hid hmg
          have HS2 := Lib.hid (any_snoc (eqP ⟨pk, pv⟩) o m hlm)
          have HH := Lib.hid (in_hit o ⟨pk, pv⟩ m hlm)
          obtain ⟨b2, off2, rfl, hblt2, hcc2⟩ := HC2.out (by omega)
          obtain ⟨d1, d2⟩ := hcc2 m hlm
          have q1 := (HW.out.cell (by exact hblt2)).trans d1
          have q2 := (HW.out.cell (by exact hblt2)).trans d2
          clear hmg hby d1 d2 hcc2
          generalize o[m] = q at *
          rcases q with ⟨qk, qv⟩
          have hne : wo.heap.size ≠ wr.heap.size := by omega
          have r0 : ∀ o, (wr.alloc o).cell? ⟨wo.heap.size, 0, none⟩ = some (.string pk) := fun o => by rw [World.cell?_alloc_lt _ _ _ (by show wo.heap.size < _; omega)]; exact p0
          have r1 : ∀ o, (wr.alloc o).cell? ⟨wo.heap.size, 1, none⟩ = some (.string pv) := fun o => by rw [World.cell?_alloc_lt _ _ _ (by show wo.heap.size < _; omega)]; exact p1
          have hq := eql_pair pk pv qk qv
          cases hb : eqP ⟨pk, pv⟩ ⟨qk, qv⟩
          · rw [hb] at hq HS2
            clear hb
            go_wp2
            go_roundg g2
            case measure => omega
            case rel => exact ⟨m + 1, by have := HG2.out; omega, by go_num, by show _ = _; rw [HS2.out, HB.out]; rfl, HY.out.alloc (by omega) _⟩
          · rw [hb] at hq
            have HI := Lib.hid (HH.out hb)
            clear hb
            go_wp2
            go_roundg g
            case measure => omega
            case rel => exact ⟨k + 1, by have := HG.out; omega, by go_num, by show _ = _; rw [HS.out, HA.out, HI.out]; rfl, HW.out.alloc (by omega) _⟩
end Rg
end Go.Proofs.YthbmnkeigmbbdaaGreat
