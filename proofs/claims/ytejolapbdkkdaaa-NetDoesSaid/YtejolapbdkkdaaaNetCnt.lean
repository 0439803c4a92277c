/-
  gafferlaw18.count: how often a packet is one of some.
-/
import Derived.Test.YtejolapbdkkdaaaNetRef
namespace Go.Proofs.Ytejolapbdkkdaaa
open Go.RowKit Go.Lib
namespace Nt
open Rw
set_option linter.unusedVariables false
def eqk (p x : Pk) : Bool := eqP x.f x.t x.d p.f p.t p.d
def cntP (p : Pk) (l : List Pk) : Nat := (l.filter (eqk p)).length
theorem cnt_le (p : Pk) (l : List Pk) : cntP p l ≤ l.length := List.length_filter_le _ _
theorem cnt_at (p : Pk) (l : List Pk) (k : Nat) (h : k < l.length) : cntP p (l.take (k + 1)) = cntP p (l.take k) + (if eqk p l[k] then 1 else 0) := by
  unfold cntP
  rw [List.take_succ_eq_append_getElem h, List.filter_append, List.length_append]
  cases hq : eqk p l[k] <;> simp [hq]
set_option maxHeartbeats 2000000 in
set_option maxRecDepth 100000 in
theorem the_count (v : Value) (l : List Pk) (p : Pk) (w : World) {A : Nat} (h : Sl w A w.heap.size v l) :
    Calls Try.prog 20 #[v, .agg #[.int .i64 p.f, .int .i64 p.t, .string p.d]] w fun e w' => e = .returned (.int .i64 (cntP p l : Nat)) ∧ Below w.heap.size w w' := by
  rcases p with ⟨pf, pt, pd⟩
  dsimp only
  have hln := h.len
  have HP0 := Lib.hid (at_new w (⟨pf, pt, pd⟩ : Pk) 30)
  have HBX := Lib.hid (al w (.cells #[.int .i64 pf, .int .i64 pt, .string pd] 30))
  obtain ⟨a, c, rfl, -, -, -, hc⟩ := h
  have HC := Lib.hid hc
  clear hc
  go_enter Try.func20, Try.ntmps20
  go_wp2
  go_loopg [5, 10] l.length (fun gg n i wx => ∃ k : Nat, k + gg = l.length ∧ n = .int .i64 (cntP ⟨pf, pt, pd⟩ (l.take k) : Nat) ∧ i = .int .i64 k ∧ Aside (Below w.heap.size w wx) ∧ Aside (At wx w.heap.size 0 (⟨pf, pt, pd⟩ : Pk)) ∧ Aside (w.heap.size < wx.heap.size))
  case atStart => exact ⟨0, by omega, rfl, rfl, HBX.out, HP0.out, by show _ < _; simp⟩
  case round =>
    obtain ⟨k, hkg, rfl, rfl, HB, HP, HZ⟩ := hrel
    cases gk with
    | zero =>
      obtain rfl : k = l.length := by omega
      clear hkg
      go_wp2
      go_ret
      exact ⟨by first | rfl | simp, HB.out⟩
    | succ gg =>
      have hlt : k < l.length := by omega
      have hlt2 : (k : Int) < (l.length : Int) := by omega
      obtain ⟨b, off, rfl, hA, hb, hcell⟩ := HC.out (by omega)
      obtain ⟨x0, x1, x2⟩ := at_pk ((hcell k hlt).keep HB.out hb)
      have x0 : wr.cell? ⟨b, off + k * 3, none⟩ = some (.int .i64 l[k].f) := x0
      have x1 : wr.cell? ⟨b, off + k * 3 + 1, none⟩ = some (.int .i64 l[k].t) := x1
      have x2 : wr.cell? ⟨b, off + k * 3 + 2, none⟩ = some (.string l[k].d) := x2
      have HM := Lib.hid (cnt_at ⟨pf, pt, pd⟩ l k hlt)
      have hcl := cnt_le ⟨pf, pt, pd⟩ (l.take k)
      rw [List.length_take] at hcl
      have tk : IntKind.i64.wrap ((k : Int) + 1) = (k : Int) + 1 := by rw [IntKind.wrap_i64]; omega
      clear hcell hA
      generalize l[k] = x at *
      rcases x with ⟨f, t, d⟩
      dsimp only at x0 x1 x2
      have HB2 := Lib.hid (HB.out.alloc HB.out.size (.cells #[.int .i64 f, .int .i64 t, .string d] 30))
      have HP2 := Lib.hid (HP.out.keep (al wr (.cells #[.int .i64 f, .int .i64 t, .string d] 30)) HZ.out)
      obtain ⟨y0, y1, y2⟩ := at_pk HP2.out
      have hz2 : w.heap.size < (wr.alloc (.cells #[.int .i64 f, .int .i64 t, .string d] 30)).heap.size := by rw [World.size_alloc]; have := HZ.out; omega
      have HZ2 := Lib.hid hz2
      have HQ : Hid (eqk ⟨pf, pt, pd⟩ ⟨f, t, d⟩ = eqP f t d pf pt pd) := rfl
      have gp := guard_pk
      have hq := eql_pk f t d pf pt pd
      clear hz2 hb
      generalize hcn : cntP ⟨pf, pt, pd⟩ (l.take k) = cn at *
      have HCN := Lib.hid hcn
      clear hcn
      have tc : IntKind.i64.wrap ((cn : Int) + 1) = (cn : Int) + 1 := by rw [IntKind.wrap_i64]; omega
      have HK := Lib.hid hkg
      clear hkg hcl
      cases hbb : eqP f t d pf pt pd
      · rw [hbb] at hq HQ
        have HE : Hid (cntP ⟨pf, pt, pd⟩ (l.take (k + 1)) = cn) := HM.out.trans (by rw [HQ.out]; simp)
        clear hbb
        go_wp2
        go_roundg gg
        case measure => omega
        case rel => exact ⟨k + 1, by have := HK.out; omega, by rw [HE.out], by simp, HB2.out, HP2.out, HZ2.out⟩
      · rw [hbb] at hq HQ
        have HE : Hid (cntP ⟨pf, pt, pd⟩ (l.take (k + 1)) = cn + 1) := HM.out.trans (by rw [HQ.out]; simp)
        clear hbb
        go_wp2
        go_roundg gg
        case measure => omega
        case rel => exact ⟨k + 1, by have := HK.out; omega, by rw [HE.out]; simp, by simp, HB2.out, HP2.out, HZ2.out⟩
/-! ### counting -/
theorem eqk_iff (p x : Pk) : eqk p x = true ↔ x = p := by
  rcases p with ⟨a, b, c⟩
  rcases x with ⟨d, e, f⟩
  exact eqP_iff
theorem cnt_erase (l : List Pk) (k : Nat) (h : k < l.length) : cntP l[k] l = cntP l[k] (l.eraseIdx k) + 1 := by
  obtain ⟨p, hp⟩ : ∃ p, p = l[k] := ⟨_, rfl⟩
  have e : l = l.take k ++ p :: l.drop (k + 1) := by rw [hp, ← List.drop_eq_getElem_cons h, List.take_append_drop]
  have h1 : eqk p p = true := (eqk_iff _ _).2 rfl
  rw [← hp]
  unfold cntP
  rw [List.eraseIdx_eq_take_drop_succ]
  conv => lhs; rw [e]
  simp [List.filter_append, h1]
  omega
theorem cnt_snoc (l : List Pk) (p : Pk) : cntP p (l ++ [p]) = cntP p l + 1 := by
  have h1 : eqk p p = true := (eqk_iff _ _).2 rfl
  unfold cntP
  simp [List.filter_append, h1]
theorem cnt_pos {l : List Pk} {p : Pk} (h : p ∈ l) : 0 < cntP p l := by
  unfold cntP
  exact List.length_pos_of_mem (List.mem_filter.2 ⟨h, (eqk_iff _ _).2 rfl⟩)
end Nt
end Go.Proofs.Ytejolapbdkkdaaa
