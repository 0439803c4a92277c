/-
  WHERE ONE IS AMONG STRINGS, AMONG LOADS: slices.Index, slices.Contains, slices.IndexFunc.
-/
import Derived.Test.YthbmnkeigmbbdaaGreatQeF
namespace Go.Proofs.YthbmnkeigmbbdaaGreat
open Go.RowKit Go.Lib
namespace Bo
open Rw
set_option linter.unusedVariables false
set_option maxRecDepth 100000 in
set_option maxHeartbeats 4000000 in
theorem index_s (v : Value) (l : List ByteArray) (n : ByteArray) (w : World) {A : Nat} (hv : Sl w A w.heap.size v l) :
    Calls Tryz.prog 171 #[v, .string n] w fun e w' => IxIs (hasK l n) e ∧ Below w.heap.size w w' := by
  obtain ⟨a, c, rfl, hcap, -, hlen, hc⟩ := hv
  have HC := Lib.hid hc
  have HR1 := Lib.hid (fun h k => IxIs.yes (b := hasK l n) h k)
  have HR2 := Lib.hid (fun h => IxIs.no (b := hasK l n) h)
  clear hc
  go_enter Tryz.func171, Tryz.ntmps171
  go_wp2
  go_loopg [8] l.length (fun gg i wx => ∃ k : Nat, k + gg = l.length ∧ i = .int .i64 k ∧ Aside (hasK (l.take k) n = false) ∧ Aside (Below w.heap.size w wx))
  case atStart => exact ⟨0, by omega, rfl, by show _ = _; rfl, Below.refl _ _⟩
  case round =>
    obtain ⟨k, hkg, rfl, HA, HB⟩ := hrel
    cases gk with
    | zero =>
      obtain rfl : k = l.length := by omega
      have HT : Hid (hasK l n = false) := by have := HA.out; rwa [List.take_length] at this
      clear hkg
      go_wp2
      go_ret
      exact ⟨HR2.out HT.out, HB.out⟩
    | succ gg =>
      have hlk : k < l.length := by omega
      have t2 : (k : Int) < (l.length : Int) := by omega
      have t3 : IntKind.i64.wrap ((k : Int) + 1) = (k : Int) + 1 := by rw [IntKind.wrap_i64]; omega
      have t4 : (0 : Int) ≤ (k : Int) := by omega
      obtain ⟨b, off, rfl, -, hblt, hcc⟩ := HC.out (by omega)
      have p0 : w.cell? ⟨b, off + k * 1 + 0, none⟩ = some (.string l[k]) := hcc k hlk 0 _ rfl
      rw [Nat.mul_one, Nat.add_zero] at p0
      have e0 : wr.cell? ⟨b, off + k, none⟩ = some (.string l[k]) := (HB.out.cell (by exact hblt)).trans p0
      have HM : Hid (l[k] = n → hasK l n = true) := fun h => has_iff.2 (h ▸ List.getElem_mem hlk)
      have HN : Hid (hasK (l.take (k + 1)) n = (hasK (l.take k) n || decide (l[k] = n))) := by
        show _ = _
        unfold hasK
        rw [List.take_succ_eq_append_getElem hlk, List.any_append, List.any_cons, List.any_nil, Bool.or_false]
      clear p0 hcc
      generalize l[k] = y at *
      by_cases he : n = y
      · have hs : (n.toList == y.toList) = true := by rw [he]; simp
        have hs2 : n.toList = y.toList := by rw [he]
        have HT : Hid (hasK l n = true) := HM.out he.symm
        clear he HM HN
        go_wp2
        go_ret
        exact ⟨HR1.out HT.out k, HB.out⟩
      · have hs : (n.toList == y.toList) = false := (Hd.ba_no he).1
        have hs2 : ¬ n.toList = y.toList := (Hd.ba_no he).2
        have HT : Hid (hasK (l.take (k + 1)) n = false) := by show _ = _; rw [HN.out, HA.out, decide_eq_false (fun h => he h.symm)]; rfl
        clear he HM HN
        go_wp2
        go_roundg gg
        case measure => omega
        case rel => exact ⟨k + 1, by omega, by simp, HT.out, HB.out⟩
set_option maxRecDepth 100000 in
set_option maxHeartbeats 4000000 in
theorem contains_s (v : Value) (l : List ByteArray) (n : ByteArray) (w : World) {A : Nat} (hv : Sl w A w.heap.size v l) :
    Calls Tryz.prog 107 #[v, .string n] w fun e w' => e = .returned (.bool (hasK l n)) ∧ Below w.heap.size w w' := by
  have HX := Lib.hid (index_s v l n w hv)
  obtain ⟨a, c, rfl⟩ := hv.slice
  clear hv
  cases hq : hasK l n
  all_goals
    have HQ := Lib.hid hq
    clear hq
    go_enter Tryz.func107, Tryz.ntmps107
    go_wp2_with fail
    refine HX.out.mono ?_
    rintro e w1 ⟨⟨r, rfl, hd, -⟩, hb⟩
    rw [HQ.out] at hd
    have HB := Lib.hid hb
    clear hb
    go_wp2
    go_ret
    exact ⟨rfl, HB.out⟩
/-- Which is the first of them for which f. -/
def FirstIs (l : List LdM) (f : LdM → Bool) (e : Ending) : Prop := (l.any f = false ∧ e = .returned (.int .i64 (-1))) ∨ ∃ k : Nat, k < l.length ∧ (l.take k).any f = false ∧ (l.take (k + 1)).any f = true ∧ e = .returned (.int .i64 k)
theorem at_ld {w : World} {g o : Nat} {y : LdM} (h : At w g o y) : w.cell? ⟨g, o, none⟩ = some (.string y.x.nd.n) ∧ w.cell? ⟨g, o + 1, none⟩ = some (.int .i64 y.x.nd.z0) ∧ w.cell? ⟨g, o + 2, none⟩ = some (.int .i64 y.x.nd.z1) ∧ w.cell? ⟨g, o + 3, none⟩ = some (.int .i64 y.x.nd.z2) ∧ w.cell? ⟨g, o + 4, none⟩ = some (.slice y.x.a2 y.x.nd.ls.length y.x.c2) ∧ w.cell? ⟨g, o + 5, none⟩ = some (.slice y.x.a3 y.x.nd.ts.length y.x.c3) ∧ w.cell? ⟨g, o + 6, none⟩ = some (.int .i64 y.u0) ∧ w.cell? ⟨g, o + 7, none⟩ = some (.int .i64 y.u1) ∧ w.cell? ⟨g, o + 8, none⟩ = some (.int .i64 y.u2) := ⟨h 0 _ rfl, h 1 _ rfl, h 2 _ rfl, h 3 _ rfl, h 4 _ rfl, h 5 _ rfl, h 6 _ rfl, h 7 _ rfl, h 8 _ rfl⟩
set_option maxRecDepth 100000 in
set_option maxHeartbeats 4000000 in
theorem index_l (fn : FuncId) (hE : ∀ args z, (callFunc fn args).run Tryz.prog z = .ok (.enter fn args) z) (c0 : Value) (f : LdM → Bool) (v : Value) (l : List LdM) (w : World) {A : Nat} (hv : Sl w A w.heap.size v l)
    (hf : ∀ y ∈ l, ∀ z, Below w.heap.size w z → Calls Tryz.prog fn #[.agg #[.string y.x.nd.n, .int .i64 y.x.nd.z0, .int .i64 y.x.nd.z1, .int .i64 y.x.nd.z2, .slice y.x.a2 y.x.nd.ls.length y.x.c2, .slice y.x.a3 y.x.nd.ts.length y.x.c3, .int .i64 y.u0, .int .i64 y.u1, .int .i64 y.u2], c0] z fun e z' => e = .returned (.bool (f y)) ∧ Below z.heap.size z z') :
    Calls Tryz.prog 170 #[v, .func (.func fn) #[] #[c0]] w fun e w' => FirstIs l f e ∧ Below w.heap.size w w' := by
  obtain ⟨a, c, rfl, hcap, -, hlen, hc⟩ := hv
  have HC := Lib.hid hc
  have HF := Lib.hid hf
  have HR1 : Hid (∀ k : Nat, k < l.length → (l.take k).any f = false → (l.take (k + 1)).any f = true → FirstIs l f (.returned (.int .i64 k))) := fun k h1 h2 h3 => .inr ⟨k, h1, h2, h3, rfl⟩
  have HR2 : Hid (l.any f = false → FirstIs l f (.returned (.int .i64 (-1)))) := fun h => .inl ⟨h, rfl⟩
  clear hc hf
  go_enter Tryz.func170, Tryz.ntmps170
  go_wp2
  go_loopg [8] l.length (fun gg i wx => ∃ k : Nat, k + gg = l.length ∧ i = .int .i64 k ∧ Aside ((l.take k).any f = false) ∧ Aside (Below w.heap.size w wx))
  case atStart => exact ⟨0, by omega, rfl, by show _ = _; simp, Below.refl _ _⟩
  case round =>
    obtain ⟨k, hkg, rfl, HA, HB⟩ := hrel
    cases gk with
    | zero =>
      obtain rfl : k = l.length := by omega
      have HT : Hid (l.any f = false) := by have := HA.out; rwa [List.take_length] at this
      clear hkg
      go_wp2
      go_ret
      exact ⟨HR2.out HT.out, HB.out⟩
    | succ gg =>
      have hlk : k < l.length := by omega
      have t2 : (k : Int) < (l.length : Int) := by omega
      have t3 : IntKind.i64.wrap ((k : Int) + 1) = (k : Int) + 1 := by rw [IntKind.wrap_i64]; omega
      obtain ⟨b, off, rfl, -, hblt, hcc⟩ := HC.out (by omega)
      obtain ⟨d0, d1, d2, d3, d4, d5, d6, d7, d8⟩ := at_ld (show At w b (off + k * 9) l[k] from hcc k hlk)
      have HK := Lib.hid (HF.out l[k] (List.getElem_mem hlk) _ HB.out)
      have HN : Hid ((l.take (k + 1)).any f = ((l.take k).any f || f l[k])) := by
        show _ = _
        rw [List.take_succ_eq_append_getElem hlk, List.any_append]
        simp
      have HLK := Lib.hid hlk
      generalize l[k] = y at *
      have e0 : wr.cell? ⟨b, off + k * 9, none⟩ = some (.string y.x.nd.n) := (HB.out.cell (by exact hblt)).trans d0
      have e1 : wr.cell? ⟨b, off + k * 9 + 1, none⟩ = some (.int .i64 y.x.nd.z0) := (HB.out.cell (by exact hblt)).trans d1
      have e2 : wr.cell? ⟨b, off + k * 9 + 2, none⟩ = some (.int .i64 y.x.nd.z1) := (HB.out.cell (by exact hblt)).trans d2
      have e3 : wr.cell? ⟨b, off + k * 9 + 3, none⟩ = some (.int .i64 y.x.nd.z2) := (HB.out.cell (by exact hblt)).trans d3
      have e4 : wr.cell? ⟨b, off + k * 9 + 4, none⟩ = some (.slice y.x.a2 y.x.nd.ls.length y.x.c2) := (HB.out.cell (by exact hblt)).trans d4
      have e5 : wr.cell? ⟨b, off + k * 9 + 5, none⟩ = some (.slice y.x.a3 y.x.nd.ts.length y.x.c3) := (HB.out.cell (by exact hblt)).trans d5
      have e6 : wr.cell? ⟨b, off + k * 9 + 6, none⟩ = some (.int .i64 y.u0) := (HB.out.cell (by exact hblt)).trans d6
      have e7 : wr.cell? ⟨b, off + k * 9 + 7, none⟩ = some (.int .i64 y.u1) := (HB.out.cell (by exact hblt)).trans d7
      have e8 : wr.cell? ⟨b, off + k * 9 + 8, none⟩ = some (.int .i64 y.u2) := (HB.out.cell (by exact hblt)).trans d8
      clear hcc d0 d1 d2 d3 d4 d5 d6 d7 d8
      cases hfx : f y
      · have HT : Hid ((l.take (k + 1)).any f = false) := by show _ = _; rw [HN.out, HA.out, hfx]; rfl
        rw [hfx] at HK
        clear hfx HN
        go_wp2_with fail
        refine HK.out.mono ?_
        rintro e w2 ⟨rfl, hb2⟩
        have HB2 : Hid (Below w.heap.size w w2) := HB.out.trans (hb2.mono HB.out.size)
        clear hb2
        go_wp2
        go_roundg gg
        case measure => omega
        case rel => exact ⟨k + 1, by omega, by simp, HT.out, HB2.out⟩
      · have HT : Hid ((l.take (k + 1)).any f = true) := by show _ = _; rw [HN.out, hfx, Bool.or_true]
        rw [hfx] at HK
        clear hfx HN
        go_wp2_with fail
        refine HK.out.mono ?_
        rintro e w2 ⟨rfl, hb2⟩
        have HB2 : Hid (Below w.heap.size w w2) := HB.out.trans (hb2.mono HB.out.size)
        clear hb2
        go_wp2
        go_ret
        exact ⟨HR1.out k HLK.out HA.out HT.out, HB2.out⟩
end Bo
end Go.Proofs.YthbmnkeigmbbdaaGreat
