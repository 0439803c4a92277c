/-
  Merged: BoConN, BoConT, BoConB.
-/
import Derived.Test.YthbmnkeigmbbdaaGreatBoFindN
import Derived.Test.YthbmnkeigmbbdaaGreatBoFindT
import Derived.Test.YthbmnkeigmbbdaaGreatBoFindB
/-
  WHETHER ONE IS AMONG NODES: slices.IndexFunc, slices.ContainsFunc; book.right.
-/
namespace Go.Proofs.YthbmnkeigmbbdaaGreat
open Go.RowKit Go.Lib
namespace Bo
open Rw
set_option linter.unusedVariables false
set_option maxHeartbeats 1000000 in
set_option maxRecDepth 100000 in
theorem index_n (fn : FuncId) (hE : ∀ args z, (callFunc fn args).run Tryz.prog z = .ok (.enter fn args) z) (c0 : Value) (f : NdM → Bool) (v : Value) (l : List NdM) (w : World) {A : Nat} (hv : Sl w A w.heap.size v l)
    (hf : ∀ x ∈ l, ∀ z, Below w.heap.size w z → Calls Tryz.prog fn #[.agg #[.string x.nd.n, .int .i64 x.nd.z0, .int .i64 x.nd.z1, .int .i64 x.nd.z2, .slice x.a2 x.nd.ls.length x.c2, .slice x.a3 x.nd.ts.length x.c3], c0] z fun e z' => e = .returned (.bool (f x)) ∧ Below z.heap.size z z') :
    Calls Tryz.prog 179 #[v, .func (.func fn) #[] #[c0]] w fun e w' => IxIs (l.any f) e ∧ Below w.heap.size w w' := by
  obtain ⟨a, c, rfl, hcap, -, hlen, hc⟩ := hv
  have HC := Lib.hid hc
  have HF := Lib.hid hf
  have HR1 := Lib.hid (fun h k => IxIs.yes (b := l.any f) h k)
  have HR2 := Lib.hid (fun h => IxIs.no (b := l.any f) h)
  clear hc hf
  go_enter Tryz.func179, Tryz.ntmps179
  go_wp2
  go_loopg [8] l.length (fun gg i wx => ∃ k : Nat, k + gg = l.length ∧ i = .int .i64 k ∧ Aside ((l.take k).any f = false) ∧ Aside (Below w.heap.size w wx))
  case atStart => exact ⟨0, by omega, rfl, by show _ = _; simp, Below.refl _ _⟩
  case round =>
    obtain ⟨k, hkg, rfl, HA, HB⟩ := hrel
    cases gk with
    | zero =>
      obtain rfl : k = l.length := by omega
      have HT : Hid (l.any f = false) := by have := HA.out; rwa [List.take_length] at this
      clear hkg
      go_wp2
      go_ret
      exact ⟨HR2.out HT.out, HB.out⟩
    | succ gg =>
      have hlk : k < l.length := by omega
      have t2 : (k : Int) < (l.length : Int) := by omega
      have t3 : IntKind.i64.wrap ((k : Int) + 1) = (k : Int) + 1 := by rw [IntKind.wrap_i64]; omega
      obtain ⟨b, off, rfl, -, hblt, hcc⟩ := HC.out (by omega)
      have hat : At w b (off + k * 6) l[k] := hcc k hlk
      have HX := HB
      obtain ⟨d0, d1, d2, d3, d4, d5⟩ := at_nd hat
      have e0 := (HX.out.cell (by exact hblt)).trans d0; have e1 := (HX.out.cell (by exact hblt)).trans d1; have e2 := (HX.out.cell (by exact hblt)).trans d2; have e3 := (HX.out.cell (by exact hblt)).trans d3; have e4 := (HX.out.cell (by exact hblt)).trans d4; have e5 := (HX.out.cell (by exact hblt)).trans d5; clear d0 d1 d2 d3 d4 d5
      have HK := Lib.hid (HF.out l[k] (List.getElem_mem hlk) _ HB.out)
      have HM : Hid (f l[k] = true → l.any f = true) := fun h => List.any_eq_true.2 ⟨_, List.getElem_mem hlk, h⟩
      have HN : Hid ((l.take (k + 1)).any f = ((l.take k).any f || f l[k])) := by
        show _ = _
        rw [List.take_succ_eq_append_getElem hlk, List.any_append]
        simp
      clear hat hcc
      generalize l[k] = x at *
      cases hfx : f x
      · have HT : Hid ((l.take (k + 1)).any f = false) := by show _ = _; rw [HN.out, HA.out, hfx]; rfl
        rw [hfx] at HK
        clear hfx HM HN
        go_wp2_with fail
        refine HK.out.mono ?_
        rintro e w2 ⟨rfl, hb2⟩
        have HB2 : Hid (Below w.heap.size w w2) := HB.out.trans (hb2.mono HB.out.size)
        clear hb2
        go_wp2
        go_roundg gg
        case measure => omega
        case rel => exact ⟨k + 1, by omega, by simp, HT.out, HB2.out⟩
      · have HT : Hid (l.any f = true) := HM.out hfx
        rw [hfx] at HK
        clear hfx HM HN
        go_wp2_with fail
        refine HK.out.mono ?_
        rintro e w2 ⟨rfl, hb2⟩
        have HB2 : Hid (Below w.heap.size w w2) := HB.out.trans (hb2.mono HB.out.size)
        clear hb2
        go_wp2
        go_ret
        exact ⟨HR1.out HT.out k, HB2.out⟩
set_option maxHeartbeats 1000000 in
theorem contains_n (fn : FuncId) (hE : ∀ args z, (callFunc fn args).run Tryz.prog z = .ok (.enter fn args) z) (c0 : Value) (f : NdM → Bool) (v : Value) (l : List NdM) (w : World) {A : Nat} (hv : Sl w A w.heap.size v l)
    (hf : ∀ x ∈ l, ∀ z, Below w.heap.size w z → Calls Tryz.prog fn #[.agg #[.string x.nd.n, .int .i64 x.nd.z0, .int .i64 x.nd.z1, .int .i64 x.nd.z2, .slice x.a2 x.nd.ls.length x.c2, .slice x.a3 x.nd.ts.length x.c3], c0] z fun e z' => e = .returned (.bool (f x)) ∧ Below z.heap.size z z') :
    Calls Tryz.prog 115 #[v, .func (.func fn) #[] #[c0]] w fun e w' => e = .returned (.bool (l.any f)) ∧ Below w.heap.size w w' := by
  have HX := Lib.hid (index_n fn hE c0 f v l w hv hf)
  obtain ⟨a, c, rfl⟩ := hv.slice
  clear hf hv
  cases hq : l.any f
  all_goals
    have HQ := Lib.hid hq
    clear hq
    go_enter Tryz.func115, Tryz.ntmps115
    go_wp2_with fail
    refine HX.out.mono ?_
    rintro e w1 ⟨⟨r, rfl, hd, -⟩, hb⟩
    rw [HQ.out] at hd
    have HB := Lib.hid hb
    clear hb
    go_wp2
    go_ret
    exact ⟨rfl, HB.out⟩

/-- Why a node is not right. -/
def erN (n : Hd.Nd) : Nat := Rg.nodeE n.n n.z0 n.z1 n.z2 n.ls n.ts
def okN (n : Hd.Nd) : Bool := decide (erN n = 0)
theorem chk_n (x : NdM) (w : World) (h : DeepN w w.heap.size x) (hf : FitN x.nd) :
    Calls Tryz.prog 61 #[.agg #[.string x.nd.n, .int .i64 x.nd.z0, .int .i64 x.nd.z1, .int .i64 x.nd.z2, .slice x.a2 x.nd.ls.length x.c2, .slice x.a3 x.nd.ts.length x.c3]] w fun e w' => e = .returned (.int .i64 (erN x.nd : Nat)) ∧ Below w.heap.size w w' :=
  Rg.node_any _ _ _ _ _ _ _ _ _ _ _ _ w hf.1 (h.pr hf).1 (h.pr hf).2

set_option maxHeartbeats 1000000 in
theorem wrong_n (x : NdM) (r : Bool) (g : Nat) (w z : World) (hd : DeepN w w.heap.size x) (hfit : FitN x.nd) (hr : okN x.nd = !r) (hg : w.cell? ⟨g, 0, none⟩ = some (.func (.func 61) #[] #[])) (hz : Below w.heap.size w z) :
    Calls Tryz.prog 114 #[.agg #[.string x.nd.n, .int .i64 x.nd.z0, .int .i64 x.nd.z1, .int .i64 x.nd.z2, .slice x.a2 x.nd.ls.length x.c2, .slice x.a3 x.nd.ts.length x.c3], .pointer (some ⟨g, 0, none⟩)] z fun e z' => e = .returned (.bool r) ∧ Below z.heap.size z z' := by
  have hE : ∀ args z, (callFunc 61 args).run Tryz.prog z = .ok (.enter 61 args) z := enters_of Tryz.func61 (by kernel_rfl) rfl
  have HK : Hid (∀ y, Below w.heap.size w y → Calls Tryz.prog 61 #[.agg #[.string x.nd.n, .int .i64 x.nd.z0, .int .i64 x.nd.z1, .int .i64 x.nd.z2, .slice x.a2 x.nd.ls.length x.c2, .slice x.a3 x.nd.ts.length x.c3]] y fun e w' => e = .returned (.int .i64 (erN x.nd : Nat)) ∧ Below y.heap.size y w') := fun y hy => chk_n x y (hd.on hy) hfit
  have hgl := World.block_lt_of_cell? w _ hg
  have h1 : (z.alloc (.cells #[.string x.nd.n, .int .i64 x.nd.z0, .int .i64 x.nd.z1, .int .i64 x.nd.z2, .slice x.a2 x.nd.ls.length x.c2, .slice x.a3 x.nd.ts.length x.c3] 45)).cell? ⟨g, 0, none⟩ = some (.func (.func 61) #[] #[]) := cell_old _ ((hz.cell (by exact hgl)).trans hg)
  have HZ : Hid (Below w.heap.size w (z.alloc (.cells #[.string x.nd.n, .int .i64 x.nd.z0, .int .i64 x.nd.z1, .int .i64 x.nd.z2, .slice x.a2 x.nd.ls.length x.c2, .slice x.a3 x.nd.ts.length x.c3] 45))) := hz.alloc hz.size _
  have HZ2 : Hid (∀ y, Below (z.alloc (.cells #[.string x.nd.n, .int .i64 x.nd.z0, .int .i64 x.nd.z1, .int .i64 x.nd.z2, .slice x.a2 x.nd.ls.length x.c2, .slice x.a3 x.nd.ts.length x.c3] 45)).heap.size (z.alloc (.cells #[.string x.nd.n, .int .i64 x.nd.z0, .int .i64 x.nd.z1, .int .i64 x.nd.z2, .slice x.a2 x.nd.ls.length x.c2, .slice x.a3 x.nd.ts.length x.c3] 45)) y → Below z.heap.size z y) := fun y hy => (al z _).trans (hy.mono (al z _).size)
  clear hg hd hfit
  cases r
  · have he : erN x.nd = 0 := of_decide_eq_true hr
    rw [he] at HK
    clear he hr
    go_enter Tryz.func114, Tryz.ntmps114
    go_wp2_with fail
    refine (HK.out _ HZ.out).mono ?_
    rintro e w1 ⟨rfl, hb⟩
    have HB := Lib.hid (HZ2.out _ hb)
    clear hb
    go_wp2
    go_ret
    exact ⟨rfl, HB.out⟩
  · have he : ¬ erN x.nd = 0 := of_decide_eq_false hr
    generalize erN x.nd = q at *
    have t0 : ((q : Int) == 0) = false := by simpa using he
    have t1 : ((q : Int) != 0) = true := by simpa using he
    have t2 : ¬ (q : Int) = 0 := by omega
    clear he hr
    go_enter Tryz.func114, Tryz.ntmps114
    go_wp2_with fail
    refine (HK.out _ HZ.out).mono ?_
    rintro e w1 ⟨rfl, hb⟩
    have HB := Lib.hid (HZ2.out _ hb)
    clear hb
    go_wp2
    go_ret
    exact ⟨rfl, HB.out⟩
/-- Whether such a list is right. -/
def rightN (l : List Hd.Nd) : Bool := decide (l.length ≤ 16) && (l.all okN && risB (l.map (·.n)))
set_option maxHeartbeats 1000000 in
theorem right_n (v : Value) (l : List Hd.Nd) (w : World) (hv : Nds w w.heap.size v l) :
    Calls Tryz.prog 60 #[v, .int .i64 16, .func (.func 61) #[] #[], .func (.func 62) #[] #[]] w fun e w' => e = .returned (.bool (rightN l)) ∧ Below w.heap.size w w' := by
  have hmf : ∀ (fn : Fn) (first cap : Array Value) (w : World), (Instr.makeFunc fn first cap).run Tryz.prog w = .ok (.func fn first cap) w := fun _ _ _ _ => rfl
  obtain ⟨m, rfl, hs, hdp, -⟩ := hv
  have hmap : (m.map (·.nd)).map (·.n) = m.map (·.nd.n) := by rw [List.map_map]; rfl
  have H0 := al w (.cells #[.func (.func 61) #[] #[]] 99)
  have hE : ∀ args z, (callFunc 114 args).run Tryz.prog z = .ok (.enter 114 args) z := enters_of Tryz.func114 (by kernel_rfl) rfl
  have hany : m.any (fun x => !(okN x.nd)) = !(m.map (·.nd)).all okN := by
    rw [List.all_map, List.not_all_eq_any_not]
    rfl
  have HCF : Hid (Calls Tryz.prog 115 #[v, .func (.func 114) #[] #[.pointer (some ⟨w.heap.size, 0, none⟩)]] (w.alloc (.cells #[.func (.func 61) #[] #[]] 99)) fun e w' => e = .returned (.bool (!(m.map (·.nd)).all okN)) ∧ Below w.heap.size w w') := by
    rw [← hany]
    refine (contains_n 114 hE (.pointer (some ⟨w.heap.size, 0, none⟩)) (fun x => !(okN x.nd)) v m _ (hs.on H0) (fun x hx z hz => wrong_n x _ w.heap.size _ z ((hdp x hx).1.on H0) (hdp x hx).2 (by simp) (cell_new w _ _) hz)).mono ?_
    rintro e w' ⟨he, hb⟩
    exact ⟨he, H0.trans (hb.mono H0.size)⟩
  have HRI : Hid (∀ y, Below w.heap.size w y → Calls Tryz.prog 116 #[v, .func (.func 62) #[] #[]] y fun e w' => e = .returned (.bool (risB (m.map (·.nd.n)))) ∧ Below y.heap.size y w') := fun y hy => rise_n v m y (hs.on hy)
  have HV : Hid (rightN (m.map (·.nd)) = (decide (m.length ≤ 16) && ((m.map (·.nd)).all okN && risB (m.map (·.nd.n))))) := by
    show _ = _
    unfold rightN
    rw [hmap, List.length_map]
  obtain ⟨a, c, rfl⟩ := hs.slice
  have HB0 := Lib.hid H0
  clear hany hmap hdp hs H0 hE
  generalize rightN (m.map (·.nd)) = r at *
  generalize (m.map (·.nd)).all okN = r1 at *
  generalize risB (m.map (·.nd.n)) = r2 at *
  by_cases hlen : m.length ≤ 16
  · have t0 : (m.length : Int) ≤ 16 := by omega
    have t1 : decide ((m.length : Int) ≤ 16) = true := by simpa using t0
    have HV1 : Hid (r = (r1 && r2)) := by show _ = _; rw [HV.out, decide_eq_true hlen]; rfl
    clear HV hlen
    cases r1
    · have HV2 : Hid (r = false) := HV1.out
      go_enter Tryz.func60, Tryz.ntmps60
      go_wp2_with fail
      refine HCF.out.mono ?_
      rintro e w1 ⟨rfl, hb⟩
      have HB := Lib.hid hb
      clear hb
      go_wp2
      go_ret
      exact ⟨by rw [HV2.out]; rfl, HB.out⟩
    · have HV2 : Hid (r = r2) := HV1.out
      go_enter Tryz.func60, Tryz.ntmps60
      go_wp2_with fail
      refine HCF.out.mono ?_
      rintro e w1 ⟨rfl, hb⟩
      have HB := Lib.hid hb
      clear hb
      go_wp2_with fail
      refine (HRI.out _ HB.out).mono ?_
      rintro e w2 ⟨rfl, hb⟩
      have HB2 : Hid (Below w.heap.size w w2) := HB.out.trans (hb.mono HB.out.size)
      clear hb
      go_wp2
      go_ret
      exact ⟨by rw [HV2.out]; first | rfl | simp, HB2.out⟩
  · have t0 : ¬ (m.length : Int) ≤ 16 := by omega
    have t1 : decide ((m.length : Int) ≤ 16) = false := by simpa using t0
    have HV1 : Hid (r = false) := by show _ = _; rw [HV.out, decide_eq_false hlen]; rfl
    clear HV hlen
    go_enter Tryz.func60, Tryz.ntmps60
    go_wp2
    go_ret
    exact ⟨by rw [HV1.out]; rfl, HB0.out⟩
end Bo
end Go.Proofs.YthbmnkeigmbbdaaGreat

/-
  WHETHER ONE IS AMONG TASKS: slices.IndexFunc, slices.ContainsFunc; book.right.
-/
namespace Go.Proofs.YthbmnkeigmbbdaaGreat
open Go.RowKit Go.Lib
namespace Bo
open Rw
set_option linter.unusedVariables false
set_option maxHeartbeats 1000000 in
set_option maxRecDepth 100000 in
theorem index_t (fn : FuncId) (hE : ∀ args z, (callFunc fn args).run Tryz.prog z = .ok (.enter fn args) z) (c0 : Value) (f : TdM → Bool) (v : Value) (l : List TdM) (w : World) {A : Nat} (hv : Sl w A w.heap.size v l)
    (hf : ∀ x ∈ l, ∀ z, Below w.heap.size w z → Calls Tryz.prog fn #[.agg #[.string x.td.n, .int .i64 x.td.z0, .int .i64 x.td.z1, .int .i64 x.td.z2, .slice x.a4 x.td.ws.length x.c4, .slice x.a5 x.td.bs.length x.c5, .string x.td.g, .string x.td.a, .int .i64 x.td.r], c0] z fun e z' => e = .returned (.bool (f x)) ∧ Below z.heap.size z z') :
    Calls Tryz.prog 86 #[v, .func (.func fn) #[] #[c0]] w fun e w' => IxIs (l.any f) e ∧ Below w.heap.size w w' := by
  obtain ⟨a, c, rfl, hcap, -, hlen, hc⟩ := hv
  have HC := Lib.hid hc
  have HF := Lib.hid hf
  have HR1 := Lib.hid (fun h k => IxIs.yes (b := l.any f) h k)
  have HR2 := Lib.hid (fun h => IxIs.no (b := l.any f) h)
  clear hc hf
  go_enter Tryz.func86, Tryz.ntmps86
  go_wp2
  go_loopg [8] l.length (fun gg i wx => ∃ k : Nat, k + gg = l.length ∧ i = .int .i64 k ∧ Aside ((l.take k).any f = false) ∧ Aside (Below w.heap.size w wx))
  case atStart => exact ⟨0, by omega, rfl, by show _ = _; simp, Below.refl _ _⟩
  case round =>
    obtain ⟨k, hkg, rfl, HA, HB⟩ := hrel
    cases gk with
    | zero =>
      obtain rfl : k = l.length := by omega
      have HT : Hid (l.any f = false) := by have := HA.out; rwa [List.take_length] at this
      clear hkg
      go_wp2
      go_ret
      exact ⟨HR2.out HT.out, HB.out⟩
    | succ gg =>
      have hlk : k < l.length := by omega
      have t2 : (k : Int) < (l.length : Int) := by omega
      have t3 : IntKind.i64.wrap ((k : Int) + 1) = (k : Int) + 1 := by rw [IntKind.wrap_i64]; omega
      obtain ⟨b, off, rfl, -, hblt, hcc⟩ := HC.out (by omega)
      have hat : At w b (off + k * 9) l[k] := hcc k hlk
      have HX := HB
      obtain ⟨d0, d1, d2, d3, d4, d5, d6, d7, d8⟩ := at_td hat
      have e0 := (HX.out.cell (by exact hblt)).trans d0; have e1 := (HX.out.cell (by exact hblt)).trans d1; have e2 := (HX.out.cell (by exact hblt)).trans d2; have e3 := (HX.out.cell (by exact hblt)).trans d3; have e4 := (HX.out.cell (by exact hblt)).trans d4; have e5 := (HX.out.cell (by exact hblt)).trans d5; have e6 := (HX.out.cell (by exact hblt)).trans d6; have e7 := (HX.out.cell (by exact hblt)).trans d7; have e8 := (HX.out.cell (by exact hblt)).trans d8; clear d0 d1 d2 d3 d4 d5 d6 d7 d8
      have HK := Lib.hid (HF.out l[k] (List.getElem_mem hlk) _ HB.out)
      have HM : Hid (f l[k] = true → l.any f = true) := fun h => List.any_eq_true.2 ⟨_, List.getElem_mem hlk, h⟩
      have HN : Hid ((l.take (k + 1)).any f = ((l.take k).any f || f l[k])) := by
        show _ = _
        rw [List.take_succ_eq_append_getElem hlk, List.any_append]
        simp
      clear hat hcc
      generalize l[k] = x at *
      cases hfx : f x
      · have HT : Hid ((l.take (k + 1)).any f = false) := by show _ = _; rw [HN.out, HA.out, hfx]; rfl
        rw [hfx] at HK
        clear hfx HM HN
        go_wp2_with fail
        refine HK.out.mono ?_
        rintro e w2 ⟨rfl, hb2⟩
        have HB2 : Hid (Below w.heap.size w w2) := HB.out.trans (hb2.mono HB.out.size)
        clear hb2
        go_wp2
        go_roundg gg
        case measure => omega
        case rel => exact ⟨k + 1, by omega, by simp, HT.out, HB2.out⟩
      · have HT : Hid (l.any f = true) := HM.out hfx
        rw [hfx] at HK
        clear hfx HM HN
        go_wp2_with fail
        refine HK.out.mono ?_
        rintro e w2 ⟨rfl, hb2⟩
        have HB2 : Hid (Below w.heap.size w w2) := HB.out.trans (hb2.mono HB.out.size)
        clear hb2
        go_wp2
        go_ret
        exact ⟨HR1.out HT.out k, HB2.out⟩
set_option maxHeartbeats 1000000 in
theorem contains_t (fn : FuncId) (hE : ∀ args z, (callFunc fn args).run Tryz.prog z = .ok (.enter fn args) z) (c0 : Value) (f : TdM → Bool) (v : Value) (l : List TdM) (w : World) {A : Nat} (hv : Sl w A w.heap.size v l)
    (hf : ∀ x ∈ l, ∀ z, Below w.heap.size w z → Calls Tryz.prog fn #[.agg #[.string x.td.n, .int .i64 x.td.z0, .int .i64 x.td.z1, .int .i64 x.td.z2, .slice x.a4 x.td.ws.length x.c4, .slice x.a5 x.td.bs.length x.c5, .string x.td.g, .string x.td.a, .int .i64 x.td.r], c0] z fun e z' => e = .returned (.bool (f x)) ∧ Below z.heap.size z z') :
    Calls Tryz.prog 45 #[v, .func (.func fn) #[] #[c0]] w fun e w' => e = .returned (.bool (l.any f)) ∧ Below w.heap.size w w' := by
  have HX := Lib.hid (index_t fn hE c0 f v l w hv hf)
  obtain ⟨a, c, rfl⟩ := hv.slice
  clear hf hv
  cases hq : l.any f
  all_goals
    have HQ := Lib.hid hq
    clear hq
    go_enter Tryz.func45, Tryz.ntmps45
    go_wp2_with fail
    refine HX.out.mono ?_
    rintro e w1 ⟨⟨r, rfl, hd, -⟩, hb⟩
    rw [HQ.out] at hd
    have HB := Lib.hid hb
    clear hb
    go_wp2
    go_ret
    exact ⟨rfl, HB.out⟩

/-- Why a task is not right. -/
def erT (n : Hd.Td) : Nat := Rg.taskE n.n n.g n.a n.z0 n.z1 n.z2 n.r n.ws n.bs
def okT (n : Hd.Td) : Bool := decide (erT n = 0)
theorem chk_t (x : TdM) (w : World) (h : DeepT w w.heap.size x) (hf : FitT x.td) :
    Calls Tryz.prog 64 #[.agg #[.string x.td.n, .int .i64 x.td.z0, .int .i64 x.td.z1, .int .i64 x.td.z2, .slice x.a4 x.td.ws.length x.c4, .slice x.a5 x.td.bs.length x.c5, .string x.td.g, .string x.td.a, .int .i64 x.td.r]] w fun e w' => e = .returned (.int .i64 (erT x.td : Nat)) ∧ Below w.heap.size w w' :=
  Rg.task_any _ _ _ _ _ _ _ _ _ _ _ _ _ _ _ w hf.1 (h.pr hf).1 (h.pr hf).2

set_option maxHeartbeats 1000000 in
theorem wrong_t (x : TdM) (r : Bool) (g : Nat) (w z : World) (hd : DeepT w w.heap.size x) (hfit : FitT x.td) (hr : okT x.td = !r) (hg : w.cell? ⟨g, 0, none⟩ = some (.func (.func 64) #[] #[])) (hz : Below w.heap.size w z) :
    Calls Tryz.prog 120 #[.agg #[.string x.td.n, .int .i64 x.td.z0, .int .i64 x.td.z1, .int .i64 x.td.z2, .slice x.a4 x.td.ws.length x.c4, .slice x.a5 x.td.bs.length x.c5, .string x.td.g, .string x.td.a, .int .i64 x.td.r], .pointer (some ⟨g, 0, none⟩)] z fun e z' => e = .returned (.bool r) ∧ Below z.heap.size z z' := by
  have hE : ∀ args z, (callFunc 64 args).run Tryz.prog z = .ok (.enter 64 args) z := enters_of Tryz.func64 (by kernel_rfl) rfl
  have HK : Hid (∀ y, Below w.heap.size w y → Calls Tryz.prog 64 #[.agg #[.string x.td.n, .int .i64 x.td.z0, .int .i64 x.td.z1, .int .i64 x.td.z2, .slice x.a4 x.td.ws.length x.c4, .slice x.a5 x.td.bs.length x.c5, .string x.td.g, .string x.td.a, .int .i64 x.td.r]] y fun e w' => e = .returned (.int .i64 (erT x.td : Nat)) ∧ Below y.heap.size y w') := fun y hy => chk_t x y (hd.on hy) hfit
  have hgl := World.block_lt_of_cell? w _ hg
  have h1 : (z.alloc (.cells #[.string x.td.n, .int .i64 x.td.z0, .int .i64 x.td.z1, .int .i64 x.td.z2, .slice x.a4 x.td.ws.length x.c4, .slice x.a5 x.td.bs.length x.c5, .string x.td.g, .string x.td.a, .int .i64 x.td.r] 42)).cell? ⟨g, 0, none⟩ = some (.func (.func 64) #[] #[]) := cell_old _ ((hz.cell (by exact hgl)).trans hg)
  have HZ : Hid (Below w.heap.size w (z.alloc (.cells #[.string x.td.n, .int .i64 x.td.z0, .int .i64 x.td.z1, .int .i64 x.td.z2, .slice x.a4 x.td.ws.length x.c4, .slice x.a5 x.td.bs.length x.c5, .string x.td.g, .string x.td.a, .int .i64 x.td.r] 42))) := hz.alloc hz.size _
  have HZ2 : Hid (∀ y, Below (z.alloc (.cells #[.string x.td.n, .int .i64 x.td.z0, .int .i64 x.td.z1, .int .i64 x.td.z2, .slice x.a4 x.td.ws.length x.c4, .slice x.a5 x.td.bs.length x.c5, .string x.td.g, .string x.td.a, .int .i64 x.td.r] 42)).heap.size (z.alloc (.cells #[.string x.td.n, .int .i64 x.td.z0, .int .i64 x.td.z1, .int .i64 x.td.z2, .slice x.a4 x.td.ws.length x.c4, .slice x.a5 x.td.bs.length x.c5, .string x.td.g, .string x.td.a, .int .i64 x.td.r] 42)) y → Below z.heap.size z y) := fun y hy => (al z _).trans (hy.mono (al z _).size)
  clear hg hd hfit
  cases r
  · have he : erT x.td = 0 := of_decide_eq_true hr
    rw [he] at HK
    clear he hr
    go_enter Tryz.func120, Tryz.ntmps120
    go_wp2_with fail
    refine (HK.out _ HZ.out).mono ?_
    rintro e w1 ⟨rfl, hb⟩
    have HB := Lib.hid (HZ2.out _ hb)
    clear hb
    go_wp2
    go_ret
    exact ⟨rfl, HB.out⟩
  · have he : ¬ erT x.td = 0 := of_decide_eq_false hr
    generalize erT x.td = q at *
    have t0 : ((q : Int) == 0) = false := by simpa using he
    have t1 : ((q : Int) != 0) = true := by simpa using he
    have t2 : ¬ (q : Int) = 0 := by omega
    clear he hr
    go_enter Tryz.func120, Tryz.ntmps120
    go_wp2_with fail
    refine (HK.out _ HZ.out).mono ?_
    rintro e w1 ⟨rfl, hb⟩
    have HB := Lib.hid (HZ2.out _ hb)
    clear hb
    go_wp2
    go_ret
    exact ⟨rfl, HB.out⟩
/-- Whether such a list is right. -/
def rightT (l : List Hd.Td) : Bool := decide (l.length ≤ 32) && (l.all okT && risB (l.map (·.n)))
set_option maxHeartbeats 1000000 in
theorem right_t (v : Value) (l : List Hd.Td) (w : World) (hv : Tds w w.heap.size v l) :
    Calls Tryz.prog 63 #[v, .int .i64 32, .func (.func 64) #[] #[], .func (.func 65) #[] #[]] w fun e w' => e = .returned (.bool (rightT l)) ∧ Below w.heap.size w w' := by
  have hmf : ∀ (fn : Fn) (first cap : Array Value) (w : World), (Instr.makeFunc fn first cap).run Tryz.prog w = .ok (.func fn first cap) w := fun _ _ _ _ => rfl
  obtain ⟨m, rfl, hs, hdp, -⟩ := hv
  have hmap : (m.map (·.td)).map (·.n) = m.map (·.td.n) := by rw [List.map_map]; rfl
  have H0 := al w (.cells #[.func (.func 64) #[] #[]] 102)
  have hE : ∀ args z, (callFunc 120 args).run Tryz.prog z = .ok (.enter 120 args) z := enters_of Tryz.func120 (by kernel_rfl) rfl
  have hany : m.any (fun x => !(okT x.td)) = !(m.map (·.td)).all okT := by
    rw [List.all_map, List.not_all_eq_any_not]
    rfl
  have HCF : Hid (Calls Tryz.prog 45 #[v, .func (.func 120) #[] #[.pointer (some ⟨w.heap.size, 0, none⟩)]] (w.alloc (.cells #[.func (.func 64) #[] #[]] 102)) fun e w' => e = .returned (.bool (!(m.map (·.td)).all okT)) ∧ Below w.heap.size w w') := by
    rw [← hany]
    refine (contains_t 120 hE (.pointer (some ⟨w.heap.size, 0, none⟩)) (fun x => !(okT x.td)) v m _ (hs.on H0) (fun x hx z hz => wrong_t x _ w.heap.size _ z ((hdp x hx).1.on H0) (hdp x hx).2 (by simp) (cell_new w _ _) hz)).mono ?_
    rintro e w' ⟨he, hb⟩
    exact ⟨he, H0.trans (hb.mono H0.size)⟩
  have HRI : Hid (∀ y, Below w.heap.size w y → Calls Tryz.prog 121 #[v, .func (.func 65) #[] #[]] y fun e w' => e = .returned (.bool (risB (m.map (·.td.n)))) ∧ Below y.heap.size y w') := fun y hy => rise_t v m y (hs.on hy)
  have HV : Hid (rightT (m.map (·.td)) = (decide (m.length ≤ 32) && ((m.map (·.td)).all okT && risB (m.map (·.td.n))))) := by
    show _ = _
    unfold rightT
    rw [hmap, List.length_map]
  obtain ⟨a, c, rfl⟩ := hs.slice
  have HB0 := Lib.hid H0
  clear hany hmap hdp hs H0 hE
  generalize rightT (m.map (·.td)) = r at *
  generalize (m.map (·.td)).all okT = r1 at *
  generalize risB (m.map (·.td.n)) = r2 at *
  by_cases hlen : m.length ≤ 32
  · have t0 : (m.length : Int) ≤ 32 := by omega
    have t1 : decide ((m.length : Int) ≤ 32) = true := by simpa using t0
    have HV1 : Hid (r = (r1 && r2)) := by show _ = _; rw [HV.out, decide_eq_true hlen]; rfl
    clear HV hlen
    cases r1
    · have HV2 : Hid (r = false) := HV1.out
      go_enter Tryz.func63, Tryz.ntmps63
      go_wp2_with fail
      refine HCF.out.mono ?_
      rintro e w1 ⟨rfl, hb⟩
      have HB := Lib.hid hb
      clear hb
      go_wp2
      go_ret
      exact ⟨by rw [HV2.out]; rfl, HB.out⟩
    · have HV2 : Hid (r = r2) := HV1.out
      go_enter Tryz.func63, Tryz.ntmps63
      go_wp2_with fail
      refine HCF.out.mono ?_
      rintro e w1 ⟨rfl, hb⟩
      have HB := Lib.hid hb
      clear hb
      go_wp2_with fail
      refine (HRI.out _ HB.out).mono ?_
      rintro e w2 ⟨rfl, hb⟩
      have HB2 : Hid (Below w.heap.size w w2) := HB.out.trans (hb.mono HB.out.size)
      clear hb
      go_wp2
      go_ret
      exact ⟨by rw [HV2.out]; first | rfl | simp, HB2.out⟩
  · have t0 : ¬ (m.length : Int) ≤ 32 := by omega
    have t1 : decide ((m.length : Int) ≤ 32) = false := by simpa using t0
    have HV1 : Hid (r = false) := by show _ = _; rw [HV.out, decide_eq_false hlen]; rfl
    clear HV hlen
    go_enter Tryz.func63, Tryz.ntmps63
    go_wp2
    go_ret
    exact ⟨by rw [HV1.out]; rfl, HB0.out⟩
end Bo
end Go.Proofs.YthbmnkeigmbbdaaGreat

/-
  WHETHER ONE IS AMONG BINDS: slices.IndexFunc, slices.ContainsFunc.
-/
namespace Go.Proofs.YthbmnkeigmbbdaaGreat
open Go.RowKit Go.Lib
namespace Bo
open Rw
set_option linter.unusedVariables false
set_option maxHeartbeats 1000000 in
set_option maxRecDepth 100000 in
theorem index_b (fn : FuncId) (hE : ∀ args z, (callFunc fn args).run Tryz.prog z = .ok (.enter fn args) z) (c0 : Value) (f : Rg.Pr → Bool) (v : Value) (l : List Rg.Pr) (w : World) {A : Nat} (hv : Sl w A w.heap.size v l)
    (hf : ∀ x ∈ l, ∀ z, Below w.heap.size w z → Calls Tryz.prog fn #[.agg #[.string x.k, .string x.v], c0] z fun e z' => e = .returned (.bool (f x)) ∧ Below z.heap.size z z') :
    Calls Tryz.prog 156 #[v, .func (.func fn) #[] #[c0]] w fun e w' => IxIs (l.any f) e ∧ Below w.heap.size w w' := by
  obtain ⟨a, c, rfl, hcap, -, hlen, hc⟩ := hv
  have HC := Lib.hid hc
  have HF := Lib.hid hf
  have HR1 := Lib.hid (fun h k => IxIs.yes (b := l.any f) h k)
  have HR2 := Lib.hid (fun h => IxIs.no (b := l.any f) h)
  clear hc hf
  go_enter Tryz.func156, Tryz.ntmps156
  go_wp2
  go_loopg [8] l.length (fun gg i wx => ∃ k : Nat, k + gg = l.length ∧ i = .int .i64 k ∧ Aside ((l.take k).any f = false) ∧ Aside (Below w.heap.size w wx))
  case atStart => exact ⟨0, by omega, rfl, by show _ = _; simp, Below.refl _ _⟩
  case round =>
    obtain ⟨k, hkg, rfl, HA, HB⟩ := hrel
    cases gk with
    | zero =>
      obtain rfl : k = l.length := by omega
      have HT : Hid (l.any f = false) := by have := HA.out; rwa [List.take_length] at this
      clear hkg
      go_wp2
      go_ret
      exact ⟨HR2.out HT.out, HB.out⟩
    | succ gg =>
      have hlk : k < l.length := by omega
      have t2 : (k : Int) < (l.length : Int) := by omega
      have t3 : IntKind.i64.wrap ((k : Int) + 1) = (k : Int) + 1 := by rw [IntKind.wrap_i64]; omega
      obtain ⟨b, off, rfl, -, hblt, hcc⟩ := HC.out (by omega)
      have hat : At w b (off + k * 2) l[k] := hcc k hlk
      have HX := HB
      obtain ⟨d0, d1⟩ := at_bd hat
      have e0 := (HX.out.cell (by exact hblt)).trans d0; have e1 := (HX.out.cell (by exact hblt)).trans d1; clear d0 d1
      have HK := Lib.hid (HF.out l[k] (List.getElem_mem hlk) _ HB.out)
      have HM : Hid (f l[k] = true → l.any f = true) := fun h => List.any_eq_true.2 ⟨_, List.getElem_mem hlk, h⟩
      have HN : Hid ((l.take (k + 1)).any f = ((l.take k).any f || f l[k])) := by
        show _ = _
        rw [List.take_succ_eq_append_getElem hlk, List.any_append]
        simp
      clear hat hcc
      generalize l[k] = x at *
      cases hfx : f x
      · have HT : Hid ((l.take (k + 1)).any f = false) := by show _ = _; rw [HN.out, HA.out, hfx]; rfl
        rw [hfx] at HK
        clear hfx HM HN
        go_wp2_with fail
        refine HK.out.mono ?_
        rintro e w2 ⟨rfl, hb2⟩
        have HB2 : Hid (Below w.heap.size w w2) := HB.out.trans (hb2.mono HB.out.size)
        clear hb2
        go_wp2
        go_roundg gg
        case measure => omega
        case rel => exact ⟨k + 1, by omega, by simp, HT.out, HB2.out⟩
      · have HT : Hid (l.any f = true) := HM.out hfx
        rw [hfx] at HK
        clear hfx HM HN
        go_wp2_with fail
        refine HK.out.mono ?_
        rintro e w2 ⟨rfl, hb2⟩
        have HB2 : Hid (Below w.heap.size w w2) := HB.out.trans (hb2.mono HB.out.size)
        clear hb2
        go_wp2
        go_ret
        exact ⟨HR1.out HT.out k, HB2.out⟩
set_option maxHeartbeats 1000000 in
theorem contains_b (fn : FuncId) (hE : ∀ args z, (callFunc fn args).run Tryz.prog z = .ok (.enter fn args) z) (c0 : Value) (f : Rg.Pr → Bool) (v : Value) (l : List Rg.Pr) (w : World) {A : Nat} (hv : Sl w A w.heap.size v l)
    (hf : ∀ x ∈ l, ∀ z, Below w.heap.size w z → Calls Tryz.prog fn #[.agg #[.string x.k, .string x.v], c0] z fun e z' => e = .returned (.bool (f x)) ∧ Below z.heap.size z z') :
    Calls Tryz.prog 87 #[v, .func (.func fn) #[] #[c0]] w fun e w' => e = .returned (.bool (l.any f)) ∧ Below w.heap.size w w' := by
  have HX := Lib.hid (index_b fn hE c0 f v l w hv hf)
  obtain ⟨a, c, rfl⟩ := hv.slice
  clear hf hv
  cases hq : l.any f
  all_goals
    have HQ := Lib.hid hq
    clear hq
    go_enter Tryz.func87, Tryz.ntmps87
    go_wp2_with fail
    refine HX.out.mono ?_
    rintro e w1 ⟨⟨r, rfl, hd, -⟩, hb⟩
    rw [HQ.out] at hd
    have HB := Lib.hid hb
    clear hb
    go_wp2
    go_ret
    exact ⟨rfl, HB.out⟩
end Bo
end Go.Proofs.YthbmnkeigmbbdaaGreat
