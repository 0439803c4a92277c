/-
  The document's Copy and Same.
-/
import Derived.Test.YtpncflgcfndhmaaDiskLives2
import Derived.Laws.AppendOwnNone
import Derived.Laws.StructEq
namespace Go.Proofs.Ytpncflgcfndhmaa
open Go.RowKit Go.Lib Go.Sort
namespace Dk
theorem results_cell_one {fn : Func} {p : Tmp} {ty : TypeId} (h : fn.results = #[.cell p ty]) (tmps : Array Value) (P : Program) (w : World) :
    (results fn tmps).run P w = ((asAddr (tmps.getD p undef)).run P w).andThen fun a w₁ => (loadVar ty a).run P w₁ := by
  simp only [results, h]
  simp [Sem.run_bind, Result.andThen]
theorem bodyPost_one {fn : Func} {p : Tmp} (h : fn.results = #[.cell p 24]) {R : Ending → World → Prop} {a : Act} {w : World} (B : Nat) (v : Value) (dn : Bool) (fu : Int) (hd : a.defers = [])
    (hp : a.tmps.getD p undef = .pointer (some ⟨B, 0, none⟩)) (h0 : w.cell? ⟨B, 0, none⟩ = some v) (h1 : w.cell? ⟨B, 1, none⟩ = some (.bool dn)) (h2 : w.cell? ⟨B, 2, none⟩ = some (.int .i64 fu))
    (hR : R (.returned (.agg #[v, .bool dn, .int .i64 fu])) w) : bodyPost Try.prog fn R .ret a w := by
  refine bodyPost_ret ?_ hd hR
  rw [results_cell_one h, hp]
  have := load_disk w B v dn fu h0 h1 h2
  simp [asAddr, this, Result.andThen]
theorem boxes2 (w : World) (v u : Value) (dn dn2 : Bool) (fu fu2 : Int) (cs : Array Value) (t : TypeId) :
    Dx w.heap.size (((w.alloc (.cells #[v, .bool dn, .int .i64 fu] 24)).alloc (.cells #[u, .bool dn2, .int .i64 fu2] 24)).alloc (.cells cs t)) v dn fu ∧
    Dx (w.heap.size + 1) (((w.alloc (.cells #[v, .bool dn, .int .i64 fu] 24)).alloc (.cells #[u, .bool dn2, .int .i64 fu2] 24)).alloc (.cells cs t)) u dn2 fu2 ∧
    Below w.heap.size w (((w.alloc (.cells #[v, .bool dn, .int .i64 fu] 24)).alloc (.cells #[u, .bool dn2, .int .i64 fu2] 24)).alloc (.cells cs t)) := by
  refine ⟨?_, ?_, (((Below.refl _ _).alloc (Nat.le_refl _) _).alloc (by simp) _).alloc (by simp; omega) _⟩
  · constructor <;> simp [go_sem]
  · constructor <;> simp [go_sem]
/-- A disk alone, of memory of the call's own. -/
def CopyIs (w : World) (fs : List Fl) (dn : Bool) (fu : Int) (e : Ending) (w' : World) : Prop :=
  ∃ v', e = .returned (.agg #[v', .bool dn, .int .i64 fu]) ∧ Own w' w.heap.size v' fs ∧ Below w.heap.size w w'

set_option maxRecDepth 100000 in
set_option maxHeartbeats 4000000 in
theorem copy_ref (v : Value) (dn : Bool) (fu : Int) (fs : List Fl) (w : World) (hv : Files w w.heap.size v fs) (h40 : fs.length * 40 ≤ 140737488355328) :
    Calls Try.prog 8 #[.agg #[v, .bool dn, .int .i64 fu]] w (CopyIs w fs dn fu) := by
  obtain ⟨a, c, rfl, hl, hs, hc⟩ := hv
  unfold CopyIs
  obtain ⟨i0, hi, hz0, hz1, hz2⟩ := info_parts info_file
  have HM := Lib.hid (World.ownsRow_made (base := w.heap.size + 2) (e := 59) (size := 3) ((w.alloc (.cells #[.slice a fs.length c, .bool dn, .int .i64 fu] 24)).alloc (.cells #[.slice none 0 0, .bool false, .int .i64 0] 24)) #[] 0 (by simp) (Nat.zero_le _) (by simp))
  simp only [World.size_alloc] at HM
  have HB2 := Lib.hid (boxes2 w (.slice a fs.length c) (.slice none 0 0) dn false fu 0 #[] 59)
  cases a with
  | none =>
    have h0 : fs = [] := by
      by_cases hn : 0 < fs.length
      · obtain ⟨b, off, he, _⟩ := hc hn; cases he
      · exact List.eq_nil_of_length_eq_zero (by omega)
    subst h0
    clear hc hs
    go_enter Try.func8, Try.ntmps8
    go_wp2
    refine bodyPost_one rfl (w.heap.size + 1) (.slice (some ⟨w.heap.size + 1 + 1, 0, none⟩) 0 0) dn fu rfl rfl ?_ ?_ ?_ ?_
    case refine_1 => go_simp
    case refine_2 => go_simp
    case refine_3 => go_simp
    case refine_4 =>
      refine ⟨_, rfl, Own.le (base := w.heap.size + 2) ?_ (by omega), ?_⟩
      · have h9 := World.ownsRow_made (base := w.heap.size + 2) (e := 59) (size := 3) ((w.alloc (.cells #[.slice (some ⟨w.heap.size + 1 + 1, 0, none⟩) 0 0, .bool dn, .int .i64 fu] 24)).alloc (.cells #[.slice (some ⟨w.heap.size + 1 + 1, 0, none⟩) 0 0, .bool dn, .int .i64 fu] 24)) #[] 0 (by simp) (Nat.zero_le _) (by simp)
        simp only [World.size_alloc] at h9
        exact h9
      · exact (boxes2 w _ _ _ _ _ _ _ _).2.2
  | some ad =>
    have A := Lib.hid (file_cells w (some ad) fs w.heap.size hc ad rfl)
    have hmx : fs.length ≤ maxLen := by simp only [maxLen]; omega
    have HMX := Lib.hid (show 0 + fs.length ≤ maxLen by omega)
    have H4 := Lib.hid (show (0 + fs.length) * 40 ≤ 140737488355328 by omega)
    have H3 := Lib.hid (flat_len fs)
    have H1 := Lib.hid (flat_one fs)
    clear hc hs hmx
    generalize hx : flat fs = xs at A H3 H1
    have HX := Lib.hid hx
    clear hx
    go_enter Try.func8, Try.ntmps8
    go_wp2_with (at_builtin; go_loud (refine wpList_append_own _ rfl _ _ 22 rfl (w.heap.size + 2) 59 i0 _ 3 40 Try.underlying22 hi hz0 hz1 hz2 rfl (by omega) _ _ _ rfl HM.out ad fs.length c xs rfl H3.out (fun j u hj => Lib.cell?_alloc_some _ (Lib.cell?_alloc_some _ (Lib.cell?_alloc_some _ (A.out j u hj)))) H1.out HMX.out H4.out (by simp) ?_; intro v' w1 hown hgrow hnil; have ho : Own w1 (w.heap.size + 2) v' fs := (by unfold Own; rw [HX.out]; simpa using hown); have hb := (Below.refl (w.heap.size + 2) _).grown hgrow (by simp) (fun k hk => Nat.le_of_eq (Option.some.inj hk)); obtain ⟨d0, d1, d2, f0, f1, f2⟩ := HB2.out.1.keep hb (by omega); obtain ⟨e0, e1, e2, g0, g1, g2⟩ := HB2.out.2.1.keep hb (by omega); obtain ⟨a1, c1, rfl⟩ := ho.slice; have HO := Lib.hid ho; have HB := Lib.hid (HB2.out.2.2.trans (hb.mono (by omega))); clear hown hgrow hnil ho hb))
    refine bodyPost_one rfl (w.heap.size + 1) (.slice a1 fs.length c1) dn fu rfl rfl ?_ ?_ ?_ ?_
    case refine_1 => go_simp
    case refine_2 => go_simp
    case refine_3 => go_simp
    case refine_4 =>
      refine ⟨_, rfl, Own.le (base := w.heap.size + 2) ?_ (by omega), ?_⟩
      · repeat (first | exact HO.out | refine Own.sb ?_ (by first | exact (show w.heap.size < w.heap.size + 2 by omega) | exact (show w.heap.size + 1 < w.heap.size + 2 by omega)) _)
      · repeat (first | exact HB.out | refine bset ?_ (by first | exact (show w.heap.size ≤ w.heap.size by omega) | exact (show w.heap.size ≤ w.heap.size + 1 by omega)) _)

/-- Whether two files are not one. -/
def nqF (n1 y1 : ByteArray) (z1 : Int) (n2 y2 : ByteArray) (z2 : Int) : Bool := !((n1.toList == n2.toList) && ((y1.toList == y2.toList) && (z1 == z2)))
theorem nqF_no {n1 y1 : ByteArray} {z1 : Int} {n2 y2 : ByteArray} {z2 : Int} (h : nqF n1 y1 z1 n2 y2 z2 = false) : (⟨n1, y1, z1⟩ : Fl) = ⟨n2, y2, z2⟩ := by
  have ex : ∀ a b : ByteArray, a.toList = b.toList → a = b := fun a b e => by
    rw [ByteArray.toList_eq, ByteArray.toList_eq] at e
    exact ByteArray.ext (Array.ext' e)
  simp [nqF] at h
  obtain ⟨h1, h2, rfl⟩ := h
  rw [ex _ _ h1, ex _ _ h2]
theorem nqF_yes {n1 y1 : ByteArray} {z1 : Int} {n2 y2 : ByteArray} {z2 : Int} (h : nqF n1 y1 z1 n2 y2 z2 = true) : (⟨n1, y1, z1⟩ : Fl) ≠ ⟨n2, y2, z2⟩ := by
  intro he
  cases he
  simp [nqF] at h
set_option maxRecDepth 100000 in
theorem neq_file (n1 y1 n2 y2 : ByteArray) (z1 z2 : Int) (w : World) : (binOp .neq 59 (.agg #[.string n1, .string y1, .int .i64 z1]) (.agg #[.string n2, .string y2, .int .i64 z2])).run Try.prog w = .ok (.bool (nqF n1 y1 z1 n2 y2 z2)) w := by
  have u3 := Try.underlying3
  have u9 := Try.underlying9
  have a3 := Try.isAgg3
  have a9 := Try.isAgg9
  have z3 := Try.sizeOf3
  have z9 := Try.sizeOf9
  have hS : Try.prog.underlying 59 = some (.struct (Try.prog.fieldsOf 59)) := by kernel_rfl
  have hp : Try.prog.stoodInHeld 59 = false := by kernel_rfl
  rw [run_neq_struct, show (10000 : Nat) = 9999 + 1 from rfl, run_equalIn_agg w 9999 59 _ _ hS hp]
  simp only [Program.fieldsOf, Try.underlying59]
  go_simp
  by_cases h1 : n1.toList = n2.toList <;> by_cases h2 : y1.toList = y2.toList <;> by_cases h3 : z1 = z2 <;> simp [h1, h2, h3, nqF]
theorem guard_file : Try.prog.eqGuardType Try.prog.depth 59 = false := by kernel_rfl
/-- What Same tells of two disks. -/
def SameIs (dn dn2 : Bool) (fu fu2 : Int) (fs fs2 : List Fl) (e : Ending) : Prop := ∃ b, e = .returned (.bool b) ∧ (b = true ↔ dn = dn2 ∧ fu = fu2 ∧ fs = fs2)
theorem SameIs.yes {dn : Bool} {fu : Int} {fs fs2 : List Fl} (h : fs = fs2) : SameIs dn dn fu fu fs fs2 (.returned (.bool true)) := ⟨true, rfl, by simp [h]⟩
theorem SameIs.no {dn dn2 : Bool} {fu fu2 : Int} {fs fs2 : List Fl} (h : ¬ (dn = dn2 ∧ fu = fu2 ∧ fs = fs2)) : SameIs dn dn2 fu fu2 fs fs2 (.returned (.bool false)) := ⟨false, rfl, by simp; simpa using h⟩
set_option maxRecDepth 100000 in
set_option maxHeartbeats 4000000 in
theorem same_ref (v v2 : Value) (dn dn2 : Bool) (fu fu2 : Int) (fs fs2 : List Fl) (w : World) (hv : Files w w.heap.size v fs) (hv2 : Files w w.heap.size v2 fs2) :
    Calls Try.prog 14 #[.agg #[v, .bool dn, .int .i64 fu], .agg #[v2, .bool dn2, .int .i64 fu2]] w fun e w' => SameIs dn dn2 fu fu2 fs fs2 e ∧ Below w.heap.size w w' := by
  obtain ⟨a, c, rfl, hl, hs, hc⟩ := hv
  obtain ⟨a2, c2, rfl, hl2, hs2, hc2⟩ := hv2
  have HC := Lib.hid hc
  have HC2 := Lib.hid hc2
  clear hc hc2 hs hs2
  have HW := Lib.hid (((Below.refl _ w).alloc (Nat.le_refl _) (.cells #[.slice a fs.length c, .bool dn, .int .i64 fu] 24)).alloc (by simp) (.cells #[.slice a2 fs2.length c2, .bool dn2, .int .i64 fu2] 24))
  by_cases hdn : dn = dn2
  · by_cases hfu : fu = fu2
    · by_cases hln : fs2.length = fs.length
      · subst hdn hfu
        have HLN := Lib.hid hln
        rw [hln] at HW ⊢
        have HC3 : Hid (0 < fs.length → _) := fun h => HC2.out (by rw [HLN.out]; exact h)
        clear HC2
        clear hln
        go_enter Try.func14, Try.ntmps14
        go_wp2
        go_loopg [30] fs.length (fun g i wx => ∃ k : Nat, k + g = fs.length ∧ i = .int .i64 k ∧ Aside (∀ j (h : j < fs.length) (h2 : j < fs2.length), j < k → fs[j] = fs2[j]) ∧ Below (w.heap.size + 2) ((w.alloc (.cells #[.slice a fs.length c, .bool dn, .int .i64 fu] 24)).alloc (.cells #[.slice a2 fs.length c2, .bool dn, .int .i64 fu] 24)) wx)
        case atStart => exact ⟨0, by omega, rfl, fun j _ _ h => absurd h (Nat.not_lt_zero _), Below.refl _ _⟩
        case round =>
          obtain ⟨k, hkg, rfl, HO, hbx⟩ := hrel
          have HEQ : Hid _ := HO
          have HX := Lib.hid hbx
          have HB := Lib.hid (HW.out.trans (hbx.mono (by omega)))
          cases gk with
          | zero =>
            obtain rfl : k = fs.length := by omega
            clear hkg hbx
            go_wp2
            go_ret
            exact ⟨.yes (List.ext_getElem HLN.out.symm (fun i h1 h2 => HEQ.out i h1 h2 h1)), HB.out⟩
          | succ g =>
            have hlk : k < fs.length := by omega
            have HG := Lib.hid hkg
            obtain ⟨b, off, rfl, hblt, hcc⟩ := HC.out (by omega)
            obtain ⟨b2, off2, rfl, hblt2, hcc2⟩ := HC3.out (by omega)
            have d0 : wr.cell? ⟨w.heap.size, 0, none⟩ = some (.slice (some ⟨b, off, none⟩) fs.length c) := by rw [hbx.cell (by simp)]; simp [go_sem]
            have d1 : wr.cell? ⟨w.heap.size + 1, 0, none⟩ = some (.slice (some ⟨b2, off2, none⟩) fs.length c2) := by rw [hbx.cell (by simp)]; simp [go_sem]
            obtain ⟨c1, c2', c3⟩ := hcc k hlk
            have hk2 : k < fs2.length := by rw [HLN.out]; exact hlk
            obtain ⟨e1, e2, e3⟩ := hcc2 k hk2
            have k1 := (HB.out.cell hblt).trans c1
            have k2 := (HB.out.cell hblt).trans c2'
            have k3 := (HB.out.cell hblt).trans c3
            have k4 := (HB.out.cell hblt2).trans e1
            have k5 := (HB.out.cell hblt2).trans e2
            have k6 := (HB.out.cell hblt2).trans e3
            have t1 : (k : Int) < (fs.length : Int) := by omega
            have t2 : (0 : Int) ≤ (k : Int) := by omega
            have HK : Hid (fs[k] = fs2[k] → ∀ j (h : j < fs.length) (h2 : j < fs2.length), j < k + 1 → fs[j] = fs2[j]) := by
              intro he j h h2 hj
              by_cases hjk : j < k
              · exact HEQ.out j h h2 hjk
              · have e : j = k := by omega
                subst e
                exact he
            have HN : Hid (fs[k] ≠ fs2[k] → fs ≠ fs2) := fun hne he => hne (by subst he; rfl)
            clear hkg hbx hcc hcc2 c1 c2' c3 e1 e2 e3
            generalize fs[k] = f at *
            generalize fs2[k] = f2 at *
            rcases f with ⟨n1, y1, z1⟩
            rcases f2 with ⟨n2, y2, z2⟩
            have gf := guard_file
            have hq := neq_file n1 y1 n2 y2 z1 z2
            cases hb : nqF n1 y1 z1 n2 y2 z2
            · have HE := Lib.hid (HK.out (nqF_no hb))
              rw [hb] at hq
              go_wp2
              go_quiet (fail)
              go_wp2
              go_roundg g
              case measure => omega
              case rel => exact ⟨k + 1, by have := HG.out; omega, by go_num, HE.out, bdN HX.out _⟩
            · have HE := Lib.hid (HN.out (nqF_yes hb))
              rw [hb] at hq
              go_wp2
              go_quiet (fail)
              go_wp2
              go_ret
              exact ⟨.no (fun h => HE.out h.2.2), bdN HB.out _⟩
      · go_enter Try.func14, Try.ntmps14
        have t1 : ¬ ((fs.length : Int) = (fs2.length : Int)) := by omega
        have t2 : (((fs.length : Int) == (fs2.length : Int))) = false := by simpa using t1
        have HNE : Hid (fs ≠ fs2) := fun h => hln (by rw [h])
        subst hdn hfu
        go_wp2
        go_ret
        exact ⟨.no (fun h => HNE.out h.2.2), HW.out⟩
    · go_enter Try.func14, Try.ntmps14
      subst hdn
      have t2 : ((fu == fu2)) = false := by simpa using hfu
      have HNE := Lib.hid hfu
      go_wp2
      go_ret
      exact ⟨.no (fun h => HNE.out h.2.1), HW.out⟩
  · go_enter Try.func14, Try.ntmps14
    have HNE := Lib.hid hdn
    have t2 : ((dn == dn2)) = false := by simpa using hdn
    go_wp2
    go_ret
    exact ⟨.no (fun h => HNE.out h.1), HW.out⟩
end Dk
end Go.Proofs.Ytpncflgcfndhmaa
