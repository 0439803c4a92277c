/-
  LAW: HardTwo.
-/
import Derived.Test.YtpncflgcfndhmaaHardMath
import Derived.Laws.StructEq
namespace Go.Proofs.Ytpncflgcfndhmaa
open Go.RowKit Go.Lib Go.Sort
namespace Dk
theorem St.new {w x : World} {v : Value} {dn : Bool} {fu : Int} {fs : List Fl} (hb : Below w.heap.size w x) (hf : Files x x.heap.size v fs) : St w x.heap.size (x.alloc (.cells #[v, .bool dn, .int .i64 fu] 24)) v dn fu fs :=
  ⟨hb.size, by simp, hb.alloc hb.size _, Dx.made _ _ _ _, hf.al _⟩
theorem files_lt {w : World} {B : Nat} {v : Value} {fs : List Fl} (h : Files w B v fs) (hn : 0 < fs.length) : ∀ b off n c, v = .slice (some ⟨b, off, none⟩) n c → b < B := by
  obtain ⟨a, c, rfl, -, -, h3⟩ := h
  obtain ⟨b, off, rfl, hlt, -⟩ := h3 hn
  intro b' off' n c' e
  simp only [Value.slice.injEq, Option.some.injEq, Addr.mk.injEq] at e
  omega
theorem St.fuse {w x : World} {B : Nat} {v : Value} {dn : Bool} {fu : Int} {fs : List Fl} (h : St w B x v dn fu fs) (hne : ∀ b off c, v = .slice (some ⟨b, off, none⟩) fs.length c → b ≠ B) (f : Int) : St w B (x.setCell ⟨B, 2, none⟩ (.int .i64 f)) v dn f fs := by
  obtain ⟨h1, h2, h3, ⟨d0, d1, d2, d3, d4, d5⟩, h5⟩ := h
  refine ⟨h1, by simpa using h2, bset h3 h1 _, ⟨?_, ?_, ?_, ?_, ?_, ?_⟩, h5.st _ _ hne⟩
  · exact (World.cell?_setCell_other _ _ _ _ (by simp)).trans d0
  · exact (World.cell?_setCell_other _ _ _ _ (by simp)).trans d1
  · exact World.cell?_setCell_same _ _ _ d2
  · exact (World.frozen?_setCell _ _ _ _).trans d3
  · exact (World.frozen?_setCell _ _ _ _).trans d4
  · exact (World.frozen?_setCell _ _ _ _).trans d5
def eqHd (t1 v1 t2 v2 : Int) : Bool := decide (t1 = t2) && decide (v1 = v2)
set_option maxRecDepth 100000 in
theorem eql_hard (t1 v1 t2 v2 : Int) (w : World) : (binOp .eql 27 (.agg #[.int .u64 t1, .int .i64 v1]) (.agg #[.int .u64 t2, .int .i64 v2])).run Try.prog w = .ok (.bool (eqHd t1 v1 t2 v2)) w := by
  have u3 := Try.underlying3
  have u9 := Try.underlying25
  have a3 := Try.isAgg3
  have a9 := Try.isAgg25
  have z3 := Try.sizeOf3
  have z9 := Try.sizeOf25
  have hS : Try.prog.underlying 27 = some (.struct (Try.prog.fieldsOf 27)) := by kernel_rfl
  have hp : Try.prog.stoodInHeld 27 = false := by kernel_rfl
  rw [run_eql_struct, show (10000 : Nat) = 9999 + 1 from rfl, run_equalIn_agg w 9999 27 _ _ hS hp]
  simp only [Program.fieldsOf, Try.underlying27]
  go_simp
  by_cases h1 : t1 = t2 <;> by_cases h2 : v1 = v2 <;> simp [h1, h2, eqHd]
theorem guard_hard : Try.prog.eqGuardType Try.prog.depth 27 = false := by kernel_rfl
theorem eqHd_self (t v : Int) : eqHd t v t v = true := by simp [eqHd]
theorem two_boxes {w w1 : World} {a b : Array Value} {t u : TypeId} (hb : Below ((w.alloc (.cells a t)).alloc (.cells b u)).heap.size ((w.alloc (.cells a t)).alloc (.cells b u)) w1) :
    (∀ i, w1.cell? ⟨w.heap.size, i, none⟩ = a[i]?) ∧ (∀ i, w1.cell? ⟨w.heap.size + 1, i, none⟩ = b[i]?) ∧ Below w.heap.size w w1 ∧ w.heap.size + 2 ≤ w1.heap.size := by
  refine ⟨fun i => ?_, fun i => ?_, (((Below.refl _ w).alloc (Nat.le_refl _) _).alloc (by simp) _).trans (hb.mono (by simp; omega)), by have := hb.size; simpa using this⟩
  · rw [hb.cell (by simp <;> omega)]; simp [go_sem]
  · rw [hb.cell (by simp)]; simp [go_sem]
def maxF (fu : Int) : Int := if fu < -1 then -1 else fu
set_option maxRecDepth 100000 in
set_option maxHeartbeats 8000000 in
theorem hardTwo_ok (ta va tb vb : Nat) (hta : ta < 2 ^ 64) (htb : tb < 2 ^ 64) (hva : va ≤ 7) (hvb : vb ≤ 7) (fu : Int) (hlo : -9223372036854775808 ≤ fu) (hhi : fu ≤ 9223372036854775807) (kv : Value) (ks : List Int) (w : World) (hk : Ints w w.heap.size kv ks) :
    Calls Try.prog 6 #[.agg #[.int .u64 ta, .int .i64 va], .agg #[.int .u64 tb, .int .i64 vb], .int .i64 fu, kv] w fun e w' => e = .returned (.bool true) ∧ Below w.heap.size w w' := by
  have hsz := encB_size ta va hta hva
  have hmlo : -9223372036854775808 ≤ maxF fu := by unfold maxF; split <;> omega
  have hmhi : maxF fu ≤ 9223372036854775807 := by unfold maxF; split <;> omega
  have h24 : ∀ f ∈ [fH (encB ta va)], f.da.size ≤ 140737488355328 ∧ f.sy = (f.da.size : Nat) := mem1 ⟨by show (encB ta va).size ≤ _; omega, rfl⟩
  have HSA := Lib.hid (fun x => save_nil ta va hta hva x)
  have hsb := fun dv x hf => save_any 140737488355328 (by omega) (by omega) dv [fH (encB ta va)] (maxF fu) (chkH1 _) (fun f hf => (h24 f hf).1) hmlo hmhi tb vb htb hvb x hf
  obtain ⟨o, ho⟩ : ∃ o, o = seqO nH nT (encB tb vb) [fH (encB ta va)] false (maxF fu) 4 := ⟨_, rfl⟩
  have hsm := (sq_all 140737488355328 (by omega) [fH (encB ta va)] (encB tb vb) (encB_size tb vb htb hvb) (maxF fu) (chkH1 _) (fun f hf => (h24 f hf).1) hmlo hmhi).2.2.2.small
  obtain ⟨q1, q2, q3, q4, q5⟩ := save_crash 140737488355328 (by omega) [fH (encB ta va)] (maxF fu) ks (chkH1 _) h24 hmlo hmhi tb vb htb hvb o ho
  rw [← ho] at hsb hsm
  obtain ⟨e1, e2, e3⟩ := load_enc ta va hta hva
  rw [e1, e2, e3] at q5
  have HCS := Lib.hid (crash_small (ks := ks) q1 hsm)
  rcases o with ⟨f4, dn4, fu4, r4⟩
  simp only at hsb q1 q2 q3 q4 q5 HCS
  have HSB := Lib.hid hsb
  have hr11 : r4 = 0 ∨ r4 = 8 := by
    rcases q3 with h | h | ⟨-, h⟩
    · exact .inl h
    · exact .inr h
    · simp at h
  have HCR := Lib.hid (fun x v hv hki => crash_own v kv dn4 fu4 f4 ks x hv hki q1)
  generalize crS f4 ks f4.length = f5 at *
  have HFI := Lib.hid (small_fine (S := 140737488355328) (by omega) q2 (fun f hf => (HCS.out f hf).1))
  have HLE : Hid (f5.length ≤ 4611686018427387904) := by have := (chk_fine _ q2).1; show f5.length ≤ _; omega
  have hld := fun v x hv => load_any v false (-1) f5 x hv
  unfold LoadIs at hld
  have HG : Hid (∃ gt gv : Nat, (r4 = 0 → gt = tb ∧ gv = vb) ∧ (¬ r4 = 0 → gt = ta ∧ gv = va) ∧ ∀ v x, Files x x.heap.size v f5 → Calls Try.prog 9 #[.agg #[v, .bool false, .int .i64 (-1)]] x fun e w' => e = .returned (.tuple #[.agg #[.int .u64 gt, .int .i64 gv], .int .i64 0]) ∧ Below x.heap.size x w') := by
    refine ⟨ldT f5 false, ldV f5 false, fun h => ⟨(q4 h).1, (q4 h).2.1⟩, fun h => ⟨(q5 h).1, (q5 h).2.1⟩, fun v x hv => ?_⟩
    have h0 : ldE f5 false = 0 := by
      by_cases h : r4 = 0
      · exact (q4 h).2.2
      · exact (q5 h).2.2
    have := hld v x hv
    rw [h0] at this
    exact this
  obtain ⟨gt, gv, g0, g1, hgl⟩ := HG.out
  have HGL := Lib.hid hgl
  have HCB := Lib.hid (fun x => Hd.check_any (tb : Nat) (vb : Nat) x)
  have hcb : Hd.chkH (vb : Nat) = 0 := by unfold Hd.chkH; rw [if_neg (by omega), if_neg (by omega)]
  rw [hcb] at HCB
  have HK := Lib.hid hk
  have HQ1 := Lib.hid q1
  have G0 := Lib.hid g0
  have G1 := Lib.hid g1
  generalize encB ta va = da at *
  have gf := guard_hard
  have HEQ := Lib.hid (fun t1 v1 t2 v2 w => eql_hard t1 v1 t2 v2 w)
  clear hsz hmlo hmhi h24 hsb hsm q1 q2 q3 q4 q5 e1 e2 e3 hld HG hgl g0 g1 hcb ho hk HCS
  go_enter Try.func6, Try.ntmps6
  go_wp2_with fail
  refine (hlives _).mono ?_
  rintro e w1 ⟨rfl, hb⟩
  obtain ⟨c0, c1, hbw, hz1⟩ := two_boxes hb
  have HW1 := Lib.hid hbw
  have C0 := Lib.hid c0
  have C1 := Lib.hid c1
  clear hb hbw c1
  go_wp2_with fail
  refine (HSA.out _).mono ?_
  rintro e w2 ⟨v2, rfl, hf, -, hb⟩
  obtain ⟨a2, c2, rfl⟩ : ∃ a c, v2 = .slice a 1 c := files_slice hf
  have HS2 := Lib.hid (St.new (dn := false) (fu := -1) hb hf)
  have HNE : Hid (∀ b off c, Value.slice a2 1 c2 = .slice (some ⟨b, off, none⟩) [fH da].length c → b ≠ w2.heap.size) := fun b off c e => by have := files_lt hf (by simp) b off _ c e; omega
  have k1 : ∀ i, (w2.alloc (.cells #[.slice a2 1 c2, .bool false, .int .i64 (-1)] 24)).cell? ⟨w.heap.size + 1, i, none⟩ = #[.int .u64 tb, .int .i64 vb][i]? := fun i => (HS2.out.below.cell (by show w.heap.size + 1 < _; omega)).trans (C1.out i)
  clear hb hf c0
  go_wp2_with fail
  refine (HCB.out _).mono ?_
  rintro e w3 ⟨rfl, hb⟩
  have HS3 := Lib.hid (HS2.out.keep hb)
  clear hb k1
  obtain ⟨d0, d1, d2, d3, d4, d5⟩ := HS3.out.dx
  have HS4 : Hid (St w1 w2.heap.size (w3.setCell ⟨w2.heap.size, 2, none⟩ (.int .i64 (maxF fu))) (.slice a2 1 c2) false (maxF fu) [fH da]) := HS3.out.fuse HNE.out _
  have k1 : ∀ i, (w3.setCell ⟨w2.heap.size, 2, none⟩ (.int .i64 (maxF fu))).cell? ⟨w.heap.size + 1, i, none⟩ = #[.int .u64 tb, .int .i64 vb][i]? := fun i => (HS4.out.below.cell (by show w.heap.size + 1 < _; omega)).trans (C1.out i)
  have hmx : max fu (-1) = maxF fu := by unfold maxF; split <;> omega
  go_wp2_with fail
  refine (HSB.out _ _ HS4.out.files).mono ?_
  rintro e w4 ⟨v4, rfl, hf4, -, hb⟩
  obtain ⟨a4, c4, rfl⟩ := files_slice hf4
  have HB4 := Lib.hid (HS4.out.below.trans (hb.mono HS4.out.below.size))
  have HS5 := Lib.hid (St.new (w := w1) (dn := dn4) (fu := fu4) HB4.out hf4)
  have HK5 := Lib.hid (HK.out.on ((HW1.out.trans (HB4.out.mono (by omega))).alloc (Nat.le_trans (by omega : w.heap.size ≤ w1.heap.size) HB4.out.size) (.cells #[.slice a4 f4.length c4, .bool dn4, .int .i64 fu4] 24)))
  clear hb hf4 k1 d0 d1 d2 d3 d4 d5 hmx
  generalize f4.length = n4 at *
  go_wp2_with fail
  refine (HCR.out _ _ HS5.out.files HK5.out).mono ?_
  intro e w5 hd
  obtain ⟨v5, rfl, ⟨a5, c5, rfl⟩, hs, hS, _⟩ := HS5.out.step hd HFI.out HLE.out
  have HS6 := Lib.hid hS
  unfold st3 at HS6
  obtain ⟨d0, d1, d2, d3, d4, d5⟩ := hs.dx
  clear hd hs hS
  generalize f5.length = n5 at *
  go_wp2_with fail
  refine (HGL.out _ _ HS6.out.files).mono ?_
  rintro e w6 ⟨rfl, hb⟩
  have HB6 := Lib.hid (HS6.out.below.trans (hb.mono HS6.out.below.size))
  have HAL := Lib.hid (HB6.out.alloc HB6.out.size (.cells #[.int .u64 gt, .int .i64 gv] 27))
  have m0 : ∀ i, (w6.alloc (.cells #[.int .u64 gt, .int .i64 gv] 27)).cell? ⟨w.heap.size, i, none⟩ = #[.int .u64 ta, .int .i64 va][i]? := fun i => (HAL.out.cell (by show w.heap.size < _; omega)).trans (C0.out i)
  have m1 : ∀ i, (w6.alloc (.cells #[.int .u64 gt, .int .i64 gv] 27)).cell? ⟨w.heap.size + 1, i, none⟩ = #[.int .u64 tb, .int .i64 vb][i]? := fun i => (HAL.out.cell (by show w.heap.size + 1 < _; omega)).trans (C1.out i)
  have HW9 : Hid (Below w.heap.size w (w6.alloc (.cells #[.int .u64 gt, .int .i64 gv] 27))) := HW1.out.trans (HAL.out.mono (by omega))
  clear hb d0 d1 d2 d3 d4 d5
  by_cases hr : r4 = 0
  · obtain ⟨e5, e6⟩ := G0.out hr
    subst e5 e6 hr
    have heq := HEQ.out gt gv gt gv
    rw [eqHd_self] at heq
    clear hr11 HS5 HCR
    go_wp2
    go_ret
    exact ⟨rfl, HW9.out⟩
  · obtain ⟨e5, e6⟩ := G1.out hr
    have hr8 : r4 = 8 := by omega
    subst e5 e6 hr8
    have heq := HEQ.out gt gv gt gv
    rw [eqHd_self] at heq
    have heq2 := HEQ.out gt gv tb vb
    clear hr hr11 HS5 HCR
    generalize eqHd (gt : Int) (gv : Int) (tb : Int) (vb : Int) = q at heq2
    cases q
    · go_wp2
      go_ret
      exact ⟨rfl, HW9.out⟩
    · go_wp2
      go_ret
      exact ⟨rfl, HW9.out⟩
set_option maxRecDepth 100000 in
set_option maxHeartbeats 4000000 in
theorem hardTwo_bada (ta va tb vb : Int) (hva : Hd.chkH va ≠ 0) (fu : Int) (kv : Value) (w : World) :
    Calls Try.prog 6 #[.agg #[.int .u64 ta, .int .i64 va], .agg #[.int .u64 tb, .int .i64 vb], .int .i64 fu, kv] w fun e w' => e = .returned (.bool true) ∧ Below w.heap.size w w' := by
  have HSA := Lib.hid (fun x => save_bad ta va hva x)
  have HCA := Lib.hid (fun x => Hd.check_any ta va x)
  have hv1 : Hd.chkH va = 1 := by unfold Hd.chkH at hva ⊢; split <;> simp_all
  rw [hv1] at HSA HCA
  clear hva hv1
  go_enter Try.func6, Try.ntmps6
  go_wp2_with fail
  refine (hlives _).mono ?_
  rintro e w1 ⟨rfl, hb⟩
  obtain ⟨c0, c1, hbw, hz1⟩ := two_boxes hb
  have HW1 := Lib.hid hbw
  have C0 := Lib.hid c0
  clear hb hbw c1
  go_wp2_with fail
  refine (HSA.out _).mono ?_
  rintro e w2 ⟨v2, rfl, hf, hb⟩
  obtain ⟨a2, c2, rfl⟩ : ∃ a c, v2 = .slice a 0 c := files_slice hf
  have HB2 := Lib.hid (hb.alloc hb.size (.cells #[.slice a2 0 c2, .bool false, .int .i64 (-1)] 24))
  have k0 : ∀ i, (w2.alloc (.cells #[.slice a2 0 c2, .bool false, .int .i64 (-1)] 24)).cell? ⟨w.heap.size, i, none⟩ = #[.int .u64 ta, .int .i64 va][i]? := fun i => (HB2.out.cell (by show w.heap.size < _; omega)).trans (C0.out i)
  clear hb hf c0
  go_wp2_with fail
  refine (HCA.out _).mono ?_
  rintro e w3 ⟨rfl, hb⟩
  have HW3 := Lib.hid (HW1.out.trans ((HB2.out.trans (hb.mono HB2.out.size)).mono (by omega)))
  clear hb k0
  go_wp2
  go_ret
  exact ⟨rfl, HW3.out⟩
set_option maxRecDepth 100000 in
set_option maxHeartbeats 4000000 in
theorem hardTwo_badb (ta va : Nat) (tb vb : Int) (hta : ta < 2 ^ 64) (hva : va ≤ 7) (hvb : Hd.chkH vb ≠ 0) (fu : Int) (kv : Value) (w : World) :
    Calls Try.prog 6 #[.agg #[.int .u64 ta, .int .i64 va], .agg #[.int .u64 tb, .int .i64 vb], .int .i64 fu, kv] w fun e w' => e = .returned (.bool true) ∧ Below w.heap.size w w' := by
  have HSA := Lib.hid (fun x => save_nil ta va hta hva x)
  have HCA := Lib.hid (fun x => Hd.check_any (ta : Nat) (va : Nat) x)
  have HCB := Lib.hid (fun x => Hd.check_any tb vb x)
  have hv1 : Hd.chkH vb = 1 := by unfold Hd.chkH at hvb ⊢; split <;> simp_all
  have hv0 : Hd.chkH (va : Nat) = 0 := by unfold Hd.chkH; rw [if_neg (by omega), if_neg (by omega)]
  rw [hv1] at HCB
  rw [hv0] at HCA
  generalize encB ta va = da at *
  clear hvb hv1 hv0
  go_enter Try.func6, Try.ntmps6
  go_wp2_with fail
  refine (hlives _).mono ?_
  rintro e w1 ⟨rfl, hb⟩
  obtain ⟨c0, c1, hbw, hz1⟩ := two_boxes hb
  have HW1 := Lib.hid hbw
  have C0 := Lib.hid c0
  have C1 := Lib.hid c1
  clear hb hbw c1
  go_wp2_with fail
  refine (HSA.out _).mono ?_
  rintro e w2 ⟨v2, rfl, hf, -, hb⟩
  obtain ⟨a2, c2, rfl⟩ : ∃ a c, v2 = .slice a 1 c := files_slice hf
  have HB2 := Lib.hid (hb.alloc hb.size (.cells #[.slice a2 1 c2, .bool false, .int .i64 (-1)] 24))
  have k1 : ∀ i, (w2.alloc (.cells #[.slice a2 1 c2, .bool false, .int .i64 (-1)] 24)).cell? ⟨w.heap.size + 1, i, none⟩ = #[.int .u64 tb, .int .i64 vb][i]? := fun i => (HB2.out.cell (by show w.heap.size + 1 < _; omega)).trans (C1.out i)
  clear hb hf c0
  go_wp2_with fail
  refine (HCB.out _).mono ?_
  rintro e w3 ⟨rfl, hb⟩
  have HB3 := Lib.hid (HB2.out.trans (hb.mono HB2.out.size))
  have k0 : ∀ i, w3.cell? ⟨w.heap.size, i, none⟩ = #[.int .u64 ta, .int .i64 va][i]? := fun i => (HB3.out.cell (by show w.heap.size < _; omega)).trans (C0.out i)
  clear hb k1
  go_wp2_with fail
  refine (HCA.out _).mono ?_
  rintro e w4 ⟨rfl, hb⟩
  have HW4 := Lib.hid (HW1.out.trans ((HB3.out.trans (hb.mono HB3.out.size)).mono (by omega)))
  clear hb k0
  go_wp2
  go_ret
  exact ⟨rfl, HW4.out⟩
theorem hardTwo (ta va tb vb : Int) (ha : (Lit.int .u64 ta).wf = true ∧ (Lit.int .i64 va).wf = true) (hb : (Lit.int .u64 tb).wf = true ∧ (Lit.int .i64 vb).wf = true) (fu : Int) (hfu : (Lit.int .i64 fu).wf = true) (kv : Value) (ks : List Int) (w : World) (hk : Ints w w.heap.size kv ks) :
    Calls Try.prog 6 #[.agg #[.int .u64 ta, .int .i64 va], .agg #[.int .u64 tb, .int .i64 vb], .int .i64 fu, kv] w fun e w' => e = .returned (.bool true) ∧ Below w.heap.size w w' := by
  have h1 : 0 ≤ ta ∧ ta ≤ 18446744073709551615 := by simpa [Lit.wf, IntKind.min, IntKind.max, IntKind.signed, IntKind.bits] using ha.1
  have h2 : 0 ≤ tb ∧ tb ≤ 18446744073709551615 := by simpa [Lit.wf, IntKind.min, IntKind.max, IntKind.signed, IntKind.bits] using hb.1
  have h3 : -9223372036854775808 ≤ fu ∧ fu ≤ 9223372036854775807 := by simpa [Lit.wf, IntKind.min, IntKind.max, IntKind.signed, IntKind.bits] using hfu
  by_cases hva : Hd.chkH va = 0
  · have h7 : 0 ≤ va ∧ va ≤ 7 := by unfold Hd.chkH at hva; split at hva <;> (try split at hva) <;> omega
    obtain ⟨ta, rfl⟩ := Int.eq_ofNat_of_zero_le h1.1
    obtain ⟨va, rfl⟩ := Int.eq_ofNat_of_zero_le h7.1
    by_cases hvb : Hd.chkH vb = 0
    · have h8 : 0 ≤ vb ∧ vb ≤ 7 := by unfold Hd.chkH at hvb; split at hvb <;> (try split at hvb) <;> omega
      obtain ⟨tb, rfl⟩ := Int.eq_ofNat_of_zero_le h2.1
      obtain ⟨vb, rfl⟩ := Int.eq_ofNat_of_zero_le h8.1
      exact hardTwo_ok ta va tb vb (by omega) (by omega) (by omega) (by omega) fu h3.1 h3.2 kv ks w hk
    · exact hardTwo_badb ta va tb vb (by omega) (by omega) hvb fu kv w
  · exact hardTwo_bada ta va tb vb hva fu kv w
end Dk
end Go.Proofs.Ytpncflgcfndhmaa
