/-
  THE WALK of SnapOne.
-/
import Derived.Test.YtgahilemlnoabaaSnB
namespace Go.Proofs.Ytgahilemlnoabaa
open Go.RowKit Go.Lib Go.Sort
namespace Dk
open Hd (OwnI Bx4)
def maxF (fu : Int) : Int := if -1 < fu then fu else -1
theorem St.new {w x : World} {v : Value} {dn : Bool} {fu : Int} {fs : List Fl} (hb : Below w.heap.size w x) (hf : Files x x.heap.size v fs) : St w x.heap.size (x.alloc (.cells #[v, .bool dn, .int .i64 fu] 37)) v dn fu fs :=
  ⟨hb.size, by simp, hb.alloc hb.size _, Dx.made _ _ _ _, hf.al _⟩
theorem files_lt {w : World} {B : Nat} {v : Value} {fs : List Fl} (h : Files w B v fs) (hn : 0 < fs.length) : ∀ b off n c, v = .slice (some ⟨b, off, none⟩) n c → b < B := by
  obtain ⟨a, c, rfl, -, -, h3⟩ := h
  obtain ⟨b, off, rfl, hlt, -⟩ := h3 hn
  intro b' off' n c' e
  simp only [Value.slice.injEq, Option.some.injEq, Addr.mk.injEq] at e
  omega
theorem St.fuse {w x : World} {B : Nat} {v : Value} {dn : Bool} {fu : Int} {fs : List Fl} (h : St w B x v dn fu fs) (hne : ∀ b off c, v = .slice (some ⟨b, off, none⟩) fs.length c → b ≠ B) (f : Int) : St w B (x.setCell ⟨B, 2, none⟩ (.int .i64 f)) v dn f fs := by
  obtain ⟨h1, h2, h3, ⟨d0, d1, d2, d3, d4, d5⟩, h5⟩ := h
  refine ⟨h1, by simpa using h2, bset h3 h1 _, ⟨?_, ?_, ?_, ?_, ?_, ?_⟩, h5.st _ _ hne⟩
  · exact (World.cell?_setCell_other _ _ _ _ (by simp)).trans d0
  · exact (World.cell?_setCell_other _ _ _ _ (by simp)).trans d1
  · exact World.cell?_setCell_same _ _ _ d2
  · exact (World.frozen?_setCell _ _ _ _).trans d3
  · exact (World.frozen?_setCell _ _ _ _).trans d4
  · exact (World.frozen?_setCell _ _ _ _).trans d5
/-- What was loaded ahead of the save lies in the box B. -/
structure Was (w x : World) (B base : Nat) (i t : Nat) (v : Value) (ms : List Nat) (d : ByteArray) : Prop where
  bx : Bx4 x B (.int .u64 (i : Nat)) (.int .u64 (t : Nat)) v (.string d)
  ow : OwnI x base v ms
  lo : w.heap.size + 2 ≤ base
  lb : w.heap.size + 2 ≤ B
theorem Was.on {w x y : World} {B base i t : Nat} {v : Value} {ms : List Nat} {d : ByteArray} (h : Was w x B base i t v ms d) (hb : Below x.heap.size x y) : Was w y B base i t v ms d :=
  ⟨h.bx.below hb, h.ow.below hb, h.lo, h.lb⟩
theorem Was.put {w x : World} {B base i t : Nat} {v : Value} {ms : List Nat} {d : ByteArray} (h : Was w x B base i t v ms d) {p : Nat} (hp : p < w.heap.size + 2) (j : Nat) (u : Value) : Was w (x.setCell ⟨p, j, none⟩ u) B base i t v ms d :=
  ⟨h.bx.far (by have := h.lb; omega) j u, h.ow.put (by have := h.lo; omega) j u, h.lo, h.lb⟩
theorem far3 {x : World} {B p : Nat} {a b c d : Value} (h : Bx4 x B a b c d) (hp : p ≠ B) (u0 u1 u2 : Value) : Bx4 (((x.setCell ⟨p, 0, none⟩ u0).setCell ⟨p, 1, none⟩ u1).setCell ⟨p, 2, none⟩ u2) B a b c d := ((h.far hp 0 u0).far hp 1 u1).far hp 2 u2
theorem own_three {x : World} {base p : Nat} {v : Value} {ms : List Nat} (h : OwnI x base v ms) (hp : p < base) (u0 u1 u2 : Value) : OwnI (((x.setCell ⟨p, 0, none⟩ u0).setCell ⟨p, 1, none⟩ u1).setCell ⟨p, 2, none⟩ u2) base v ms := ((h.put hp 0 u0).put hp 1 u1).put hp 2 u2
theorem smB_self (i t : Nat) (ks : List Int) (d : ByteArray) : smB i t ks d i t ks d = true := by unfold smB; simp
set_option maxRecDepth 100000 in
set_option maxHeartbeats 8000000 in
theorem snapOne_go (v0 : Value) (dn0 : Bool) (fu0 : Int) (l0 fs0 : List Fl) (fuc : Int) (rc : Nat) (i t : Nat) (v : Value) (js : List Int) (d : ByteArray) (hi : i < 2 ^ 64) (ht : t < 2 ^ 64) (fu : Int) (hlo : -9223372036854775808 ≤ fu) (hhi : fu ≤ 9223372036854775807) (kv : Value) (ks : List Int) (w : World)
    (h0 : Files w w.heap.size v0 l0) (hk : Ints w w.heap.size kv ks) (hj : Ints w w.heap.size v js)
    (hc0 : ∀ x, Files x x.heap.size v0 l0 → Calls Try.prog 16 #[.agg #[v0, .bool dn0, .int .i64 fu0], .slice none 0 0] x (DoIs x fs0 false fuc rc))
    (hz0 : chkN fs0 = 0) (hsf : ∀ f ∈ fs0, f.da.size ≤ 140737488355328 ∧ f.sy = (f.da.size : Nat)) :
    Calls Try.prog 4 #[.agg #[v0, .bool dn0, .int .i64 fu0], .agg #[.int .u64 (i : Nat), .int .u64 (t : Nat), v, .string d], .int .i64 fu, kv] w fun e w' => e = .returned (.bool true) ∧ Below w.heap.size w w' := by
  have hmlo : -9223372036854775808 ≤ maxF fu := by unfold maxF; split <;> omega
  have hmhi : maxF fu ≤ 9223372036854775807 := by unfold maxF; split <;> omega
  have HFI0 := Lib.hid (small_fine (S := 140737488355328) (by omega) hz0 (fun f hf => (hsf f hf).1))
  have HLE0 : Hid (fs0.length ≤ 4611686018427387904) := by have := (chk_fine _ hz0).1; show fs0.length ≤ _; omega
  have hld0 := fun u x hv => load_snap_any u false fuc fs0 x hv
  unfold LoadS at hld0
  have HLD0 := Lib.hid hld0
  have HC0 := Lib.hid hc0
  have HK := Lib.hid hk
  have HJ := Lib.hid hj
  have HSM := Lib.hid (fun i1 t1 u1 k1 d1 i2 t2 u2 k2 d2 x h1 h2 => same_snap i1 t1 u1 k1 d1 i2 t2 u2 k2 d2 x h1 h2)
  have HM7 : Hid ((lsM fs0 false).length ≤ 1000 ∧ ∀ k ∈ lsM fs0 false, k ≤ 9223372036854775807) := by
    show _ ∧ _
    unfold lsM
    split
    · have := Hd.sdM_ok (lsL fs0 false)
      exact ⟨by omega, fun k hk => by have := this.2 k hk; omega⟩
    · simp
  -- a save that does not come to anything
  have HNO : Hid (svE fs0 false i t js d ≠ 0 → lsE fs0 false = 0 → ∃ r4 : Nat, (r4 = 4 ∨ r4 = 17) ∧ ∀ dv x, Files x x.heap.size dv fs0 → Ints x x.heap.size v js → Calls Try.prog 18 #[.agg #[dv, .bool false, .int .i64 (maxF fu)], .agg #[.int .u64 (i : Nat), .int .u64 (t : Nat), v, .string d]] x (DoW x (.slice none 0 0) fs0 false (maxF fu) r4)) := by
    intro hno he0
    refine ⟨svE fs0 false i t js d, ?_, fun dv x hf hv => ?_⟩
    · unfold svE rfN at hno ⊢
      rw [he0] at hno ⊢
      split
      · rename_i hc
        rw [if_pos hc] at hno
        rw [if_neg (by simp)] at hno ⊢
        split
        · exact .inr rfl
        · rename_i hl; rw [if_neg hl] at hno; exact absurd rfl hno
      · exact .inl rfl
    · have h := save_no dv false (maxF fu) fs0 i t v js d x hf hv hi ht hno
      have e : nonO fs0 false (maxF fu) = ⟨fs0, false, maxF fu, 0⟩ := by unfold nonO; rw [if_pos hz0]
      rw [e] at h
      exact h
  -- what a save comes to, else
  have HSV : Hid (svE fs0 false i t js d = 0 → lsE fs0 false = 0 → ∃ (f4 : List Fl) (dn4 : Bool) (fu4 : Int) (r4 : Nat) (f5 : List Fl) (gi gt : Nat) (gm : List Nat) (gd : ByteArray), (r4 = 0 ∨ r4 = 8 ∨ r4 = 11) ∧
      (∀ dv x, Files x x.heap.size dv fs0 → Ints x x.heap.size v js → Calls Try.prog 18 #[.agg #[dv, .bool false, .int .i64 (maxF fu)], .agg #[.int .u64 (i : Nat), .int .u64 (t : Nat), v, .string d]] x (DoW x (.slice none 0 0) f4 dn4 fu4 r4)) ∧
      (∀ x dv, Files x x.heap.size dv f4 → Ints x x.heap.size kv ks → Calls Try.prog 16 #[.agg #[dv, .bool dn4, .int .i64 fu4], kv] x (DoIs x f5 false (-1) 0)) ∧ Fine f5 ∧ f5.length ≤ 4611686018427387904 ∧
      (r4 = 0 → gi = i ∧ gt = t ∧ (gm.map fun (k : Nat) => (k : Int)) = js ∧ gd = d) ∧ (¬ r4 = 0 → gi = lsI fs0 false ∧ gt = lsT fs0 false ∧ gm = lsM fs0 false ∧ gd = PM.bs (lsD fs0 false)) ∧ gm.length ≤ 1000 ∧ (∀ k ∈ gm, k ≤ 9223372036854775807) ∧
      (∀ dv x, Files x x.heap.size dv f5 → Calls Try.prog 17 #[.agg #[dv, .bool false, .int .i64 (-1)]] x fun e w' => (∃ v', e = .returned (.tuple #[.agg #[.int .u64 (gi : Nat), .int .u64 (gt : Nat), v', .string gd], .int .i64 0]) ∧ OwnI w' x.heap.size v' gm) ∧ Below x.heap.size x w')) := by
    intro hsv he0
    have hc : Hd.chkS i t js d = 0 := by
      unfold svE at hsv
      by_cases hc : Hd.chkS i t js d = 0
      · exact hc
      · rw [if_neg hc] at hsv; omega
    have hr : rfN fs0 false i = 0 := by unfold svE at hsv; rw [if_pos hc] at hsv; exact hsv
    have hR := rs_of hi ht hc
    have hjm := Hd.toNat_map js (Hd.chk_ms i t js d hc).1
    obtain ⟨o, ho⟩ : ∃ o, o = seqO nSn nSt (snC i t (js.map Int.toNat) d) fs0 false (maxF fu) 4 := ⟨_, rfl⟩
    have hsb := fun dv x hf hv => save_any 140737488355328 (by omega) (by omega) dv fs0 (maxF fu) hz0 (fun f hf => (hsf f hf).1) hmlo hmhi i t v js d hi ht hc hr x hf hv
    have hsm := (sq_all 140737488355328 (by omega) fs0 _ (snC_size hR) (maxF fu) hz0 (fun f hf => (hsf f hf).1) hmlo hmhi).2.2.2.small
    obtain ⟨q1, q2, q3, q4, q5⟩ := save_crash 140737488355328 (by omega) fs0 (maxF fu) ks hz0 hsf hmlo hmhi i t _ d hR o ho
    rw [← ho] at hsb hsm
    rw [he0] at q5
    have hcs := crash_small (ks := ks) q1 hsm
    have hg : lsM (crS o.fs ks o.fs.length) false = js.map Int.toNat ∨ lsM (crS o.fs ks o.fs.length) false = lsM fs0 false := by
      by_cases h : o.r = 0
      · exact .inl (q4 h).2.2.1
      · exact .inr (q5 h).2.2.1
    have hml : (lsM (crS o.fs ks o.fs.length) false).length ≤ 1000 ∧ ∀ k ∈ lsM (crS o.fs ks o.fs.length) false, k ≤ 9223372036854775807 := by
      rcases hg with e | e
      · rw [e]; exact ⟨by have := hR.len.1; omega, fun k hk => by have := hR.len.2.1 k hk; omega⟩
      · rw [e]; exact HM7.out
    refine ⟨o.fs, o.dn, o.fu, o.r, crS o.fs ks o.fs.length, lsI (crS o.fs ks o.fs.length) false, lsT (crS o.fs ks o.fs.length) false, lsM (crS o.fs ks o.fs.length) false, PM.bs (lsD (crS o.fs ks o.fs.length) false), ?_, hsb, fun x dv hf hi => crash_own dv kv o.dn o.fu o.fs ks x hf hi q1, small_fine (S := 140737488355328) (by omega) q2 (fun f hf => (hcs f hf).1), ?_, fun h => ?_, fun h => ?_, hml.1, hml.2, fun dv x hf => ?_⟩
    · rcases q3 with h | h | ⟨h, -⟩
      · exact .inl h
      · exact .inr (.inl h)
      · exact .inr (.inr h)
    · have := (chk_fine _ q2).1; omega
    · obtain ⟨a1, a2, a3, a4, -⟩ := q4 h
      exact ⟨a1, a2, by rw [a3]; exact hjm, a4⟩
    · obtain ⟨a1, a2, a3, a4, -⟩ := q5 h
      exact ⟨a1, a2, a3, by rw [a4]⟩
    · have h0 : lsE (crS o.fs ks o.fs.length) false = 0 := by
        by_cases h : o.r = 0
        · exact (q4 h).2.2.2.2
        · exact (q5 h).2.2.2.2
      have := load_snap_any dv false (-1) (crS o.fs ks o.fs.length) x hf
      unfold LoadS at this
      rw [h0] at this
      exact this
  have H0 := Lib.hid h0
  obtain ⟨a0, c0, rfl⟩ := files_slice h0
  obtain ⟨va, vc, rfl, -⟩ := hj
  generalize hln : l0.length = n0 at *
  generalize hvn : js.length = vn at *
  generalize lsI fs0 false = i0 at *
  generalize lsT fs0 false = t0 at *
  generalize lsM fs0 false = m0 at *
  generalize PM.bs (lsD fs0 false) = d0 at *
  generalize lsE fs0 false = e0 at *
  generalize svE fs0 false i t js d = sv at *
  have HX : Hid (∀ z, Below ((w.alloc (.cells #[.slice a0 n0 c0, .bool dn0, .int .i64 fu0] 37)).alloc (.cells #[.int .u64 (i : Nat), .int .u64 (t : Nat), .slice va vn vc, .string d] 25)).heap.size ((w.alloc (.cells #[.slice a0 n0 c0, .bool dn0, .int .i64 fu0] 37)).alloc (.cells #[.int .u64 (i : Nat), .int .u64 (t : Nat), .slice va vn vc, .string d] 25)) z → St w w.heap.size z (.slice a0 n0 c0) dn0 fu0 l0 ∧ Bx4 z (w.heap.size + 1) (.int .u64 (i : Nat)) (.int .u64 (t : Nat)) (.slice va vn vc) (.string d) ∧ w.heap.size + 2 ≤ z.heap.size) := by
    intro z hb
    have h9 : Below w.heap.size w z := (((Below.refl _ w).alloc (Nat.le_refl _) _).alloc (by simp) _).trans (hb.mono (by simp; omega))
    have h1 := Bx4.made (w.alloc (.cells #[.slice a0 n0 c0, .bool dn0, .int .i64 fu0] 37)) (.int .u64 (i : Nat)) (.int .u64 (t : Nat)) (.slice va vn vc) (.string d) 25
    rw [World.size_alloc] at h1
    have hz := hb.size
    simp at hz
    exact ⟨⟨Nat.le_refl _, by omega, h9, ((Dx.made w (.slice a0 n0 c0) dn0 fu0).keep ((Below.refl _ _).alloc (Nat.le_refl _) _) (by simp)).keep hb (by simp; omega), H0.out.on h9 h9.size⟩, h1.below hb, by omega⟩
  clear hmlo hmhi hld0 hc0 hk h0 hz0 hsf hln hvn
  go_enter Try.func4, Try.ntmps4
  go_wp2_with fail
  refine (slives _).mono ?_
  rintro e w1 ⟨rfl, hb⟩
  have HS1 := Lib.hid (HX.out _ hb).1
  have B1 := Lib.hid (HX.out _ hb).2.1
  have z1 := (HX.out _ hb).2.2
  clear hb
  obtain ⟨x0, x1, x2, -, -, -⟩ := HS1.out.dx
  go_wp2_with fail
  refine (HC0.out _ HS1.out.files).mono ?_
  intro e w2 hd
  obtain ⟨v3, rfl, ho, hb⟩ := hd
  have HI3 := Lib.hid (ho.hi)
  have hf3 := ho.files HFI0.out HLE0.out
  obtain ⟨a3, c3, rfl⟩ := files_slice hf3
  have HS2a := Lib.hid (HS1.out.keep hb)
  have HS2 : Hid (St w w.heap.size (((w2.setCell ⟨w.heap.size, 0, none⟩ (.slice a3 fs0.length c3)).setCell ⟨w.heap.size, 1, none⟩ (.bool false)).setCell ⟨w.heap.size, 2, none⟩ (.int .i64 fuc)) (.slice a3 fs0.length c3) false fuc fs0) :=
    ⟨Nat.le_refl _, by have := HS2a.out.hi; simpa using this, bset (bset (bset HS2a.out.below (Nat.le_refl _) _) (Nat.le_refl _) _) (Nat.le_refl _) _, HS2a.out.dx.st, hf3.put3 (HI3.out.le (B := w.heap.size + 1) (by omega)) (by omega)⟩
  have B2 := Lib.hid (far3 (B1.out.below hb) (p := w.heap.size) (by omega) (.slice a3 fs0.length c3) (.bool false) (.int .i64 fuc))
  have z2 : w.heap.size + 2 ≤ w2.heap.size := Nat.le_trans z1 hb.size
  clear hb ho hf3 x0 x1 x2
  obtain ⟨x0, x1, x2, x3, x4, x5⟩ := HS2a.out.dx
  generalize fs0.length = n3 at *
  go_wp2_with fail
  refine (HLD0.out _ _ HS2.out.files).mono ?_
  rintro e w3 ⟨⟨vw, rfl, hown⟩, hb⟩
  obtain ⟨aw, cw, rfl⟩ := hown.slice
  have z3 : w.heap.size + 2 ≤ w3.heap.size := by have h8 := hb.size; simp at h8; omega
  have A3 : Below w3.heap.size w3 (w3.alloc (.cells #[.int .u64 (i0 : Nat), .int .u64 (t0 : Nat), .slice aw m0.length cw, .string d0] 25)) := (Below.refl _ _).alloc (Nat.le_refl _) _
  have HS3 := Lib.hid ((HS2.out.keep hb).keep A3)
  have B3 := Lib.hid ((B2.out.below hb).below A3)
  have W3 : Hid (Was w (w3.alloc (.cells #[.int .u64 (i0 : Nat), .int .u64 (t0 : Nat), .slice aw m0.length cw, .string d0] 25)) w3.heap.size (w.heap.size + 2) i0 t0 (.slice aw m0.length cw) m0 d0) :=
    ⟨Bx4.made _ _ _ _ _ _, (hown.below A3).less (by simp; omega), Nat.le_refl _, z3⟩
  clear hb hown A3 x0 x1 x2 x3 x4 x5
  by_cases he : e0 = 0
  · subst he
    have hmx : max fu (-1) = maxF fu := by unfold maxF; split <;> omega
    obtain ⟨y0, y1, y2, y3, y4, y5⟩ := HS3.out.dx
    have HS4 : Hid (St w w.heap.size ((w3.alloc (.cells #[.int .u64 (i0 : Nat), .int .u64 (t0 : Nat), .slice aw m0.length cw, .string d0] 25)).setCell ⟨w.heap.size, 2, none⟩ (.int .i64 (maxF fu))) (.slice a3 n3 c3) false (maxF fu) fs0) := HS3.out.fuse (fun b off c e => by have := HI3.out b off _ c e; omega) _
    have B4 := Lib.hid (B3.out.far (p := w.heap.size) (by omega) 2 (.int .i64 (maxF fu)))
    have W4 := Lib.hid (W3.out.put (p := w.heap.size) (by omega) 2 (.int .i64 (maxF fu)))
    obtain ⟨s0, s1, s2, s3⟩ := B4.out.cells
    by_cases hsv : sv = 0
    · subst hsv
      obtain ⟨f4, dn4, fu4, r4, f5, gi, gt, gm, gd, hr4, hsv, hcr, hfi, hle, g0, g1, hg1, hg2, hgl⟩ := HSV.out (by first | rfl | trivial) (by first | rfl | trivial)
      have HSV2 := Lib.hid hsv
      have HCR := Lib.hid hcr
      have HFI := Lib.hid hfi
      have HLE := Lib.hid hle
      have HGL := Lib.hid hgl
      have G0 := Lib.hid g0
      have G1 := Lib.hid g1
      have G2 := Lib.hid (And.intro hg1 hg2)
      clear hsv hcr hfi hle hgl g0 g1 hg1 hg2 HSV HC0 HLD0 HNO
      go_wp2_with fail
      refine (HSV2.out _ _ HS4.out.files (HJ.out.on HS4.out.below)).mono ?_
      rintro e w6 ⟨v6, rfl, hf6, -, hb⟩
      obtain ⟨a6, c6, rfl⟩ := files_slice hf6
      have hz6 : w3.heap.size + 1 ≤ w6.heap.size := by have := hb.size; simpa using this
      have HW6 := Lib.hid (HS4.out.below.trans (hb.mono HS4.out.below.size))
      have HS6 := Lib.hid (St.new (w := w6) (dn := dn4) (fu := fu4) (Below.refl _ _) hf6)
      have B6 := Lib.hid (B4.out.below hb)
      have W6 := Lib.hid (W4.out.on hb)
      clear hb hf6 s0 s1 s2 s3 y0 y1 y2 y3 y4 y5 hmx
      generalize f4.length = n6 at *
      by_cases hr11 : r4 = 11
      · subst hr11
        go_wp2
        go_ret
        exact ⟨rfl, HW6.out.alloc HW6.out.size _⟩
      · have hr8 : r4 = 0 ∨ r4 = 8 := by omega
        clear hr4 hr11
        have HK6 := Lib.hid (HK.out.on (HW6.out.alloc HW6.out.size (.cells #[.slice a6 n6 c6, .bool dn4, .int .i64 fu4] 37)))
        obtain ⟨d1, d2, d3, -, -, -⟩ := HS6.out.dx
        rcases hr8 with rfl | rfl
        · obtain ⟨e5, e6, e7, e8⟩ := G0.out (by first | rfl | trivial)
          subst e5 e6 e8
          go_wp2_with fail
          refine (HCR.out _ _ HS6.out.files HK6.out).mono ?_
          intro e w7 hd
          obtain ⟨v7, rfl, ⟨a7, c7, rfl⟩, hs, hS, _⟩ := HS6.out.step hd HFI.out HLE.out
          have HS7 := Lib.hid hS
          unfold st3 at HS7
          clear d1 d2 d3
          obtain ⟨d1, d2, d3, d4, d5, d6⟩ := hs.dx
          have hb7 : Below w6.heap.size w6 (((w7.setCell ⟨w6.heap.size, 0, none⟩ (.slice a7 f5.length c7)).setCell ⟨w6.heap.size, 1, none⟩ (.bool false)).setCell ⟨w6.heap.size, 2, none⟩ (.int .i64 (-1))) := HS7.out.below
          have HW7 := Lib.hid (HW6.out.trans (hb7.mono HW6.out.size))
          have B7 := Lib.hid (B6.out.below hb7)
          have W7 := Lib.hid (W6.out.on hb7)
          clear hd hs hS hb7
          generalize f5.length = n7 at *
          go_wp2_with fail
          refine (HGL.out _ _ HS7.out.files).mono ?_
          rintro e w8 ⟨⟨v8, rfl, ho8⟩, hb⟩
          obtain ⟨a8, c8, rfl⟩ := ho8.slice
          have hb8 := hb.alloc hb.size (.cells #[.int .u64 (gi : Nat), .int .u64 (gt : Nat), .slice a8 gm.length c8, .string gd] 25)
          have HW8 := Lib.hid (HW7.out.trans (hb8.mono HW7.out.size))
          have B8 := Lib.hid (B7.out.below hb8)
          have W8 := Lib.hid (W7.out.on hb8)
          have GB8 := Lib.hid (Bx4.made w8 (.int .u64 (gi : Nat)) (.int .u64 (gt : Nat)) (.slice a8 gm.length c8) (.string gd) 25)
          have I8 := Lib.hid ((ho8.ints (Nat.le_trans G2.out.1 (by omega)) G2.out.2).on ((Below.refl _ _).alloc (Nat.le_refl _) (.cells #[.int .u64 (gi : Nat), .int .u64 (gt : Nat), .slice a8 gm.length c8, .string gd] 25)))
          have J8 := Lib.hid (HJ.out.on HW8.out)
          clear hb hb8 ho8 d1 d2 d3 d4 d5 d6
          obtain ⟨s0, s1, s2, s3⟩ := B8.out.cells
          have hsm := HSM.out gi gt (.slice a8 gm.length c8) (gm.map fun (k : Nat) => (k : Int)) gd gi gt (.slice va vn vc) js gd _ I8.out J8.out
          rw [e7, smB_self] at hsm
          have HSM1 := Lib.hid hsm
          clear hsm
          go_wp2_with fail
          refine HSM1.out.mono ?_
          rintro e w9 ⟨rfl, hb⟩
          have HW9 := Lib.hid (HW8.out.trans (hb.mono HW8.out.size))
          clear hb
          go_wp2
          go_ret
          exact ⟨rfl, HW9.out⟩
        · obtain ⟨e5, e6, e7, e8⟩ := G1.out (by first | decide | trivial | omega)
          subst e5 e6 e7 e8
          go_wp2_with fail
          refine (HCR.out _ _ HS6.out.files HK6.out).mono ?_
          intro e w7 hd
          obtain ⟨v7, rfl, ⟨a7, c7, rfl⟩, hs, hS, _⟩ := HS6.out.step hd HFI.out HLE.out
          have HS7 := Lib.hid hS
          unfold st3 at HS7
          clear d1 d2 d3
          obtain ⟨d1, d2, d3, d4, d5, d6⟩ := hs.dx
          have hb7 : Below w6.heap.size w6 (((w7.setCell ⟨w6.heap.size, 0, none⟩ (.slice a7 f5.length c7)).setCell ⟨w6.heap.size, 1, none⟩ (.bool false)).setCell ⟨w6.heap.size, 2, none⟩ (.int .i64 (-1))) := HS7.out.below
          have HW7 := Lib.hid (HW6.out.trans (hb7.mono HW6.out.size))
          have B7 := Lib.hid (B6.out.below hb7)
          have W7 := Lib.hid (W6.out.on hb7)
          clear hd hs hS hb7
          generalize f5.length = n7 at *
          go_wp2_with fail
          refine (HGL.out _ _ HS7.out.files).mono ?_
          rintro e w8 ⟨⟨v8, rfl, ho8⟩, hb⟩
          obtain ⟨a8, c8, rfl⟩ := ho8.slice
          have hb8 := hb.alloc hb.size (.cells #[.int .u64 (gi : Nat), .int .u64 (gt : Nat), .slice a8 gm.length c8, .string gd] 25)
          have HW8 := Lib.hid (HW7.out.trans (hb8.mono HW7.out.size))
          have B8 := Lib.hid (B7.out.below hb8)
          have W8 := Lib.hid (W7.out.on hb8)
          have GB8 := Lib.hid (Bx4.made w8 (.int .u64 (gi : Nat)) (.int .u64 (gt : Nat)) (.slice a8 gm.length c8) (.string gd) 25)
          have I8 := Lib.hid ((ho8.ints (Nat.le_trans G2.out.1 (by omega)) G2.out.2).on ((Below.refl _ _).alloc (Nat.le_refl _) (.cells #[.int .u64 (gi : Nat), .int .u64 (gt : Nat), .slice a8 gm.length c8, .string gd] 25)))
          have J8 := Lib.hid (HJ.out.on HW8.out)
          clear hb hb8 ho8 d1 d2 d3 d4 d5 d6
          obtain ⟨s0, s1, s2, s3⟩ := B8.out.cells
          have hsm := HSM.out gi gt (.slice a8 gm.length c8) (gm.map fun (k : Nat) => (k : Int)) gd i t (.slice va vn vc) js d _ I8.out J8.out
          generalize smB gi gt (gm.map fun (k : Nat) => (k : Int)) gd i t js d = q at hsm
          have HSM1 := Lib.hid hsm
          clear hsm
          go_wp2_with fail
          refine HSM1.out.mono ?_
          rintro e w9 ⟨rfl, hb⟩
          have HW9 := Lib.hid (HW8.out.trans (hb.mono HW8.out.size))
          cases q
          · have I9 := Lib.hid (I8.out.on hb)
            have WB9 := Lib.hid (W8.out.on hb)
            have GB9 := Lib.hid (GB8.out.below hb)
            have J9 := Lib.hid (WB9.out.ow.ints (Nat.le_trans G2.out.1 (by omega)) G2.out.2)
            have hsm := HSM.out gi gt (.slice a8 gm.length c8) (gm.map fun (k : Nat) => (k : Int)) gd gi gt (.slice aw gm.length cw) (gm.map fun (k : Nat) => (k : Int)) gd _ I9.out J9.out
            rw [smB_self] at hsm
            have HSM2 := Lib.hid hsm
            clear hsm hb
            obtain ⟨k0, k1, k2, k3⟩ := GB9.out.cells
            obtain ⟨l0, l1, l2, l3⟩ := WB9.out.bx.cells
            go_wp2_with fail
            refine HSM2.out.mono ?_
            rintro e w10 ⟨rfl, hb⟩
            have HW10 := Lib.hid (HW9.out.trans (hb.mono HW9.out.size))
            clear hb
            go_wp2
            go_ret
            exact ⟨rfl, HW10.out⟩
          · clear hb
            go_wp2
            go_ret
            exact ⟨rfl, HW9.out⟩
    · obtain ⟨r4, hr4, hsv2⟩ := HNO.out hsv (by first | rfl | trivial)
      have HSV2 := Lib.hid hsv2
      clear hsv hsv2 HSV HC0 HLD0 HNO
      go_wp2_with fail
      refine (HSV2.out _ _ HS4.out.files (HJ.out.on HS4.out.below)).mono ?_
      rintro e w6 ⟨v6, rfl, hf6, -, hb⟩
      obtain ⟨a6, c6, rfl⟩ := files_slice hf6
      have A6 := (Below.refl w6.heap.size w6).alloc (Nat.le_refl _) (.cells #[.slice a6 fs0.length c6, .bool false, .int .i64 (maxF fu)] 37)
      have HS6 := Lib.hid ((HS4.out.keep hb).keep A6)
      have HE6 := Lib.hid (St.new (w := w6) (dn := false) (fu := maxF fu) (Below.refl _ _) hf6)
      clear hb hf6 s0 s1 s2 s3 y0 y1 y2 y3 y4 y5 hmx A6
      obtain ⟨y0, y1, y2, -, -, -⟩ := HS6.out.dx
      obtain ⟨q0, q1, q2, -, -, -⟩ := HE6.out.dx
      have HSD := Lib.hid (same_ref _ _ false false (maxF fu) (maxF fu) fs0 fs0 _ HS6.out.files HE6.out.files)
      rcases hr4 with rfl | rfl
      · go_wp2_with fail
        refine HSD.out.mono ?_
        rintro e w7 ⟨⟨b, rfl, hbb⟩, hb⟩
        obtain rfl : b = true := hbb.2 ⟨rfl, rfl, rfl⟩
        have HW7 := Lib.hid (HS6.out.below.trans (hb.mono HS6.out.below.size))
        clear hb hbb
        go_wp2
        go_ret
        exact ⟨rfl, HW7.out⟩
      · go_wp2_with fail
        refine HSD.out.mono ?_
        rintro e w7 ⟨⟨b, rfl, hbb⟩, hb⟩
        obtain rfl : b = true := hbb.2 ⟨rfl, rfl, rfl⟩
        have HW7 := Lib.hid (HS6.out.below.trans (hb.mono HS6.out.below.size))
        clear hb hbb
        go_wp2
        go_ret
        exact ⟨rfl, HW7.out⟩
  · have hn : ¬ (e0 : Int) = 0 := by omega
    have hn' : ((e0 : Int) != 0) = true := by simp; omega
    go_wp2
    go_ret
    exact ⟨rfl, HS3.out.below⟩
theorem snapOne (v0 : Value) (dn0 : Bool) (fu0 : Int) (l0 : List Fl) (i t : Nat) (v : Value) (js : List Int) (d : ByteArray) (hi : i < 2 ^ 64) (ht : t < 2 ^ 64) (fu : Int) (hfu : (Lit.int .i64 fu).wf = true) (kv : Value) (ks : List Int) (w : World)
    (h0 : Files w w.heap.size v0 l0) (hs : ∀ f ∈ l0, f.da.size ≤ 140737488355328) (hk : Ints w w.heap.size kv ks) (hj : Ints w w.heap.size v js) :
    Calls Try.prog 4 #[.agg #[v0, .bool dn0, .int .i64 fu0], .agg #[.int .u64 (i : Nat), .int .u64 (t : Nat), v, .string d], .int .i64 fu, kv] w fun e w' => e = .returned (.bool true) ∧ Below w.heap.size w w' := by
  have h3 : -9223372036854775808 ≤ fu ∧ fu ≤ 9223372036854775807 := by simpa [Lit.wf, IntKind.min, IntKind.max, IntKind.signed, IntKind.bits] using hfu
  by_cases hc : chkN l0 = 0
  · exact snapOne_go v0 dn0 fu0 l0 (crS l0 [] l0.length) (-1) 0 i t v js d hi ht fu h3.1 h3.2 kv ks w h0 hk hj (fun x hx => crash_own v0 (.slice none 0 0) dn0 fu0 l0 [] x hx ⟨none, 0, rfl, by simp, by simp, by simp⟩ hc) (crash_chk hc) (crash_small hc hs)
  · exact snapOne_go v0 dn0 fu0 l0 [] 0 10 i t v js d hi ht fu h3.1 h3.2 kv ks w h0 hk hj (fun x hx => crash_bad v0 (.slice none 0 0) dn0 fu0 l0 x hx hc) chk_nil (fun f hf => by cases hf)
end Dk
end Go.Proofs.Ytgahilemlnoabaa
