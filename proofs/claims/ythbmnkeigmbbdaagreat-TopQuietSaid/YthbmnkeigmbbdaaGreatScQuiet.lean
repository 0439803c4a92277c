/-
  IS NONE TO GO: sched.Quiet; gafferlaw12.lives.
-/
import Derived.Test.YthbmnkeigmbbdaaGreatScPlan
import Derived.Test.YthbmnkeigmbbdaaGreatBoLivD
namespace Go.Proofs.YthbmnkeigmbbdaaGreat
open Go.RowKit Go.Lib
namespace Bo
open Rw
set_option linter.unusedVariables false
theorem plan_any (b : Bk) (vn vt vb : Value) (f : Nat) (w : World) (hB : Books w w.heap.size vn vt vb b) : Calls Tryz.prog 22 #[.agg #[vn, vt, vb, .int .u64 (b.fe : Nat)], .int .u64 (f : Nat)] w (PlanIs b f w) := by
  cases hc : chkB b
  · exact plan_no b vn vt vb f w hB hc
  · exact plan_ok b vn vt vb f w hB hc
set_option maxRecDepth 100000 in
set_option maxHeartbeats 4000000 in
theorem quiet1 (b : Bk) (g : Nat) (an at' ab : Option Addr) (cn ct cb : Nat) (x : TdM) (z : World) (hx : Hd.Bxn z g [.slice an b.ns.length cn, .slice at' b.ts.length ct, .slice ab b.bs.length cb, .int .u64 (b.fe : Nat)]) (hB : Books z z.heap.size (.slice an b.ns.length cn) (.slice at' b.ts.length ct) (.slice ab b.bs.length cb) b) (hc : chkB b = true) (hdt : DeepT z z.heap.size x) (hft : FitT x.td) :
    Calls Tryz.prog 59 #[.agg #[.string x.td.n, .int .i64 x.td.z0, .int .i64 x.td.z1, .int .i64 x.td.z2, .slice x.a4 x.td.ws.length x.c4, .slice x.a5 x.td.bs.length x.c5, .string x.td.g, .string x.td.a, .int .i64 x.td.r], .pointer (some ⟨g, 0, none⟩)] z fun e z' => e = .returned (.bool (decide (¬ bstV b x.td = ⟨#[]⟩))) ∧ Below z.heap.size z z' := by
  obtain ⟨W0, hW0⟩ : ∃ W0, W0 = z.alloc (.cells #[.string x.td.n, .int .i64 x.td.z0, .int .i64 x.td.z1, .int .i64 x.td.z2, .slice x.a4 x.td.ws.length x.c4, .slice x.a5 x.td.bs.length x.c5, .string x.td.g, .string x.td.a, .int .i64 x.td.r] 42) := ⟨_, rfl⟩
  have HB0 : Hid (Below z.heap.size z W0) := by rw [hW0]; exact al z _
  have HT0 : Hid (Hd.Bxn W0 z.heap.size [.string x.td.n, .int .i64 x.td.z0, .int .i64 x.td.z1, .int .i64 x.td.z2, .slice x.a4 x.td.ws.length x.c4, .slice x.a5 x.td.bs.length x.c5, .string x.td.g, .string x.td.a, .int .i64 x.td.r]) := by rw [hW0]; exact Hd.Bxn.made z _ _
  have HX0 := Lib.hid (hx.below HB0.out)
  have HBS : Hid (Calls Tryz.prog 55 #[.agg #[.slice an b.ns.length cn, .slice at' b.ts.length ct, .slice ab b.bs.length cb, .int .u64 (b.fe : Nat)], .agg #[.string x.td.n, .int .i64 x.td.z0, .int .i64 x.td.z1, .int .i64 x.td.z2, .slice x.a4 x.td.ws.length x.c4, .slice x.a5 x.td.bs.length x.c5, .string x.td.g, .string x.td.a, .int .i64 x.td.r]] W0 fun e w' => e = .returned (.string (bstV b x.td)) ∧ Below W0.heap.size W0 w') := best_any b _ _ _ x W0 (hB.on HB0.out) hc (hdt.on HB0.out) hft
  have HW := Lib.hid hW0
  clear hW0 hx hB hc hdt hft
  by_cases hon : bstV b x.td = ⟨#[]⟩
  · rw [hon] at HBS
    have hd : decide (¬ bstV b x.td = ⟨#[]⟩) = false := by simp [hon]
    rw [hd]
    clear hon hd
    go_enter Tryz.func59, Tryz.ntmps59
    go_upto_region 1 with fail
    rw [← HW.out]
    have p0 : W0.cell? ⟨g, 0, none⟩ = some (.slice an b.ns.length cn) := HX0.out.cell 0
    have p1 : W0.cell? ⟨g, 1, none⟩ = some (.slice at' b.ts.length ct) := HX0.out.cell 1
    have p2 : W0.cell? ⟨g, 2, none⟩ = some (.slice ab b.bs.length cb) := HX0.out.cell 2
    have p3 : W0.cell? ⟨g, 3, none⟩ = some (.int .u64 (b.fe : Nat)) := HX0.out.cell 3
    have t0 : W0.cell? ⟨z.heap.size, 0, none⟩ = some (.string x.td.n) := HT0.out.cell 0
    have t1 : W0.cell? ⟨z.heap.size, 1, none⟩ = some (.int .i64 x.td.z0) := HT0.out.cell 1
    have t2 : W0.cell? ⟨z.heap.size, 2, none⟩ = some (.int .i64 x.td.z1) := HT0.out.cell 2
    have t3 : W0.cell? ⟨z.heap.size, 3, none⟩ = some (.int .i64 x.td.z2) := HT0.out.cell 3
    have t4 : W0.cell? ⟨z.heap.size, 4, none⟩ = some (.slice x.a4 x.td.ws.length x.c4) := HT0.out.cell 4
    have t5 : W0.cell? ⟨z.heap.size, 5, none⟩ = some (.slice x.a5 x.td.bs.length x.c5) := HT0.out.cell 5
    have t6 : W0.cell? ⟨z.heap.size, 6, none⟩ = some (.string x.td.g) := HT0.out.cell 6
    have t7 : W0.cell? ⟨z.heap.size, 7, none⟩ = some (.string x.td.a) := HT0.out.cell 7
    have t8 : W0.cell? ⟨z.heap.size, 8, none⟩ = some (.int .i64 x.td.r) := HT0.out.cell 8
    go_wp2_with fail
    refine HBS.out.mono ?_
    rintro e w1 ⟨rfl, hb⟩
    have HE : Hid (Below z.heap.size z w1) := HB0.out.trans (hb.mono HB0.out.size)
    clear hb p0 p1 p2 p3 t0 t1 t2 t3 t4 t5 t6 t7 t8
    go_wp2
    go_ret
    exact ⟨rfl, HE.out⟩
  · have hd : decide (¬ bstV b x.td = ⟨#[]⟩) = true := decide_eq_true hon
    rw [hd]
    obtain ⟨he3, he4⟩ := ba_neS hon
    generalize bstV b x.td = on at *
    have he2 : (on.toList == []) = false := by simpa using he3
    clear hon hd
    go_enter Tryz.func59, Tryz.ntmps59
    go_upto_region 1 with fail
    rw [← HW.out]
    have p0 : W0.cell? ⟨g, 0, none⟩ = some (.slice an b.ns.length cn) := HX0.out.cell 0
    have p1 : W0.cell? ⟨g, 1, none⟩ = some (.slice at' b.ts.length ct) := HX0.out.cell 1
    have p2 : W0.cell? ⟨g, 2, none⟩ = some (.slice ab b.bs.length cb) := HX0.out.cell 2
    have p3 : W0.cell? ⟨g, 3, none⟩ = some (.int .u64 (b.fe : Nat)) := HX0.out.cell 3
    have t0 : W0.cell? ⟨z.heap.size, 0, none⟩ = some (.string x.td.n) := HT0.out.cell 0
    have t1 : W0.cell? ⟨z.heap.size, 1, none⟩ = some (.int .i64 x.td.z0) := HT0.out.cell 1
    have t2 : W0.cell? ⟨z.heap.size, 2, none⟩ = some (.int .i64 x.td.z1) := HT0.out.cell 2
    have t3 : W0.cell? ⟨z.heap.size, 3, none⟩ = some (.int .i64 x.td.z2) := HT0.out.cell 3
    have t4 : W0.cell? ⟨z.heap.size, 4, none⟩ = some (.slice x.a4 x.td.ws.length x.c4) := HT0.out.cell 4
    have t5 : W0.cell? ⟨z.heap.size, 5, none⟩ = some (.slice x.a5 x.td.bs.length x.c5) := HT0.out.cell 5
    have t6 : W0.cell? ⟨z.heap.size, 6, none⟩ = some (.string x.td.g) := HT0.out.cell 6
    have t7 : W0.cell? ⟨z.heap.size, 7, none⟩ = some (.string x.td.a) := HT0.out.cell 7
    have t8 : W0.cell? ⟨z.heap.size, 8, none⟩ = some (.int .i64 x.td.r) := HT0.out.cell 8
    go_wp2_with fail
    refine HBS.out.mono ?_
    rintro e w1 ⟨rfl, hb⟩
    have HE : Hid (Below z.heap.size z w1) := HB0.out.trans (hb.mono HB0.out.size)
    clear hb p0 p1 p2 p3 t0 t1 t2 t3 t4 t5 t6 t7 t8
    go_wp2
    go_ret
    exact ⟨rfl, HE.out⟩
set_option maxRecDepth 100000 in
set_option maxHeartbeats 4000000 in
/-- Is there none that can go anywhere? -/
def quiV (b : Bk) : Bool := if chkB b = true then !(wtV b).any (fun t => decide (¬ bstV b t = ⟨#[]⟩)) else false
theorem quiet_any (b : Bk) (vn vt vb : Value) (w : World) (hB : Books w w.heap.size vn vt vb b) : Calls Tryz.prog 24 #[.agg #[vn, vt, vb, .int .u64 (b.fe : Nat)]] w fun e w' => e = .returned (.tuple #[.bool (quiV b), .int .i64 (chE (chkB b) : Nat)]) ∧ Below w.heap.size w w' := by
  obtain ⟨⟨an, cn, rfl⟩, ⟨at', ct, rfl⟩, ⟨ab, cb, rfl⟩⟩ := And.intro hB.hn.slice (And.intro hB.ht.slice hB.hb.slice)
  have hE : ∀ args z, (callFunc 59 args).run Tryz.prog z = .ok (.enter 59 args) z := enters_of Tryz.func59 (by kernel_rfl) rfl
  obtain ⟨W0, hW0⟩ : ∃ W0, W0 = w.alloc (.cells #[.slice an b.ns.length cn, .slice at' b.ts.length ct, .slice ab b.bs.length cb, .int .u64 (b.fe : Nat)] 27) := ⟨_, rfl⟩
  have HB0 : Hid (Below w.heap.size w W0) := by rw [hW0]; exact al w _
  have HX0 : Hid (Hd.Bxn W0 w.heap.size [.slice an b.ns.length cn, .slice at' b.ts.length ct, .slice ab b.bs.length cb, .int .u64 (b.fe : Nat)]) := by rw [hW0]; exact Hd.Bxn.made w _ _
  have HBK : Hid (∀ z, Below w.heap.size w z → Books z z.heap.size (.slice an b.ns.length cn) (.slice at' b.ts.length ct) (.slice ab b.bs.length cb) b) := fun z hz => hB.on hz
  have HWQ : Hid (∀ z, Below w.heap.size w z → Calls Tryz.prog 12 #[.agg #[.slice an b.ns.length cn, .slice at' b.ts.length ct, .slice ab b.bs.length cb, .int .u64 (b.fe : Nat)]] z (fun e w' => ∃ (a : Option Addr) (c : Nat) (m : List TdM), e = .returned (.tuple #[.slice a m.length c, .int .i64 (chE (chkB b) : Nat)]) ∧ Own w' z.heap.size 42 (.slice a m.length c) m ∧ m.map (·.td) = (if chkB b = true then wtV b else []) ∧ (∀ x ∈ m, OwnT w' z.heap.size x) ∧ Below z.heap.size z w')) := fun z hz => by
    refine (waitq_any b _ _ _ z (HBK.out z hz)).mono ?_
    rintro e w' ⟨v, m, he, ho, hm, hn, hb⟩
    obtain ⟨a, c, rfl⟩ := ho.slice
    exact ⟨a, c, m, he, ho, hm, hn, hb⟩
  have HFI : Hid (chkB b = true → ∀ t ∈ wtV b, FitT t) := fun hc t ht => (hB.fine hc).ft t ((wt_mem (rb_of_chk hc)).1 ht).1
  have HLN : Hid (chkB b = true → (wtV b).length ≤ 32) := fun hc => by have h2 := wt_len (rb_of_chk hc); have h3 := (rb_of_chk hc).lt; omega
  have HW := Lib.hid hW0
  clear hW0 hB
  cases hc : chkB b
  · have hq : quiV b = false := by unfold quiV; rw [hc, if_neg (by decide)]
    rw [hq]
    rw [hc] at HWQ
    clear hq hc HFI HLN
    go_enter Tryz.func24, Tryz.ntmps24
    go_upto_region 1 with fail
    rw [← HW.out]
    have p0 : W0.cell? ⟨w.heap.size, 0, none⟩ = some (.slice an b.ns.length cn) := HX0.out.cell 0
    have p1 : W0.cell? ⟨w.heap.size, 1, none⟩ = some (.slice at' b.ts.length ct) := HX0.out.cell 1
    have p2 : W0.cell? ⟨w.heap.size, 2, none⟩ = some (.slice ab b.bs.length cb) := HX0.out.cell 2
    have p3 : W0.cell? ⟨w.heap.size, 3, none⟩ = some (.int .u64 (b.fe : Nat)) := HX0.out.cell 3
    go_wp2_with fail
    refine (HWQ.out W0 HB0.out).mono ?_
    rintro e w1 ⟨a, c, m, rfl, -, -, -, hb⟩
    have HE : Hid (Below w.heap.size w w1) := HB0.out.trans (hb.mono HB0.out.size)
    have h10 : chE false = 10 := rfl
    rw [h10]
    clear hb p0 p1 p2 p3 HX0 HWQ
    go_wp2
    go_ret2
    exact ⟨rfl, HE.out⟩
  · have HC := Lib.hid hc
    have HQ : Hid (quiV b = !(wtV b).any (fun t => decide (¬ bstV b t = ⟨#[]⟩))) := by show _ = _; unfold quiV; rw [if_pos hc]
    rw [hc] at HWQ
    clear hc
    go_enter Tryz.func24, Tryz.ntmps24
    go_upto_region 1 with fail
    rw [← HW.out]
    have p0 : W0.cell? ⟨w.heap.size, 0, none⟩ = some (.slice an b.ns.length cn) := HX0.out.cell 0
    have p1 : W0.cell? ⟨w.heap.size, 1, none⟩ = some (.slice at' b.ts.length ct) := HX0.out.cell 1
    have p2 : W0.cell? ⟨w.heap.size, 2, none⟩ = some (.slice ab b.bs.length cb) := HX0.out.cell 2
    have p3 : W0.cell? ⟨w.heap.size, 3, none⟩ = some (.int .u64 (b.fe : Nat)) := HX0.out.cell 3
    go_wp2_with fail
    refine (HWQ.out W0 HB0.out).mono ?_
    rintro e w1 ⟨a, c, m, rfl, hom, hmm, hnm, hb⟩
    rw [if_pos trivial] at hmm
    have HB1 : Hid (Below w.heap.size w w1) := HB0.out.trans (hb.mono HB0.out.size)
    have HX1 := Lib.hid (HX0.out.below hb)
    have HLM : Hid (m.length ≤ 32) := by have h1 := congrArg List.length hmm; rw [List.length_map] at h1; have h2 := HLN.out HC.out; show _ ≤ _; omega
    have HCF : Hid (Calls Tryz.prog 45 #[.slice a m.length c, .func (.func 59) #[] #[.pointer (some ⟨w.heap.size, 0, none⟩)]] w1 fun e w' => e = .returned (.bool (!quiV b)) ∧ Below w1.heap.size w1 w') := by
      refine (contains_t 59 hE (.pointer (some ⟨w.heap.size, 0, none⟩)) (fun x => decide (¬ bstV b x.td = ⟨#[]⟩)) _ m w1 (hom.sl (by have := HLM.out; omega)) (fun x hx z hz => ?_)).mono ?_
      · have hft : FitT x.td := HFI.out HC.out _ (by rw [← hmm]; exact List.mem_map_of_mem hx)
        exact quiet1 b w.heap.size an at' ab cn ct cb x z (HX1.out.below hz) (HBK.out z (HB1.out.trans (hz.mono HB1.out.size))) HC.out (((hnm x hx).keep hz).deep hft) hft
      · rintro e w' ⟨he, hb'⟩
        refine ⟨?_, hb'⟩
        rw [he, HQ.out, Bool.not_not, ← hmm, List.any_map]
        rfl
    clear hb hom hmm hnm p0 p1 p2 p3 HX0 HWQ HQ
    have h0 : chE true = 0 := rfl
    rw [h0]
    obtain ⟨qq, hq⟩ : ∃ qq, quiV b = qq := ⟨_, rfl⟩
    have HQV := Lib.hid hq
    rw [hq] at HCF
    clear hq
    cases qq
    all_goals
      go_wp2_with fail
      refine HCF.out.mono ?_
      rintro e w2 ⟨rfl, hb⟩
      have HE : Hid (Below w.heap.size w w2) := HB1.out.trans (hb.mono HB1.out.size)
      clear hb HCF
      go_wp2
      go_ret2
      exact ⟨by rw [HQV.out]; rfl, HE.out⟩
def lsT (n : ByteArray) (r : Int) : Hd.Td := ⟨n, 3, 0, 0, [], [], ⟨#[]⟩, ⟨#[]⟩, r⟩
def lsB : Bk := ⟨[lvN], [lsT ⟨#[97]⟩ 1, lsT ⟨#[98]⟩ 2], [], 0⟩
theorem ls_chk : chkB lsB = true := by kernel_rfl
theorem ls_pl : planV lsB = [⟨⟨#[98]⟩, ⟨#[110]⟩⟩] := by kernel_rfl
theorem ls_qu : quiV lsB = false := by kernel_rfl
theorem ls_q0 : quiV bk0 = true := by kernel_rfl
theorem ls_f3 : FitT (lsT ⟨#[97]⟩ 1) := by unfold FitT FitS FitL Rg.In64 lsT; decide +kernel
theorem ls_f4 : FitT (lsT ⟨#[98]⟩ 2) := by unfold FitT FitS FitL Rg.In64 lsT; decide +kernel
theorem ls_none (w : World) : Books w w.heap.size (.slice none 0 0) (.slice none 0 0) (.slice none 0 0) bk0 := ⟨⟨[], rfl, Sl.nil _ _ _, by simp, by decide⟩, ⟨[], rfl, Sl.nil _ _ _, by simp, by decide⟩, ⟨Sl.nil _ _ _, by simp [bk0], by decide⟩, by decide⟩
theorem ls_books (w : World) : Books (((w.alloc (.cells #[.string ⟨#[110]⟩, .int .i64 5, .int .i64 0, .int .i64 0, .slice none 0 0, .slice none 0 0] 45)).alloc (.cells #[.string ⟨#[97]⟩, .int .i64 3, .int .i64 0, .int .i64 0, .slice none 0 0, .slice none 0 0, .string ⟨#[]⟩, .string ⟨#[]⟩, .int .i64 1, .string ⟨#[98]⟩, .int .i64 3, .int .i64 0, .int .i64 0, .slice none 0 0, .slice none 0 0, .string ⟨#[]⟩, .string ⟨#[]⟩, .int .i64 2] 42)).alloc (.cells #[.slice (some ⟨w.heap.size, 0, none⟩) 1 1, .slice (some ⟨w.heap.size + 1, 0, none⟩) 2 2, .slice none 0 0, .int .u64 0] 27)) (w.heap.size + 1 + 1 + 1) (.slice (some ⟨w.heap.size, 0, none⟩) 1 1) (.slice (some ⟨w.heap.size + 1, 0, none⟩) 2 2) (.slice none 0 0) lsB := by
  have hn : Sl (w.alloc (.cells #[.string ⟨#[110]⟩, .int .i64 5, .int .i64 0, .int .i64 0, .slice none 0 0, .slice none 0 0] 45)) w.heap.size (w.heap.size + 1) (.slice (some ⟨w.heap.size, 0, none⟩) 1 1) [(⟨lvN, none, 0, none, 0⟩ : NdM)] := by
    have h := sl_new w [(⟨lvN, none, 0, none, 0⟩ : NdM)] 45 (by simp)
    simp only [World.size_alloc] at h
    exact h
  have ht : Sl ((w.alloc (.cells #[.string ⟨#[110]⟩, .int .i64 5, .int .i64 0, .int .i64 0, .slice none 0 0, .slice none 0 0] 45)).alloc (.cells #[.string ⟨#[97]⟩, .int .i64 3, .int .i64 0, .int .i64 0, .slice none 0 0, .slice none 0 0, .string ⟨#[]⟩, .string ⟨#[]⟩, .int .i64 1, .string ⟨#[98]⟩, .int .i64 3, .int .i64 0, .int .i64 0, .slice none 0 0, .slice none 0 0, .string ⟨#[]⟩, .string ⟨#[]⟩, .int .i64 2] 42)) (w.heap.size + 1) (w.heap.size + 1 + 1) (.slice (some ⟨w.heap.size + 1, 0, none⟩) 2 2) [(⟨lsT ⟨#[97]⟩ 1, none, 0, none, 0⟩ : TdM), ⟨lsT ⟨#[98]⟩ 2, none, 0, none, 0⟩] := by
    have h := sl_new (w.alloc (.cells #[.string ⟨#[110]⟩, .int .i64 5, .int .i64 0, .int .i64 0, .slice none 0 0, .slice none 0 0] 45)) [(⟨lsT ⟨#[97]⟩ 1, none, 0, none, 0⟩ : TdM), ⟨lsT ⟨#[98]⟩ 2, none, 0, none, 0⟩] 42 (by simp)
    simp only [World.size_alloc] at h
    exact h
  have hBC : Below (w.heap.size + 1) (w.alloc (.cells #[.string ⟨#[110]⟩, .int .i64 5, .int .i64 0, .int .i64 0, .slice none 0 0, .slice none 0 0] 45)) ((w.alloc (.cells #[.string ⟨#[110]⟩, .int .i64 5, .int .i64 0, .int .i64 0, .slice none 0 0, .slice none 0 0] 45)).alloc (.cells #[.string ⟨#[97]⟩, .int .i64 3, .int .i64 0, .int .i64 0, .slice none 0 0, .slice none 0 0, .string ⟨#[]⟩, .string ⟨#[]⟩, .int .i64 1, .string ⟨#[98]⟩, .int .i64 3, .int .i64 0, .int .i64 0, .slice none 0 0, .slice none 0 0, .string ⟨#[]⟩, .string ⟨#[]⟩, .int .i64 2] 42)) := by have h := al (w.alloc (.cells #[.string ⟨#[110]⟩, .int .i64 5, .int .i64 0, .int .i64 0, .slice none 0 0, .slice none 0 0] 45)) (.cells #[.string ⟨#[97]⟩, .int .i64 3, .int .i64 0, .int .i64 0, .slice none 0 0, .slice none 0 0, .string ⟨#[]⟩, .string ⟨#[]⟩, .int .i64 1, .string ⟨#[98]⟩, .int .i64 3, .int .i64 0, .int .i64 0, .slice none 0 0, .slice none 0 0, .string ⟨#[]⟩, .string ⟨#[]⟩, .int .i64 2] 42); simp only [World.size_alloc] at h; exact h
  have hCD : Below (w.heap.size + 1 + 1) ((w.alloc (.cells #[.string ⟨#[110]⟩, .int .i64 5, .int .i64 0, .int .i64 0, .slice none 0 0, .slice none 0 0] 45)).alloc (.cells #[.string ⟨#[97]⟩, .int .i64 3, .int .i64 0, .int .i64 0, .slice none 0 0, .slice none 0 0, .string ⟨#[]⟩, .string ⟨#[]⟩, .int .i64 1, .string ⟨#[98]⟩, .int .i64 3, .int .i64 0, .int .i64 0, .slice none 0 0, .slice none 0 0, .string ⟨#[]⟩, .string ⟨#[]⟩, .int .i64 2] 42)) (((w.alloc (.cells #[.string ⟨#[110]⟩, .int .i64 5, .int .i64 0, .int .i64 0, .slice none 0 0, .slice none 0 0] 45)).alloc (.cells #[.string ⟨#[97]⟩, .int .i64 3, .int .i64 0, .int .i64 0, .slice none 0 0, .slice none 0 0, .string ⟨#[]⟩, .string ⟨#[]⟩, .int .i64 1, .string ⟨#[98]⟩, .int .i64 3, .int .i64 0, .int .i64 0, .slice none 0 0, .slice none 0 0, .string ⟨#[]⟩, .string ⟨#[]⟩, .int .i64 2] 42)).alloc (.cells #[.slice (some ⟨w.heap.size, 0, none⟩) 1 1, .slice (some ⟨w.heap.size + 1, 0, none⟩) 2 2, .slice none 0 0, .int .u64 0] 27)) := by have h := al ((w.alloc (.cells #[.string ⟨#[110]⟩, .int .i64 5, .int .i64 0, .int .i64 0, .slice none 0 0, .slice none 0 0] 45)).alloc (.cells #[.string ⟨#[97]⟩, .int .i64 3, .int .i64 0, .int .i64 0, .slice none 0 0, .slice none 0 0, .string ⟨#[]⟩, .string ⟨#[]⟩, .int .i64 1, .string ⟨#[98]⟩, .int .i64 3, .int .i64 0, .int .i64 0, .slice none 0 0, .slice none 0 0, .string ⟨#[]⟩, .string ⟨#[]⟩, .int .i64 2] 42)) (.cells #[.slice (some ⟨w.heap.size, 0, none⟩) 1 1, .slice (some ⟨w.heap.size + 1, 0, none⟩) 2 2, .slice none 0 0, .int .u64 0] 27); simp only [World.size_alloc] at h; exact h
  have hBD := hBC.trans (hCD.mono (by omega))
  refine ⟨⟨_, rfl, (hn.keep hBD).more (by omega) (Nat.zero_le _), ?_, by decide⟩, ⟨_, rfl, (ht.keep hCD).more (by omega) (Nat.zero_le _), ?_, by decide⟩, ⟨Sl.nil _ _ _, by simp [lsB], by decide⟩, by decide⟩
  · intro x hx
    rw [List.mem_singleton.1 hx]
    exact ⟨⟨Sl.nil _ _ _, Sl.nil _ _ _⟩, fitN1⟩
  · intro x hx
    rcases List.mem_cons.1 hx with rfl | hx
    · exact ⟨⟨Sl.nil _ _ _, Sl.nil _ _ _⟩, ls_f3⟩
    · rw [List.mem_singleton.1 hx]
      exact ⟨⟨Sl.nil _ _ _, Sl.nil _ _ _⟩, ls_f4⟩
set_option maxRecDepth 100000 in
set_option maxHeartbeats 4000000 in
theorem livesS_any (w : World) : Calls Tryz.prog 26 #[] w fun e w' => e = .returned (.bool true) ∧ Below w.heap.size w w' := by
  obtain ⟨W1, hW1⟩ : ∃ W1, W1 = ((w.alloc (.cells #[.string ⟨#[110]⟩, .int .i64 5, .int .i64 0, .int .i64 0, .slice none 0 0, .slice none 0 0] 45)).alloc (.cells #[.string ⟨#[97]⟩, .int .i64 3, .int .i64 0, .int .i64 0, .slice none 0 0, .slice none 0 0, .string ⟨#[]⟩, .string ⟨#[]⟩, .int .i64 1, .string ⟨#[98]⟩, .int .i64 3, .int .i64 0, .int .i64 0, .slice none 0 0, .slice none 0 0, .string ⟨#[]⟩, .string ⟨#[]⟩, .int .i64 2] 42)).alloc (.cells #[.slice (some ⟨w.heap.size, 0, none⟩) 1 1, .slice (some ⟨w.heap.size + 1, 0, none⟩) 2 2, .slice none 0 0, .int .u64 0] 27) := ⟨_, rfl⟩
  have hz : W1.heap.size = w.heap.size + 1 + 1 + 1 := by rw [hW1]; simp
  have hbk : Books W1 W1.heap.size (.slice (some ⟨w.heap.size, 0, none⟩) 1 1) (.slice (some ⟨w.heap.size + 1, 0, none⟩) 2 2) (.slice none 0 0) lsB := by rw [hz, hW1]; exact ls_books w
  have hbw : Below w.heap.size w W1 := by rw [hW1]; exact ((al w _).alloc (by simp) _).alloc (by simp; omega) _
  have hbx : Hd.Bxn W1 (w.heap.size + 1 + 1) [.slice (some ⟨w.heap.size, 0, none⟩) 1 1, .slice (some ⟨w.heap.size + 1, 0, none⟩) 2 2, .slice none 0 0, .int .u64 0] := by
    rw [hW1]
    have := Hd.Bxn.made ((w.alloc (.cells #[.string ⟨#[110]⟩, .int .i64 5, .int .i64 0, .int .i64 0, .slice none 0 0, .slice none 0 0] 45)).alloc (.cells #[.string ⟨#[97]⟩, .int .i64 3, .int .i64 0, .int .i64 0, .slice none 0 0, .slice none 0 0, .string ⟨#[]⟩, .string ⟨#[]⟩, .int .i64 1, .string ⟨#[98]⟩, .int .i64 3, .int .i64 0, .int .i64 0, .slice none 0 0, .slice none 0 0, .string ⟨#[]⟩, .string ⟨#[]⟩, .int .i64 2] 42)) [.slice (some ⟨w.heap.size, 0, none⟩) 1 1, .slice (some ⟨w.heap.size + 1, 0, none⟩) 2 2, .slice none 0 0, .int .u64 0] 27
    simp only [World.size_alloc] at this
    exact this
  have HPQ : Hid (∀ z, Below W1.heap.size W1 z → Calls Tryz.prog 22 #[.agg #[.slice (some ⟨w.heap.size, 0, none⟩) 1 1, .slice (some ⟨w.heap.size + 1, 0, none⟩) 2 2, .slice none 0 0, .int .u64 0], .int .u64 7] z fun e w' => ∃ g cap, e = .returned (.tuple #[.slice (some ⟨g, 0, none⟩) 1 cap, .int .i64 0]) ∧ g < w'.heap.size ∧ w'.cell? ⟨g, 16, none⟩ = some (.string ⟨#[98]⟩) ∧ w'.cell? ⟨g, 17, none⟩ = some (.string ⟨#[110]⟩) ∧ w'.cell? ⟨g, 18, none⟩ = some (.int .u64 7) ∧ Below z.heap.size z w') := fun z hz => by
    refine (plan_any lsB _ _ _ 7 z (hbk.on hz)).mono ?_
    rintro e w' ⟨v, he, ho, hb⟩
    rw [ls_pl] at ho
    obtain ⟨g, cap, rfl, -, hgl, hat, -⟩ := ho.form (by decide)
    refine ⟨g, cap, ?_, hgl, hat 0 (by decide) 16 _ rfl, hat 0 (by decide) 17 _ rfl, hat 0 (by decide) 18 _ rfl, hb⟩
    rw [he, ls_chk]
    rfl
  have HQQ : Hid (∀ z, Below W1.heap.size W1 z → Calls Tryz.prog 24 #[.agg #[.slice (some ⟨w.heap.size, 0, none⟩) 1 1, .slice (some ⟨w.heap.size + 1, 0, none⟩) 2 2, .slice none 0 0, .int .u64 0]] z fun e w' => e = .returned (.tuple #[.bool false, .int .i64 0]) ∧ Below z.heap.size z w') := fun z hz => by
    refine (quiet_any lsB _ _ _ z (hbk.on hz)).mono ?_
    rintro e w' ⟨he, hb⟩
    refine ⟨?_, hb⟩
    rw [he, ls_chk, ls_qu]
    rfl
  have HQZ : Hid (∀ z, Calls Tryz.prog 24 #[.agg #[.slice none 0 0, .slice none 0 0, .slice none 0 0, .int .u64 0]] z fun e w' => e = .returned (.tuple #[.bool true, .int .i64 0]) ∧ Below z.heap.size z w') := fun z => by
    refine (quiet_any bk0 _ _ _ z (ls_none z)).mono ?_
    rintro e w' ⟨he, hb⟩
    refine ⟨?_, hb⟩
    rw [he, ls_q0]
    rfl
  have HW := Lib.hid hW1
  have HX := Lib.hid hbx
  have HB0 := Lib.hid hbw
  clear hW1 hz hbk hbw hbx
  go_enter Tryz.func26, Tryz.ntmps26
  go_upto_region 2 with fail
  rw [← HW.out]
  have b0 : W1.cell? ⟨w.heap.size + 1 + 1, 0, none⟩ = some (.slice (some ⟨w.heap.size, 0, none⟩) 1 1) := HX.out.cell 0
  have b1 : W1.cell? ⟨w.heap.size + 1 + 1, 1, none⟩ = some (.slice (some ⟨w.heap.size + 1, 0, none⟩) 2 2) := HX.out.cell 1
  have b2 : W1.cell? ⟨w.heap.size + 1 + 1, 2, none⟩ = some (.slice none 0 0) := HX.out.cell 2
  have b3 : W1.cell? ⟨w.heap.size + 1 + 1, 3, none⟩ = some (.int .u64 0) := HX.out.cell 3
  go_wp2_with fail
  refine (HPQ.out W1 (Below.refl _ _)).mono ?_
  rintro e w1 ⟨g, cap, rfl, hgl, hg0, hg1, hg2, hb⟩
  have HG := Lib.hid (And.intro hg0 (And.intro hg1 hg2))
  have HGL := Lib.hid hgl
  have H1 : Hid (Below W1.heap.size W1 w1) := hb
  have HX1 := Lib.hid (HX.out.below hb)
  clear hb b0 b1 b2 b3 hg0 hg1 hg2 hgl
  have b0 : w1.cell? ⟨w.heap.size + 1 + 1, 0, none⟩ = some (.slice (some ⟨w.heap.size, 0, none⟩) 1 1) := HX1.out.cell 0
  have b1 : w1.cell? ⟨w.heap.size + 1 + 1, 1, none⟩ = some (.slice (some ⟨w.heap.size + 1, 0, none⟩) 2 2) := HX1.out.cell 1
  have b2 : w1.cell? ⟨w.heap.size + 1 + 1, 2, none⟩ = some (.slice none 0 0) := HX1.out.cell 2
  have b3 : w1.cell? ⟨w.heap.size + 1 + 1, 3, none⟩ = some (.int .u64 0) := HX1.out.cell 3
  go_wp2_with fail
  refine (HQQ.out w1 H1.out).mono ?_
  rintro e w2 ⟨rfl, hb⟩
  have H2 : Hid (Below W1.heap.size W1 w2) := H1.out.trans (hb.mono H1.out.size)
  have HU2 : Hid (Below w1.heap.size w1 w2) := hb
  clear hb b0 b1 b2 b3
  go_wp2_with fail
  refine (HQZ.out w2).mono ?_
  rintro e w3 ⟨rfl, hb⟩
  have H3 : Hid (Below W1.heap.size W1 w3) := H2.out.trans (hb.mono H2.out.size)
  have HU3 : Hid (Below w1.heap.size w1 w3) := HU2.out.trans (hb.mono HU2.out.size)
  have c0 : w3.cell? ⟨g, 16, none⟩ = some (.string ⟨#[98]⟩) := (HU3.out.cell (p := ⟨g, 16, none⟩) HGL.out).trans HG.out.1
  have c1 : w3.cell? ⟨g, 17, none⟩ = some (.string ⟨#[110]⟩) := (HU3.out.cell (p := ⟨g, 17, none⟩) HGL.out).trans HG.out.2.1
  have c2 : w3.cell? ⟨g, 18, none⟩ = some (.int .u64 7) := (HU3.out.cell (p := ⟨g, 18, none⟩) HGL.out).trans HG.out.2.2
  have HE : Hid (Below w.heap.size w w3) := HB0.out.trans (H3.out.mono HB0.out.size)
  clear hb
  go_wp2
  go_ret
  exact ⟨rfl, HE.out⟩
end Bo
end Go.Proofs.YthbmnkeigmbbdaaGreat
