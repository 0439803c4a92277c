/-
  A PLAN: sched.bind, sched.Plan.
-/
import Derived.Test.YthbmnkeigmbbdaaGreatScBest
import Derived.Test.YthbmnkeigmbbdaaGreatQeD
import Derived.Test.YthbmnkeigmbbdaaGreatBgA
namespace Go.Proofs.YthbmnkeigmbbdaaGreat
open Go.RowKit Go.Lib
namespace Bo
open Rw
set_option linter.unusedVariables false
/-- A step as it lies in a row. -/
structure Stp where
  k : ByteArray
  v : ByteArray
  fe : Nat
def stE (x : Stp) : List Value := [.int .u8 5, .string ⟨#[]⟩, .int .i64 0, .int .i64 0, .int .i64 0, .slice none 0 0, .slice none 0 0, .string ⟨#[]⟩, .int .i64 0, .int .i64 0, .int .i64 0, .slice none 0 0, .slice none 0 0, .string ⟨#[]⟩, .string ⟨#[]⟩, .int .i64 0, .string x.k, .string x.v, .int .u64 (x.fe : Nat)]
theorem stE_one (x : Stp) : ∀ u ∈ stE x, u.oneCell' = true := List.all_eq_true.1 (show List.all (stE x) (fun v => v.oneCell') = true from rfl)
instance : Rw.Flat Stp := ⟨stE, 19, by omega, fun _ => rfl, stE_one⟩
theorem Own.farS {α : Type} [F : Flat α] {w w' : World} {base P : Nat} {e : TypeId} {v : Value} {l : List α} (h : Own w base e v l) (hg : w.grownBy w' (some P)) (hp : P < base) : Own w' base e v l := by
  refine h.other hg ?_
  cases ho : v.ownBlock with
  | none => exact .inl rfl
  | some q => exact .inr fun e => by have := (h.lt q ho).1; have e := Option.some.inj e; omega
theorem OwnT.farS {w w' : World} {base P : Nat} {x : TdM} (h : OwnT w base x) (hg : w.grownBy w' (some P)) (hp : P < base) : OwnT w' base x := ⟨Own.farS h.1 hg hp, Own.farS h.2 hg hp⟩
theorem Kept.off {z w w' : World} {b : Bk} {vn vt vb : Value} {base : Nat} {v : Value} {l : List Stp} (h : Kept z w b vn vt vb) (k : Own w base 55 v l) (hg : w.grownBy w' v.ownBlock) : Kept z w' b vn vt vb := by
  obtain ⟨mn, mt, h1, h2, h3, h4⟩ := h
  exact ⟨mn, mt, h1, h2, ⟨h3.hn.other hg (h3.hn.apart k (by decide)), h3.ht.other hg (h3.ht.apart k (by decide)), h3.hb.other hg (h3.hb.apart k (by decide)), fun x hx => (h3.dn x hx).off k (by decide) hg, fun x hx => (h3.dt x hx).off k (by decide) hg⟩, h4⟩
/-- A book that came in, or that was given. -/
def BkIn (w wx : World) (c : Bk) (vn vt vb : Value) : Prop := (∀ z, Below w.heap.size w z → Books z z.heap.size vn vt vb c) ∨ ∃ z : World, w.heap.size < z.heap.size ∧ Kept z wx c vn vt vb
theorem BkIn.books {w wx : World} {c : Bk} {vn vt vb : Value} (h : BkIn w wx c vn vt vb) (hb : Below w.heap.size w wx) : Books wx wx.heap.size vn vt vb c := h.elim (fun h => h wx hb) (fun ⟨_, _, h⟩ => h.books)
theorem BkIn.keep {w wx wy : World} {c : Bk} {vn vt vb : Value} (h : BkIn w wx c vn vt vb) (hb : Below wx.heap.size wx wy) : BkIn w wy c vn vt vb := h.elim .inl (fun ⟨z, h1, h2⟩ => .inr ⟨z, h1, h2.keep hb⟩)
theorem BkIn.off {w wx wy : World} {c : Bk} {vn vt vb : Value} {base : Nat} {v : Value} {l : List Stp} (h : BkIn w wx c vn vt vb) (k : Own wx base 55 v l) (hg : wx.grownBy wy v.ownBlock) : BkIn w wy c vn vt vb := h.elim .inl (fun ⟨z, h1, h2⟩ => .inr ⟨z, h1, h2.off k hg⟩)
theorem grown_of {a b : World} (q : Option Nat) (h : Below a.heap.size a b) : a.grownBy b q := ⟨h.os, h.tape, h.output, h.size, fun k hk _ => h.block k hk⟩
theorem grown_tr {a b c : World} {q : Option Nat} (h : a.grownBy b q) (k : b.grownBy c q) : a.grownBy c q := ⟨k.os.trans h.os, k.tape.trans h.tape, k.output.trans h.output, Nat.le_trans h.size k.size, fun i hi hn => (k.block i (Nat.lt_of_lt_of_le hi h.size) hn).trans (h.block i hi hn)⟩
theorem grown_new {a b c : World} {q r : Option Nat} (h : a.grownBy b q) (k : b.grownBy c r) (hr : ∀ g, r = some g → a.heap.size ≤ g) : a.grownBy c q := ⟨k.os.trans h.os, k.tape.trans h.tape, k.output.trans h.output, Nat.le_trans h.size k.size, fun i hi hn => (k.block i (Nat.lt_of_lt_of_le hi h.size) (fun e => by have := hr i e.symm; omega)).trans (h.block i hi hn)⟩
/-- A step: a bind. -/
def stp (f : Nat) (p : Rg.Pr) : Stp := ⟨p.k, p.v, f⟩
/-- The steps for those that wait. -/
def plG : Bk → List Hd.Td → List Rg.Pr → Bk × List Rg.Pr
  | b, [], s => (b, s)
  | b, t :: r, s => if s.length = 8 then (b, s) else if bstV b t = ⟨#[]⟩ then plG b r s else plG (biB b t.n (bstV b t) b.fe).1 r (s ++ [⟨t.n, bstV b t⟩])
def planV (b : Bk) : List Rg.Pr := if chkB b = true then (plG b (wtV b) []).2 else []
theorem pl_nil (b : Bk) (s : List Rg.Pr) : plG b [] s = (b, s) := rfl
theorem pl_full {b : Bk} {t : Hd.Td} {r : List Hd.Td} {s : List Rg.Pr} (h : s.length = 8) : plG b (t :: r) s = (b, s) := if_pos h
theorem pl_skip {b : Bk} {t : Hd.Td} {r : List Hd.Td} {s : List Rg.Pr} (h : ¬ s.length = 8) (h2 : bstV b t = ⟨#[]⟩) : plG b (t :: r) s = plG b r s := by
  show (if _ then _ else _) = _
  rw [if_neg h, if_pos h2]
theorem pl_step {b : Bk} {t : Hd.Td} {r : List Hd.Td} {s : List Rg.Pr} (h : ¬ s.length = 8) (h2 : ¬ bstV b t = ⟨#[]⟩) : plG b (t :: r) s = plG (biB b t.n (bstV b t) b.fe).1 r (s ++ [⟨t.n, bstV b t⟩]) := by
  show (if _ then _ else _) = _
  rw [if_neg h, if_neg h2]
/-- A step is done. -/
theorem step_done {c : Bk} {t : Hd.Td} (hc : chkB c = true) (h : ¬ bstV c t = ⟨#[]⟩) : canE c t.n (bstV c t) = 0 ∧ bstV c t ∈ c.ns.map (·.n) ∧ chkB (biB c t.n (bstV c t) c.fe).1 = true ∧ doF c (oBnd t.n (bstV c t) c.fe) = ((biB c t.n (bstV c t) c.fe).1, 0, ByteArray.empty) ∧ (biB c t.n (bstV c t) c.fe).1.fe = c.fe := by
  have hf : frV c t.n ≠ [] := fun e => h (bst_none e)
  obtain ⟨h1, h2, -⟩ := fr_sub (bst_some (t := t) hf)
  have hb : biB c t.n (bstV c t) c.fe = (⟨c.ns, c.ts, insR c.bs (lbB c.bs t.n) ⟨t.n, bstV c t⟩, c.fe⟩, 0) := by
    unfold biB
    rw [if_neg (Nat.lt_irrefl _), if_pos h2]
  refine ⟨h2, h1, ?_, by rw [do_bnd hc, hb], by rw [hb]⟩
  rw [hb]
  exact chk_of_rb ((rb_of_chk hc).bind h2)
theorem ba_neS {s : ByteArray} (h : ¬ s = ⟨#[]⟩) : ¬ s.toList = [] ∧ s.toList.isEmpty = false := by
  have h1 : ¬ s.toList = [] := fun e => h (Hd.ba_ext (e.trans (by rw [ByteArray.toList_eq])))
  refine ⟨h1, ?_⟩
  cases hs : s.toList with
  | nil => exact absurd hs h1
  | cons _ _ => rfl
theorem info_od : (Tryz.prog.info? 55).map (fun i => (i.zero, i.size, i.bytes)) = some (some (.agg #[.int .u8 0, .string ByteArray.empty, .int .i64 0, .int .i64 0, .int .i64 0, .slice none 0 0, .slice none 0 0, .string ByteArray.empty, .int .i64 0, .int .i64 0, .int .i64 0, .slice none 0 0, .slice none 0 0, .string ByteArray.empty, .string ByteArray.empty, .int .i64 0, .string ByteArray.empty, .string ByteArray.empty, .int .u64 0]), 19, 264) := by kernel_rfl
set_option maxRecDepth 100000 in
set_option maxHeartbeats 4000000 in
theorem bind_any (k v : ByteArray) (f : Nat) (w : World) : Calls Tryz.prog 56 #[.string k, .string v, .int .u64 (f : Nat)] w fun e w' => e = .returned (.agg #[.int .u8 5, .string ⟨#[]⟩, .int .i64 0, .int .i64 0, .int .i64 0, .slice none 0 0, .slice none 0 0, .string ⟨#[]⟩, .int .i64 0, .int .i64 0, .int .i64 0, .slice none 0 0, .slice none 0 0, .string ⟨#[]⟩, .string ⟨#[]⟩, .int .i64 0, .string k, .string v, .int .u64 (f : Nat)]) ∧ Below w.heap.size w w' := by
  go_enter Tryz.func56, Tryz.ntmps56
  go_upto_region 1 with fail
  refine wp_region_list ?_
  refine wpList_plain rfl fun K hK => ?_
  go_simp
  refine hK _ _ ?_
  clear hK K
  refine wpList_plain rfl fun K hK => ?_
  go_simp
  refine hK _ _ ?_
  clear hK K
  refine wpList_plain rfl fun K hK => ?_
  go_simp
  refine hK _ _ ?_
  clear hK K
  refine wpList_plain rfl fun K hK => ?_
  go_simp
  refine hK _ _ ?_
  clear hK K
  obtain ⟨th1, hbz, hx1⟩ := one_made w [.int .u8 0, .string ⟨#[]⟩, .int .i64 0, .int .i64 0, .int .i64 0, .slice none 0 0, .slice none 0 0, .string ⟨#[]⟩, .int .i64 0, .int .i64 0, .int .i64 0, .slice none 0 0, .slice none 0 0, .string ⟨#[]⟩, .string ⟨#[]⟩, .int .i64 0, .string ⟨#[]⟩, .string ⟨#[]⟩, .int .u64 0] [.int .u8 5, .string ⟨#[]⟩, .int .i64 0, .int .i64 0, .int .i64 0, .slice none 0 0, .slice none 0 0, .string ⟨#[]⟩, .int .i64 0, .int .i64 0, .int .i64 0, .slice none 0 0, .slice none 0 0, .string ⟨#[]⟩, .string ⟨#[]⟩, .int .i64 0, .string k, .string v, .int .u64 (f : Nat)] 55 rfl
  refine wpList_store_mid rfl 55 (.tmp 6) (.tmp 10) rfl (w.heap.size) 0 #[.int .u8 5, .string ⟨#[]⟩, .int .i64 0, .int .i64 0, .int .i64 0, .slice none 0 0, .slice none 0 0, .string ⟨#[]⟩, .int .i64 0, .int .i64 0, .int .i64 0, .slice none 0 0, .slice none 0 0, .string ⟨#[]⟩, .string ⟨#[]⟩, .int .i64 0, .string k, .string v, .int .u64 (f : Nat)] rfl rfl th1 rfl (all_oneCell_toArray (List.all_eq_true.1 (show List.all ([.int .u8 5, .string ⟨#[]⟩, .int .i64 0, .int .i64 0, .int .i64 0, .slice none 0 0, .slice none 0 0, .string ⟨#[]⟩, .int .i64 0, .int .i64 0, .int .i64 0, .slice none 0 0, .slice none 0 0, .string ⟨#[]⟩, .string ⟨#[]⟩, .int .i64 0, .string k, .string v, .int .u64 (f : Nat)] : List Value) (fun v => v.oneCell') = true from rfl))) ?_
  rw [show (#[.int .u8 5, .string ⟨#[]⟩, .int .i64 0, .int .i64 0, .int .i64 0, .slice none 0 0, .slice none 0 0, .string ⟨#[]⟩, .int .i64 0, .int .i64 0, .int .i64 0, .slice none 0 0, .slice none 0 0, .string ⟨#[]⟩, .string ⟨#[]⟩, .int .i64 0, .string k, .string v, .int .u64 (f : Nat)] : Array Value).toList = [.int .u8 5, .string ⟨#[]⟩, .int .i64 0, .int .i64 0, .int .i64 0, .slice none 0 0, .slice none 0 0, .string ⟨#[]⟩, .int .i64 0, .int .i64 0, .int .i64 0, .slice none 0 0, .slice none 0 0, .string ⟨#[]⟩, .string ⟨#[]⟩, .int .i64 0, .string k, .string v, .int .u64 (f : Nat)] from rfl]
  clear th1
  generalize (w.alloc (.cells #[.int .u8 0, .string ⟨#[]⟩, .int .i64 0, .int .i64 0, .int .i64 0, .slice none 0 0, .slice none 0 0, .string ⟨#[]⟩, .int .i64 0, .int .i64 0, .int .i64 0, .slice none 0 0, .slice none 0 0, .string ⟨#[]⟩, .string ⟨#[]⟩, .int .i64 0, .string ⟨#[]⟩, .string ⟨#[]⟩, .int .u64 0] 55)).setCells w.heap.size 0 [.int .u8 5, .string ⟨#[]⟩, .int .i64 0, .int .i64 0, .int .i64 0, .slice none 0 0, .slice none 0 0, .string ⟨#[]⟩, .int .i64 0, .int .i64 0, .int .i64 0, .slice none 0 0, .slice none 0 0, .string ⟨#[]⟩, .string ⟨#[]⟩, .int .i64 0, .string k, .string v, .int .u64 (f : Nat)] = z1 at *
  refine wpList_nil ?_
  go_wp2
  exact Hd.bodyPost_bx rfl w.heap.size [.int .u8 5, .string ⟨#[]⟩, .int .i64 0, .int .i64 0, .int .i64 0, .slice none 0 0, .slice none 0 0, .string ⟨#[]⟩, .int .i64 0, .int .i64 0, .int .i64 0, .slice none 0 0, .slice none 0 0, .string ⟨#[]⟩, .string ⟨#[]⟩, .int .i64 0, .string k, .string v, .int .u64 (f : Nat)] _ rfl rfl hx1 Tryz.underlying55 rfl rfl ⟨rfl, hbz⟩
/-- What is told of a plan. -/
def PlanIs (b : Bk) (f : Nat) (w : World) (e : Ending) (w' : World) : Prop := ∃ v : Value, e = .returned (.tuple #[v, .int .i64 (chE (chkB b) : Nat)]) ∧ Own w' w.heap.size 55 v ((planV b).map (stp f)) ∧ Below w.heap.size w w'
set_option maxRecDepth 100000 in
set_option maxHeartbeats 4000000 in
theorem plan_no (b : Bk) (vn vt vb : Value) (f : Nat) (w : World) (hB : Books w w.heap.size vn vt vb b) (hc : chkB b = false) : Calls Tryz.prog 22 #[.agg #[vn, vt, vb, .int .u64 (b.fe : Nat)], .int .u64 (f : Nat)] w (PlanIs b f w) := by
  have HR : Hid (∀ w', Below w.heap.size w w' → PlanIs b f w (.returned (.tuple #[.slice none 0 0, .int .i64 10])) w') := fun w' h => ⟨.slice none 0 0, by rw [hc]; rfl, by unfold planV; rw [if_neg (by rw [hc]; decide)]; exact Own.nil _ _ _, h⟩
  obtain ⟨⟨an, cn, rfl⟩, ⟨at', ct, rfl⟩, ⟨ab, cb, rfl⟩⟩ := And.intro hB.hn.slice (And.intro hB.ht.slice hB.hb.slice)
  obtain ⟨W0, hW0⟩ : ∃ W0, W0 = w.alloc (.cells #[.slice an b.ns.length cn, .slice at' b.ts.length ct, .slice ab b.bs.length cb, .int .u64 (b.fe : Nat)] 27) := ⟨_, rfl⟩
  have HB0 : Hid (Below w.heap.size w W0) := by rw [hW0]; exact al w _
  have HS0 : Hid (W0.heap.size = w.heap.size + 1) := by show _ = _; rw [hW0]; simp
  have HX0 : Hid (Hd.Bxn W0 w.heap.size [.slice an b.ns.length cn, .slice at' b.ts.length ct, .slice ab b.bs.length cb, .int .u64 (b.fe : Nat)]) := by rw [hW0]; exact Hd.Bxn.made w _ _
  have HBK : Hid (∀ z, Below w.heap.size w z → Books z z.heap.size (.slice an b.ns.length cn) (.slice at' b.ts.length ct) (.slice ab b.bs.length cb) b) := fun z hz => hB.on hz
  have HWQ : Hid (∀ z, Below w.heap.size w z → Calls Tryz.prog 12 #[.agg #[.slice an b.ns.length cn, .slice at' b.ts.length ct, .slice ab b.bs.length cb, .int .u64 (b.fe : Nat)]] z fun e w' => ∃ a c, e = .returned (.tuple #[.slice a 0 c, .int .i64 10]) ∧ Below z.heap.size z w') := fun z hz => by
    refine (waitq_any b _ _ _ z (HBK.out z hz)).mono ?_
    rintro e w' ⟨v, m, he, ho, hm, -, hb⟩
    rw [hc, if_neg (by decide)] at hm
    obtain rfl : m = [] := List.map_eq_nil_iff.1 hm
    obtain ⟨a, c, rfl⟩ := ho.slice
    refine ⟨a, c, ?_, hb⟩
    rw [he, hc]
    rfl
  clear hc
  have HW := Lib.hid hW0
  clear hW0 hB
  go_enter Tryz.func22, Tryz.ntmps22
  go_upto_region 1 with fail
  rw [← HW.out]
  go_step3
  have p0 : W0.cell? ⟨w.heap.size, 0, none⟩ = some (.slice an b.ns.length cn) := HX0.out.cell 0
  have p1 : W0.cell? ⟨w.heap.size, 1, none⟩ = some (.slice at' b.ts.length ct) := HX0.out.cell 1
  have p2 : W0.cell? ⟨w.heap.size, 2, none⟩ = some (.slice ab b.bs.length cb) := HX0.out.cell 2
  have p3 : W0.cell? ⟨w.heap.size, 3, none⟩ = some (.int .u64 (b.fe : Nat)) := HX0.out.cell 3
  go_wp2_with fail
  refine (HWQ.out W0 HB0.out).mono ?_
  rintro e w1 ⟨aw, cw, rfl, hb⟩
  have HE : Hid (Below w.heap.size w w1) := HB0.out.trans (hb.mono HB0.out.size)
  clear hb p0 p1 p2 p3 HX0
  go_wp2
  rw [Exit.noGoto_ret]
  go_ret2
  exact HR.out _ HE.out
set_option maxRecDepth 100000 in
set_option maxHeartbeats 4000000 in
theorem plan_ok (b : Bk) (vn vt vb : Value) (f : Nat) (w : World) (hB : Books w w.heap.size vn vt vb b) (hc : chkB b = true) : Calls Tryz.prog 22 #[.agg #[vn, vt, vb, .int .u64 (b.fe : Nat)], .int .u64 (f : Nat)] w (PlanIs b f w) := by
  obtain ⟨i0, hi, hq0, hq1, hq2⟩ := info_parts info_od
  have HR : Hid (∀ v w' base, w.heap.size ≤ base → Own w' base 55 v ((plG b (wtV b) []).2.map (stp f)) → Below w.heap.size w w' → PlanIs b f w (.returned (.tuple #[v, .int .i64 0])) w') := fun v w' base hle ho h => ⟨v, by rw [hc]; rfl, by unfold planV; rw [if_pos hc]; exact ho.le hle, h⟩
  obtain ⟨⟨an, cn, rfl⟩, ⟨at', ct, rfl⟩, ⟨ab, cb, rfl⟩⟩ := And.intro hB.hn.slice (And.intro hB.ht.slice hB.hb.slice)
  obtain ⟨W0, hW0⟩ : ∃ W0, W0 = w.alloc (.cells #[.slice an b.ns.length cn, .slice at' b.ts.length ct, .slice ab b.bs.length cb, .int .u64 (b.fe : Nat)] 27) := ⟨_, rfl⟩
  have HB0 : Hid (Below w.heap.size w W0) := by rw [hW0]; exact al w _
  have HS0 : Hid (W0.heap.size = w.heap.size + 1) := by show _ = _; rw [hW0]; simp
  have HX0 : Hid (Hd.Bxn W0 w.heap.size [.slice an b.ns.length cn, .slice at' b.ts.length ct, .slice ab b.bs.length cb, .int .u64 (b.fe : Nat)]) := by rw [hW0]; exact Hd.Bxn.made w _ _
  have HBK : Hid (∀ z, Below w.heap.size w z → Books z z.heap.size (.slice an b.ns.length cn) (.slice at' b.ts.length ct) (.slice ab b.bs.length cb) b) := fun z hz => hB.on hz
  have HRB := Lib.hid (rb_of_chk hc)
  have HWQ : Hid (∀ z, Below w.heap.size w z → Calls Tryz.prog 12 #[.agg #[.slice an b.ns.length cn, .slice at' b.ts.length ct, .slice ab b.bs.length cb, .int .u64 (b.fe : Nat)]] z fun e w' => ∃ (a : Option Addr) (c : Nat) (m : List TdM), e = .returned (.tuple #[.slice a m.length c, .int .i64 0]) ∧ Own w' z.heap.size 42 (.slice a m.length c) m ∧ m.map (·.td) = wtV b ∧ (∀ x ∈ m, OwnT w' z.heap.size x) ∧ Below z.heap.size z w') := fun z hz => by
    refine (waitq_any b _ _ _ z (HBK.out z hz)).mono ?_
    rintro e w' ⟨v, m, he, ho, hm, hn, hb⟩
    rw [hc, if_pos rfl] at hm
    obtain ⟨a, c, rfl⟩ := ho.slice
    refine ⟨a, c, m, ?_, ho, hm, hn, hb⟩
    rw [he, hc]
    rfl
  have HC0 : Hid (chkB b = true) := hc
  have HFT0 : Hid (∀ t ∈ wtV b, FitT t) := fun t ht => (hB.fine hc).ft t ((wt_mem HRB.out).1 ht).1
  clear hc
  have HW := Lib.hid hW0
  clear hW0 hB
  go_enter Tryz.func22, Tryz.ntmps22
  go_upto_region 1 with fail
  rw [← HW.out]
  go_step3
  have p0 : W0.cell? ⟨w.heap.size, 0, none⟩ = some (.slice an b.ns.length cn) := HX0.out.cell 0
  have p1 : W0.cell? ⟨w.heap.size, 1, none⟩ = some (.slice at' b.ts.length ct) := HX0.out.cell 1
  have p2 : W0.cell? ⟨w.heap.size, 2, none⟩ = some (.slice ab b.bs.length cb) := HX0.out.cell 2
  have p3 : W0.cell? ⟨w.heap.size, 3, none⟩ = some (.int .u64 (b.fe : Nat)) := HX0.out.cell 3
  go_wp2_with fail
  refine (HWQ.out W0 HB0.out).mono ?_
  rintro e w2 ⟨aw, cw, m, rfl, hom, hmm, hnm, hb⟩
  have HB2 : Hid (Below w.heap.size w w2) := HB0.out.trans (hb.mono HB0.out.size)
  have HX2 := Lib.hid (HX0.out.below hb)
  have HOM := Lib.hid hom
  have HMM := Lib.hid hmm
  have HNM := Lib.hid hnm
  have HZ2 : Hid (w.heap.size < w2.heap.size) := HX2.out.lt
  have HLM : Hid (m.length ≤ 32) := by have h1 := congrArg List.length hmm; rw [List.length_map] at h1; have h2 := wt_len HRB.out; have h3 := HRB.out.lt; show _ ≤ _; omega
  clear hb hom hmm hnm p0 p1 p2 p3 HX0 HB0 HWQ
  go_wp2
  go_step3
  go_wp2
  go_loopg [8, 22] m.length (fun gg sv i wx => ∃ (k : Nat) (c : Bk) (s : List Rg.Pr) (a1 a2 a3 : Option Addr) (d1 d2 d3 : Nat), k + gg = m.length ∧ i = .int .i64 k ∧ Aside (plG c ((wtV b).drop k) s = plG b (wtV b) [] ∧ chkB c = true ∧ s.length ≤ 8) ∧ Aside (Own wx w2.heap.size 55 sv (s.map (stp f))) ∧ Aside (Hd.Bxn wx w.heap.size [.slice a1 c.ns.length d1, .slice a2 c.ts.length d2, .slice a3 c.bs.length d3, .int .u64 (c.fe : Nat)]) ∧ Aside (w2.grownBy wx (some w.heap.size)) ∧ Aside (BkIn w wx c (.slice a1 c.ns.length d1) (.slice a2 c.ts.length d2) (.slice a3 c.bs.length d3)) ∧ Aside (Below w.heap.size w wx))
  case atStart => exact ⟨0, b, [], an, at', ab, cn, ct, cb, by omega, rfl, ⟨rfl, HC0.out, Nat.zero_le _⟩, Own.nil _ _ _, HX2.out, grown_of _ (Below.refl _ _), .inl HBK.out, HB2.out⟩
  case round =>
    obtain ⟨k, c, s, a1, a2, a3, d1, d2, d3, hkg, rfl, HA1, HA2, HA3, HA4, HA5, HA6⟩ := hrel
    have HI := Lib.hid HA1.out
    have HO := Lib.hid HA2.out
    have HX := Lib.hid HA3.out
    have HG : Hid (w2.grownBy wr (some w.heap.size)) := HA4.out
    have HK := Lib.hid HA5.out
    have HB := Lib.hid HA6.out
    clear HA1 HA2 HA3 HA5 HA6
    obtain ⟨q1, q2, rfl⟩ := HO.out.slice
    cases gk with
    | zero =>
      obtain rfl : k = m.length := by omega
      have HS : Hid ((plG b (wtV b) []).2 = s) := by
        have h1 := HI.out.1
        have h2 : (wtV b).length = m.length := by rw [← HMM.out, List.length_map]
        rw [← h2, List.drop_length, pl_nil] at h1
        show _ = _
        rw [← h1]
      have HF := Lib.hid (HR.out _ wr w2.heap.size (by have := HZ2.out; omega) (by rw [HS.out]; exact HO.out) HB.out)
      clear hkg HA4
      go_wp2
      rw [Exit.noGoto_ret]
      go_ret2
      exact HF.out
    | succ gg =>
      have hlk : k < m.length := by omega
      have t2 : (k : Int) < (m.length : Int) := by omega
      have t3 : IntKind.i64.wrap ((k : Int) + 1) = (k : Int) + 1 := by rw [IntKind.wrap_i64]; have := HLM.out; omega
      have t4 : (0 : Int) ≤ (k : Int) := by omega
      obtain ⟨g, cap, hv, hbg, -, hat, -⟩ := HOM.out.form (by omega)
      simp only [Value.slice.injEq, true_and] at hv
      obtain ⟨rfl, rfl⟩ := hv
      obtain ⟨p0, p1, p2, p3, p4, p5, p6, p7, p8⟩ := at_td (hat k hlk)
      have hne : g ≠ w.heap.size := by have := HS0.out; omega
      have HDR : Hid ((wtV b).drop k = m[k].td :: (wtV b).drop (k + 1)) := by
        have h2 : k < (wtV b).length := by rw [← HMM.out, List.length_map]; exact hlk
        show _ = _
        rw [List.drop_eq_getElem_cons h2]
        congr 1
        simp only [← HMM.out, List.getElem_map]
      have HTF : Hid (FitT m[k].td) := HFT0.out _ (by rw [← HMM.out]; exact List.mem_map_of_mem (List.getElem_mem hlk))
      have HTO := Lib.hid (HNM.out m[k] (List.getElem_mem hlk))
      generalize m[k] = x at *
      have e0 : wr.cell? ⟨g, k * 9, none⟩ = some (.string x.td.n) := HA4.out.cell p0 (by rw [ne_eq, Option.some.injEq]; have := HS0.out; omega)
      have e1 : wr.cell? ⟨g, k * 9 + 1, none⟩ = some (.int .i64 x.td.z0) := HA4.out.cell p1 (by rw [ne_eq, Option.some.injEq]; have := HS0.out; omega)
      have e2 : wr.cell? ⟨g, k * 9 + 2, none⟩ = some (.int .i64 x.td.z1) := HA4.out.cell p2 (by rw [ne_eq, Option.some.injEq]; have := HS0.out; omega)
      have e3 : wr.cell? ⟨g, k * 9 + 3, none⟩ = some (.int .i64 x.td.z2) := HA4.out.cell p3 (by rw [ne_eq, Option.some.injEq]; have := HS0.out; omega)
      have e4 : wr.cell? ⟨g, k * 9 + 4, none⟩ = some (.slice x.a4 x.td.ws.length x.c4) := HA4.out.cell p4 (by rw [ne_eq, Option.some.injEq]; have := HS0.out; omega)
      have e5 : wr.cell? ⟨g, k * 9 + 5, none⟩ = some (.slice x.a5 x.td.bs.length x.c5) := HA4.out.cell p5 (by rw [ne_eq, Option.some.injEq]; have := HS0.out; omega)
      have e6 : wr.cell? ⟨g, k * 9 + 6, none⟩ = some (.string x.td.g) := HA4.out.cell p6 (by rw [ne_eq, Option.some.injEq]; have := HS0.out; omega)
      have e7 : wr.cell? ⟨g, k * 9 + 7, none⟩ = some (.string x.td.a) := HA4.out.cell p7 (by rw [ne_eq, Option.some.injEq]; have := HS0.out; omega)
      have e8 : wr.cell? ⟨g, k * 9 + 8, none⟩ = some (.int .i64 x.td.r) := HA4.out.cell p8 (by rw [ne_eq, Option.some.injEq]; have := HS0.out; omega)
      clear p0 p1 p2 p3 p4 p5 p6 p7 p8 hat hbg hne HA4
      have HKG := Lib.hid hkg
      clear hkg
      obtain ⟨wy, hwy⟩ : ∃ wy, wy = wr.alloc (.cells #[.string x.td.n, .int .i64 x.td.z0, .int .i64 x.td.z1, .int .i64 x.td.z2, .slice x.a4 x.td.ws.length x.c4, .slice x.a5 x.td.bs.length x.c5, .string x.td.g, .string x.td.a, .int .i64 x.td.r] 42) := ⟨_, rfl⟩
      have HYB : Hid (Below wr.heap.size wr wy) := by rw [hwy]; exact al _ _
      have HYT : Hid (Hd.Bxn wy wr.heap.size [.string x.td.n, .int .i64 x.td.z0, .int .i64 x.td.z1, .int .i64 x.td.z2, .slice x.a4 x.td.ws.length x.c4, .slice x.a5 x.td.bs.length x.c5, .string x.td.g, .string x.td.a, .int .i64 x.td.r]) := by rw [hwy]; exact Hd.Bxn.made wr _ _
      have HWY := Lib.hid hwy
      clear hwy
      have HYX := Lib.hid (HX.out.below HYB.out)
      have HYG : Hid (w2.grownBy wy (some w.heap.size)) := grown_tr HG.out (grown_of _ HYB.out)
      have HYK := Lib.hid (HK.out.keep HYB.out)
      have HBY : Hid (Below w.heap.size w wy) := HB.out.trans (HYB.out.mono HB.out.size)
      have HYO := Lib.hid (HO.out.keep HYB.out)
      have HBS : Hid (Calls Tryz.prog 55 #[.agg #[.slice a1 c.ns.length d1, .slice a2 c.ts.length d2, .slice a3 c.bs.length d3, .int .u64 (c.fe : Nat)], .agg #[.string x.td.n, .int .i64 x.td.z0, .int .i64 x.td.z1, .int .i64 x.td.z2, .slice x.a4 x.td.ws.length x.c4, .slice x.a5 x.td.bs.length x.c5, .string x.td.g, .string x.td.a, .int .i64 x.td.r]] wy fun e w' => e = .returned (.string (bstV c x.td)) ∧ Below wy.heap.size wy w') :=
        best_any c _ _ _ x wy (HYK.out.books HBY.out) HI.out.2.1 ((OwnT.farS HTO.out HYG.out (by have := HS0.out; omega)).deep HTF.out) HTF.out
      have HZR : Hid (w.heap.size < wr.heap.size) := HX.out.lt
      have HTN : Hid (∀ g, (Value.slice q1 (s.map (stp f)).length q2).ownBlock = some g → g ≠ wr.heap.size) := fun g hg e => by have := (HO.out.lt g hg).2; omega
      clear HG HK HB HO HX HYB
      generalize x.td.ws.length = n1 at *
      generalize x.td.bs.length = n2 at *
      go_upto_region 8 with fail
      rw [← HWY.out]
      clear e0 e1 e2 e3 e4 e5 e6 e7 e8 HWY
      have b0' : wy.cell? ⟨w.heap.size, 0, none⟩ = some (.slice a1 c.ns.length d1) := HYX.out.cell 0
      have b1' : wy.cell? ⟨w.heap.size, 1, none⟩ = some (.slice a2 c.ts.length d2) := HYX.out.cell 1
      have b2' : wy.cell? ⟨w.heap.size, 2, none⟩ = some (.slice a3 c.bs.length d3) := HYX.out.cell 2
      have b3' : wy.cell? ⟨w.heap.size, 3, none⟩ = some (.int .u64 (c.fe : Nat)) := HYX.out.cell 3
      have f0' : wy.cell? ⟨wr.heap.size, 0, none⟩ = some (.string x.td.n) := HYT.out.cell 0
      have f1' : wy.cell? ⟨wr.heap.size, 1, none⟩ = some (.int .i64 x.td.z0) := HYT.out.cell 1
      have f2' : wy.cell? ⟨wr.heap.size, 2, none⟩ = some (.int .i64 x.td.z1) := HYT.out.cell 2
      have f3' : wy.cell? ⟨wr.heap.size, 3, none⟩ = some (.int .i64 x.td.z2) := HYT.out.cell 3
      have f4' : wy.cell? ⟨wr.heap.size, 4, none⟩ = some (.slice x.a4 n1 x.c4) := HYT.out.cell 4
      have f5' : wy.cell? ⟨wr.heap.size, 5, none⟩ = some (.slice x.a5 n2 x.c5) := HYT.out.cell 5
      have f6' : wy.cell? ⟨wr.heap.size, 6, none⟩ = some (.string x.td.g) := HYT.out.cell 6
      have f7' : wy.cell? ⟨wr.heap.size, 7, none⟩ = some (.string x.td.a) := HYT.out.cell 7
      have f8' : wy.cell? ⟨wr.heap.size, 8, none⟩ = some (.int .i64 x.td.r) := HYT.out.cell 8
      go_wp2_with fail
      refine HBS.out.mono ?_
      rintro e w3 ⟨rfl, hb⟩
      have HX3 := Lib.hid (HYX.out.below hb)
      have HT3 := Lib.hid (HYT.out.below hb)
      have HG3 : Hid (w2.grownBy w3 (some w.heap.size)) := grown_tr HYG.out (grown_of _ hb)
      have HK3 := Lib.hid (HYK.out.keep hb)
      have HB3 : Hid (Below w.heap.size w w3) := HBY.out.trans (hb.mono HBY.out.size)
      have HO3 := Lib.hid (HYO.out.keep hb)
      clear hb b0' b1' b2' b3' f0' f1' f2' f3' f4' f5' f6' f7' f8' HBS HYX HYT HYG HYK HBY HYO
      have hln : (s.map (stp f)).length = s.length := List.length_map ..
      rw [hln] at HO3 HTN ⊢
      by_cases h8 : s.length = 8
      · have u0 : ((s.length : Int) == 8) = true := by simp; omega
        have u1 : (s.length : Int) = 8 := by omega
        have HS : Hid ((plG b (wtV b) []).2 = s) := by
          have h1 := HI.out.1
          rw [HDR.out, pl_full h8] at h1
          show _ = _
          rw [← h1]
        have HF := Lib.hid (HR.out _ w3 w2.heap.size (by have := HZ2.out; omega) (by rw [HS.out]; exact HO3.out) HB3.out)
        clear hln
        have HF2 := HF.out
        rw [h8] at HF2
        go_wp2
        rw [Exit.noGoto_ret]
        go_ret2
        exact HF2
      · have u0 : ((s.length : Int) == 8) = false := by simp; omega
        have u1 : ¬ (s.length : Int) = 8 := by omega
        by_cases hon : bstV c x.td = ⟨#[]⟩
        · have HI2 : Hid (plG c ((wtV b).drop (k + 1)) s = plG b (wtV b) [] ∧ chkB c = true ∧ s.length ≤ 8) := by
            have h1 := HI.out.1
            rw [HDR.out, pl_skip h8 hon] at h1
            exact ⟨h1, HI.out.2⟩
          rw [hon]
          clear hln
          go_wp2
          go_roundg gg
          case measure => omega
          case rel => exact ⟨k + 1, c, s, a1, a2, a3, d1, d2, d3, by have := HKG.out; omega, by simp, HI2.out, HO3.out, HX3.out, HG3.out, HK3.out, HB3.out⟩
        · have HST := Lib.hid (step_done HI.out.2.1 hon)
          have HI2 : Hid (plG (biB c x.td.n (bstV c x.td) c.fe).1 ((wtV b).drop (k + 1)) (s ++ [⟨x.td.n, bstV c x.td⟩]) = plG b (wtV b) [] ∧ chkB (biB c x.td.n (bstV c x.td) c.fe).1 = true ∧ (s ++ [(⟨x.td.n, bstV c x.td⟩ : Rg.Pr)]).length ≤ 8) := by
            have h1 := HI.out.1
            rw [HDR.out, pl_step h8 hon] at h1
            exact ⟨h1, HST.out.2.2.1, by rw [List.length_append]; have := HI.out.2.2; simp; omega⟩
          obtain ⟨he0, he1⟩ := Hd.ba_no hon
          have HFO : Hid (FitB ⟨x.td.n, bstV c x.td⟩) := ⟨HTF.out.1.1, by
            obtain ⟨n, hn, he⟩ := List.mem_map.1 HST.out.2.1
            show FitS (bstV c x.td)
            rw [← he]
            exact (((HK3.out.books HB3.out).fine HI.out.2.1).fn n hn).1⟩
          have HDV := Lib.hid HST.out.2.2.2.1
          have HFE := Lib.hid HST.out.2.2.2.2
          obtain ⟨c2, hc2⟩ : ∃ c2, c2 = (biB c x.td.n (bstV c x.td) c.fe).1 := ⟨_, rfl⟩
          rw [← hc2] at HI2 HDV HFE
          clear hc2 HST
          generalize bstV c x.td = on at *
          obtain ⟨he3, he4⟩ := ba_neS hon
          have he2 : (on.toList == []) = false := by simpa using he3
          clear hon
          have HBI : Hid (∀ (fe : Nat) z, Calls Tryz.prog 56 #[.string x.td.n, .string on, .int .u64 (fe : Nat)] z fun e w' => e = .returned (.agg #[.int .u8 5, .string ⟨#[]⟩, .int .i64 0, .int .i64 0, .int .i64 0, .slice none 0 0, .slice none 0 0, .string ⟨#[]⟩, .int .i64 0, .int .i64 0, .int .i64 0, .slice none 0 0, .slice none 0 0, .string ⟨#[]⟩, .string ⟨#[]⟩, .int .i64 0, .string x.td.n, .string on, .int .u64 (fe : Nat)]) ∧ Below z.heap.size z w') := fun fe z => bind_any x.td.n on fe z
          have HDO : Hid (∀ z, Books z z.heap.size (.slice a1 c.ns.length d1) (.slice a2 c.ts.length d2) (.slice a3 c.bs.length d3) c → Calls Tryz.prog 21 #[.agg #[.slice a1 c.ns.length d1, .slice a2 c.ts.length d2, .slice a3 c.bs.length d3, .int .u64 (c.fe : Nat)], .agg #[.int .u8 5, .string ⟨#[]⟩, .int .i64 0, .int .i64 0, .int .i64 0, .slice none 0 0, .slice none 0 0, .string ⟨#[]⟩, .int .i64 0, .int .i64 0, .int .i64 0, .slice none 0 0, .slice none 0 0, .string ⟨#[]⟩, .string ⟨#[]⟩, .int .i64 0, .string x.td.n, .string on, .int .u64 (c.fe : Nat)]] z fun e w' => ∃ vn' vt' vb', e = .returned (.tuple #[.agg #[vn', vt', vb', .int .u64 (c2.fe : Nat)], .agg #[.int .i64 0, .string ⟨#[]⟩]]) ∧ Kept z w' c2 vn' vt' vb' ∧ Below z.heap.size z w') := fun z hz => do_use c c2 0 ByteArray.empty _ _ _ (oBnd x.td.n on c.fe) none none none none 0 0 0 0 z hz (deepN0 z _ rfl rfl) fitN0 (deepT0 z _ rfl rfl) fitT0 HFO.out HDV.out
          have n0 : w3.cell? ⟨wr.heap.size, 0, none⟩ = some (.string x.td.n) := HT3.out.cell 0
          clear HDV HFO
          go_wp2_with fail
          refine (HBI.out f w3).mono ?_
          rintro e w4 ⟨rfl, hb⟩
          have ha : Below w3.heap.size w3 (w4.alloc (.cells #[.int .u8 5, .string ⟨#[]⟩, .int .i64 0, .int .i64 0, .int .i64 0, .slice none 0 0, .slice none 0 0, .string ⟨#[]⟩, .int .i64 0, .int .i64 0, .int .i64 0, .slice none 0 0, .slice none 0 0, .string ⟨#[]⟩, .string ⟨#[]⟩, .int .i64 0, .string x.td.n, .string on, .int .u64 (f : Nat)] 55)) := hb.trans ((al w4 _).mono hb.size)
          have HX5 := Lib.hid (HX3.out.below ha)
          have HT5 := Lib.hid (HT3.out.below ha)
          have HG5 : Hid (w2.grownBy (w4.alloc (.cells #[.int .u8 5, .string ⟨#[]⟩, .int .i64 0, .int .i64 0, .int .i64 0, .slice none 0 0, .slice none 0 0, .string ⟨#[]⟩, .int .i64 0, .int .i64 0, .int .i64 0, .slice none 0 0, .slice none 0 0, .string ⟨#[]⟩, .string ⟨#[]⟩, .int .i64 0, .string x.td.n, .string on, .int .u64 (f : Nat)] 55)) (some w.heap.size)) := grown_tr HG3.out (grown_of _ ha)
          have HK5 := Lib.hid (HK3.out.keep ha)
          have HB5 : Hid (Below w.heap.size w (w4.alloc (.cells #[.int .u8 5, .string ⟨#[]⟩, .int .i64 0, .int .i64 0, .int .i64 0, .slice none 0 0, .slice none 0 0, .string ⟨#[]⟩, .int .i64 0, .int .i64 0, .int .i64 0, .slice none 0 0, .slice none 0 0, .string ⟨#[]⟩, .string ⟨#[]⟩, .int .i64 0, .string x.td.n, .string on, .int .u64 (f : Nat)] 55))) := HB3.out.trans (ha.mono HB3.out.size)
          have HO5 := Lib.hid (HO3.out.keep ha)
          have HN5 : Hid (∀ j u, ([.int .u8 5, .string ⟨#[]⟩, .int .i64 0, .int .i64 0, .int .i64 0, .slice none 0 0, .slice none 0 0, .string ⟨#[]⟩, .int .i64 0, .int .i64 0, .int .i64 0, .slice none 0 0, .slice none 0 0, .string ⟨#[]⟩, .string ⟨#[]⟩, .int .i64 0, .string x.td.n, .string on, .int .u64 (f : Nat)] : List Value)[j]? = some u → (w4.alloc (.cells #[.int .u8 5, .string ⟨#[]⟩, .int .i64 0, .int .i64 0, .int .i64 0, .slice none 0 0, .slice none 0 0, .string ⟨#[]⟩, .int .i64 0, .int .i64 0, .int .i64 0, .slice none 0 0, .slice none 0 0, .string ⟨#[]⟩, .string ⟨#[]⟩, .int .i64 0, .string x.td.n, .string on, .int .u64 (f : Nat)] 55)).cell? ((⟨w4.heap.size, 0, none⟩ : Addr).add j) = some u) := Rg.news_new w4 55 [.int .u8 5, .string ⟨#[]⟩, .int .i64 0, .int .i64 0, .int .i64 0, .slice none 0 0, .slice none 0 0, .string ⟨#[]⟩, .int .i64 0, .int .i64 0, .int .i64 0, .slice none 0 0, .slice none 0 0, .string ⟨#[]⟩, .string ⟨#[]⟩, .int .i64 0, .string x.td.n, .string on, .int .u64 (f : Nat)]
          have H1 : Hid (∀ u ∈ ([.int .u8 5, .string ⟨#[]⟩, .int .i64 0, .int .i64 0, .int .i64 0, .slice none 0 0, .slice none 0 0, .string ⟨#[]⟩, .int .i64 0, .int .i64 0, .int .i64 0, .slice none 0 0, .slice none 0 0, .string ⟨#[]⟩, .string ⟨#[]⟩, .int .i64 0, .string x.td.n, .string on, .int .u64 (f : Nat)] : List Value), u.oneCell' = true) := stE_one (stp f ⟨x.td.n, on⟩)
          have HMX : Hid (s.length + 1 ≤ maxLen) := by show _ ≤ _; have := HI.out.2.2; unfold maxLen; omega
          have HBY : Hid ((s.length + 1) * 264 ≤ 140737488355328) := by show _ ≤ _; have := HI.out.2.2; omega
          have HSZ : Hid (w2.heap.size ≤ (w4.alloc (.cells #[.int .u8 5, .string ⟨#[]⟩, .int .i64 0, .int .i64 0, .int .i64 0, .slice none 0 0, .slice none 0 0, .string ⟨#[]⟩, .int .i64 0, .int .i64 0, .int .i64 0, .slice none 0 0, .slice none 0 0, .string ⟨#[]⟩, .string ⟨#[]⟩, .int .i64 0, .string x.td.n, .string on, .int .u64 (f : Nat)] 55)).heap.size) := HG5.out.size
          have HOP : Hid ((w4.alloc (.cells #[.int .u8 5, .string ⟨#[]⟩, .int .i64 0, .int .i64 0, .int .i64 0, .slice none 0 0, .slice none 0 0, .string ⟨#[]⟩, .int .i64 0, .int .i64 0, .int .i64 0, .slice none 0 0, .slice none 0 0, .string ⟨#[]⟩, .string ⟨#[]⟩, .int .i64 0, .string x.td.n, .string on, .int .u64 (f : Nat)] 55)).ownsRow w2.heap.size 55 19 (.slice q1 s.length q2) s.length (flat (s.map (stp f)))) := by have h1 := HO5.out; unfold Own at h1; rw [hln] at h1; exact h1
          have HSP : Hid (∀ (w5 : World) (v4 : Value), w5.ownsRow w2.heap.size 55 19 v4 (s.length + 1) (flat (s.map (stp f)) ++ [.int .u8 5, .string ⟨#[]⟩, .int .i64 0, .int .i64 0, .int .i64 0, .slice none 0 0, .slice none 0 0, .string ⟨#[]⟩, .int .i64 0, .int .i64 0, .int .i64 0, .slice none 0 0, .slice none 0 0, .string ⟨#[]⟩, .string ⟨#[]⟩, .int .i64 0, .string x.td.n, .string on, .int .u64 (f : Nat)]) → Own w5 w2.heap.size 55 v4 ((s ++ [(⟨x.td.n, on⟩ : Rg.Pr)]).map (stp f))) := fun w5 v4 h => by
            rw [List.map_append, List.map_singleton]
            exact Own.snoc (x := stp f ⟨x.td.n, on⟩) (by rw [hln]; exact h)
          clear ha hb n0 HX3 HT3 HG3 HK3 HB3 HO3 hln
          go_wp2_with (at_builtin; go_loud ((refine wpList_append_own_at _ rfl _ _ 56 rfl w2.heap.size 55 i0 _ 19 264 Tryz.underlying56 hi hq0 hq1 hq2 rfl (by omega) _ _ _ rfl HOP.out (⟨w4.heap.size, 0, none⟩ : Addr) 1 1 [.int .u8 5, .string ⟨#[]⟩, .int .i64 0, .int .i64 0, .int .i64 0, .slice none 0 0, .slice none 0 0, .string ⟨#[]⟩, .int .i64 0, .int .i64 0, .int .i64 0, .slice none 0 0, .slice none 0 0, .string ⟨#[]⟩, .string ⟨#[]⟩, .int .i64 0, .string x.td.n, .string on, .int .u64 (f : Nat)] rfl rfl HN5.out H1.out HMX.out HBY.out HSZ.out ?_); intro v4 w6 hown hg6 hnil hob; have HO6 := Lib.hid (HSP.out _ _ hown); have HK6 := Lib.hid (HK5.out.off HO5.out hg6); have HG6 : Hid (w2.grownBy w6 (some w.heap.size)) := (grown_new HG5.out hg6 (fun g hg => (HO5.out.lt g hg).1)); have HB6 : Hid (Below w.heap.size w w6) := (HB5.out.grown hg6 HB5.out.size (fun g hg => by have := (HO5.out.lt g hg).1; have := HZ2.out; omega)); have HX6 : Hid (Hd.Bxn w6 w.heap.size [.slice a1 c.ns.length d1, .slice a2 c.ts.length d2, .slice a3 c.bs.length d3, .int .u64 (c.fe : Nat)]) := (bxn_grownS HX5.out hg6 (fun e => by have := (HO5.out.lt _ e.symm).1; have := HZ2.out; omega)); have HT6 : Hid (Hd.Bxn w6 wr.heap.size [.string x.td.n, .int .i64 x.td.z0, .int .i64 x.td.z1, .int .i64 x.td.z2, .slice x.a4 n1 x.c4, .slice x.a5 n2 x.c5, .string x.td.g, .string x.td.a, .int .i64 x.td.r]) := (bxn_grownS HT5.out hg6 (fun e => by have h1 := (HO5.out.lt _ e.symm); exact HTN.out _ e.symm rfl)); clear hown hg6 hnil hob))
          go_upto_region 12 with fail
          have hbd : Below w6.heap.size w6 w6.drew := ⟨rfl, rfl, rfl, Nat.le_refl _, fun _ _ => rfl⟩
          have H6d := Lib.hid (HX6.out.below hbd)
          have HT6d := Lib.hid (HT6.out.below hbd)
          have HK6d := Lib.hid (HK6.out.keep hbd)
          have HB6d : Hid (Below w.heap.size w w6.drew) := HB6.out.trans (hbd.mono HB6.out.size)
          have HG6d : Hid (w2.grownBy w6.drew (some w.heap.size)) := grown_tr HG6.out (grown_of _ hbd)
          have HO6d := Lib.hid (HO6.out.keep hbd)
          have HP : Hid (∀ z, Hd.Bxn z w.heap.size [.slice a1 c.ns.length d1, .slice a2 c.ts.length d2, .slice a3 c.bs.length d3, .int .u64 (c.fe : Nat)] → Hd.Bxn z wr.heap.size [.string x.td.n, .int .i64 x.td.z0, .int .i64 x.td.z1, .int .i64 x.td.z2, .slice x.a4 n1 x.c4, .slice x.a5 n2 x.c5, .string x.td.g, .string x.td.a, .int .i64 x.td.r] → (z.cell? ⟨w.heap.size, 3, none⟩ = some (.int .u64 (c.fe : Nat)) ∧ z.cell? ⟨wr.heap.size, 0, none⟩ = some (.string x.td.n))) := fun z h1 h2 => ⟨h1.cell 3, h2.cell 0⟩
          clear hbd HX6 HT6 HK6 HB6 HG6 HO6 HX5 HT5 HG5 HK5 HB5 HO5 HN5 H1 HMX HBY HSZ HOP HSP
          refine wp_region_held_drew (S := fun z => z.cell? ⟨w.heap.size, 3, none⟩ = some (.int .u64 (c.fe : Nat)) ∧ z.cell? ⟨wr.heap.size, 0, none⟩ = some (.string x.td.n)) (by kernel_rfl) (HP.out _ H6d.out HT6d.out) (fun hHeld => ?_)
          generalize w6.drew = wd at *
          refine wpAnyH_take (i := 1) (v := ?_) rfl (by kernel_rfl) (by kernel_rfl) (by kernel_rfl) (fun _ _ _ h => h) (Or.inl ⟨by rfl, ?_⟩) (by assumption) ?_
          rotate_left
          · intro z hSz
            obtain ⟨c3, c4⟩ := hSz
            go_simp
            try with_reducible rfl
          try simp only [Act.put, List.setIfInBounds_toArray, List.set_cons_zero, List.set_cons_succ, List.getElem_toArray, List.getElem_cons_succ, List.getElem_cons_zero]
          refine wpAnyH_take (i := 2) (v := ?_) rfl (by kernel_rfl) (by kernel_rfl) (by kernel_rfl) (fun _ _ _ h => h) (Or.inl ⟨by rfl, ?_⟩) (by assumption) ?_
          rotate_left
          · intro z hSz
            obtain ⟨c3, c4⟩ := hSz
            go_simp
            try with_reducible rfl
          try simp only [Act.put, List.setIfInBounds_toArray, List.set_cons_zero, List.set_cons_succ, List.getElem_toArray, List.getElem_cons_succ, List.getElem_cons_zero]
          refine wpAnyH_take (i := 3) (v := ?_) rfl (by kernel_rfl) (by kernel_rfl) (by kernel_rfl) (fun _ _ _ h => h) (Or.inl ⟨by rfl, ?_⟩) (by assumption) ?_
          rotate_left
          · intro z hSz
            obtain ⟨c3, c4⟩ := hSz
            go_simp
            try with_reducible rfl
          try simp only [Act.put, List.setIfInBounds_toArray, List.set_cons_zero, List.set_cons_succ, List.getElem_toArray, List.getElem_cons_succ, List.getElem_cons_zero]
          refine wpAnyH_take (i := 4) (v := ?_) rfl (by kernel_rfl) (by kernel_rfl) (by kernel_rfl) (fun _ _ _ h => h) (Or.inl ⟨by rfl, ?_⟩) (by assumption) ?_
          rotate_left
          · intro z hSz
            obtain ⟨c3, c4⟩ := hSz
            go_simp
            try with_reducible rfl
          try simp only [Act.put, List.setIfInBounds_toArray, List.set_cons_zero, List.set_cons_succ, List.getElem_toArray, List.getElem_cons_succ, List.getElem_cons_zero]
          refine wpAnyH_take (i := 5) (v := ?_) rfl (by kernel_rfl) (by kernel_rfl) (by kernel_rfl) (fun _ _ _ h => h) (Or.inl ⟨by rfl, ?_⟩) (by assumption) ?_
          rotate_left
          · intro z hSz
            obtain ⟨c3, c4⟩ := hSz
            go_simp
            try with_reducible rfl
          try simp only [Act.put, List.setIfInBounds_toArray, List.set_cons_zero, List.set_cons_succ, List.getElem_toArray, List.getElem_cons_succ, List.getElem_cons_zero]
          refine wpAnyH_ready (rs := [0, 6]) (by kernel_rfl) (by simp) ?_
          refine AllReadyH.cons rfl (fun K hK => ?_) (AllReadyH.cons rfl (fun K hK => ?_) AllReadyH.nil)
          · have b0 : wd.cell? ⟨w.heap.size, 0, none⟩ = some (.slice a1 c.ns.length d1) := H6d.out.cell 0
            have b1 : wd.cell? ⟨w.heap.size, 1, none⟩ = some (.slice a2 c.ts.length d2) := H6d.out.cell 1
            have b2 : wd.cell? ⟨w.heap.size, 2, none⟩ = some (.slice a3 c.bs.length d3) := H6d.out.cell 2
            have b3 : wd.cell? ⟨w.heap.size, 3, none⟩ = some (.int .u64 (c.fe : Nat)) := H6d.out.cell 3
            go_simp
            refine hK.out _ _ (HP.out _ H6d.out HT6d.out) (fun hHeld2 => ?_)
            clear hK K hHeld
            have hHeld := hHeld2
            clear hHeld2
            try simp only [Act.put, List.setIfInBounds_toArray, List.set_cons_zero, List.set_cons_succ, List.getElem_toArray, List.getElem_cons_succ, List.getElem_cons_zero]
            clear b0 b1 b2 b3
            refine wpAnyH_ready (rs := [6]) (by kernel_rfl) (by simp) ?_
            refine AllReadyH.cons rfl (fun K hK => ?_) AllReadyH.nil
            go_simp
            (with_reducible refine (HBI.out c.fe wd).mono ?_)
            rintro e w7 ⟨rfl, hb⟩
            have HX7 := Lib.hid (H6d.out.below hb)
            have HT7 := Lib.hid (HT6d.out.below hb)
            have HK7 := Lib.hid (HK6d.out.keep hb)
            have HB7 : Hid (Below w.heap.size w w7) := HB6d.out.trans (hb.mono HB6d.out.size)
            have HG7 : Hid (w2.grownBy w7 (some w.heap.size)) := grown_tr HG6d.out (grown_of _ hb)
            have HO7 := Lib.hid (HO6d.out.keep hb)
            clear hb
            refine hK.out _ _ (HP.out _ HX7.out HT7.out) (fun hHeld2 => ?_)
            clear hK K hHeld
            have hHeld := hHeld2
            clear hHeld2
            try simp only [Act.put, List.setIfInBounds_toArray, List.set_cons_zero, List.set_cons_succ, List.getElem_toArray, List.getElem_cons_succ, List.getElem_cons_zero]
            refine wpAnyH_ready (rs := [7]) (by kernel_rfl) (by simp) ?_
            refine AllReadyH.cons rfl (fun K hK => ?_) AllReadyH.nil
            go_simp
            (with_reducible refine (HDO.out w7 (HK7.out.books HB7.out)).mono ?_)
            rintro e w8 ⟨v1, v2, v3, rfl, hkp, hb⟩
            obtain ⟨⟨a4, d4, rfl⟩, ⟨a5, d5, rfl⟩, ⟨a6, d6, rfl⟩⟩ := hkp.slices
            have HX8 := Lib.hid (HX7.out.below hb)
            have HT8 := Lib.hid (HT7.out.below hb)
            have HK8 := Lib.hid hkp
            have HB8 : Hid (Below w.heap.size w w8) := HB7.out.trans (hb.mono HB7.out.size)
            have HG8 : Hid (w2.grownBy w8 (some w.heap.size)) := grown_tr HG7.out (grown_of _ hb)
            have HO8 := Lib.hid (HO7.out.keep hb)
            have HZ7 : Hid (w.heap.size < w7.heap.size) := HX7.out.lt
            clear hb hkp
            refine hK.out _ _ (HP.out _ HX8.out HT8.out) (fun hHeld2 => ?_)
            clear hK K hHeld
            have hHeld := hHeld2
            clear hHeld2
            try simp only [Act.put, List.setIfInBounds_toArray, List.set_cons_zero, List.set_cons_succ, List.getElem_toArray, List.getElem_cons_succ, List.getElem_cons_zero]
            refine wpAnyH_take (i := 8) (v := ?_) rfl (by kernel_rfl) (by kernel_rfl) (by kernel_rfl) (fun _ _ _ h => h) (Or.inl ⟨by rfl, ?_⟩) (by assumption) ?_
            rotate_left
            · intro z hSz
              obtain ⟨c3, c4⟩ := hSz
              go_simp
              try with_reducible rfl
            try simp only [Act.put, List.setIfInBounds_toArray, List.set_cons_zero, List.set_cons_succ, List.getElem_toArray, List.getElem_cons_succ, List.getElem_cons_zero]
            refine wpAnyH_take (i := 9) (v := ?_) rfl (by kernel_rfl) (by kernel_rfl) (by kernel_rfl) (fun _ _ _ h => h) (Or.inl ⟨by rfl, ?_⟩) (by assumption) ?_
            rotate_left
            · intro z hSz
              obtain ⟨c3, c4⟩ := hSz
              go_simp
              try with_reducible rfl
            try simp only [Act.put, List.setIfInBounds_toArray, List.set_cons_zero, List.set_cons_succ, List.getElem_toArray, List.getElem_cons_succ, List.getElem_cons_zero]
            refine wpAnyH_take (i := 10) (v := ?_) rfl (by kernel_rfl) (by kernel_rfl) (by kernel_rfl) (fun _ _ _ h => h) (Or.inl ⟨by rfl, ?_⟩) (by assumption) ?_
            rotate_left
            · intro z hSz
              obtain ⟨c3, c4⟩ := hSz
              go_simp
              try with_reducible rfl
            try simp only [Act.put, List.setIfInBounds_toArray, List.set_cons_zero, List.set_cons_succ, List.getElem_toArray, List.getElem_cons_succ, List.getElem_cons_zero]
            have hth := HX8.out.there 4 rfl
            have HX9 := Lib.hid (HX8.out.all [.slice a4 c2.ns.length d4, .slice a5 c2.ts.length d5, .slice a6 c2.bs.length d6, .int .u64 (c2.fe : Nat)] rfl)
            have HT9 := Lib.hid (bxn_far (o := 0) (vs := [.slice a4 c2.ns.length d4, .slice a5 c2.ts.length d5, .slice a6 c2.bs.length d6, .int .u64 (c2.fe : Nat)]) HT8.out (by have := HZR.out; omega : wr.heap.size ≠ w.heap.size))
            refine wpAnyH_ready (rs := [11]) (by kernel_rfl) (by simp) ?_
            refine AllReadyH.cons rfl (fun K hK => ?_) AllReadyH.nil
            refine wp_store_mid 27 (.tmp 2) (.tmp 53) rfl w.heap.size 0 #[.slice a4 c2.ns.length d4, .slice a5 c2.ts.length d5, .slice a6 c2.bs.length d6, .int .u64 (c2.fe : Nat)] rfl rfl hth rfl (all_oneCell_toArray (List.all_eq_true.1 (show List.all ([.slice a4 c2.ns.length d4, .slice a5 c2.ts.length d5, .slice a6 c2.bs.length d6, .int .u64 (c2.fe : Nat)] : List Value) (fun v => v.oneCell') = true from rfl))) ?_
            refine hK.out _ _ (⟨by rw [← HFE.out]; exact HX9.out.cell 3, HT9.out.cell 0⟩) (fun hHeld2 => ?_)
            clear hK K hHeld
            have hHeld := hHeld2
            clear hHeld2
            try simp only [Act.put, List.getElem_toArray, List.getElem_cons_succ, List.getElem_cons_zero]
            refine wpAnyH_done (by kernel_rfl) ?_ _
            have HO9 : Hid (Own (w8.setCells w.heap.size 0 [.slice a4 c2.ns.length d4, .slice a5 c2.ts.length d5, .slice a6 c2.bs.length d6, .int .u64 (c2.fe : Nat)]) w2.heap.size 55 v4 ((s ++ [(⟨x.td.n, on⟩ : Rg.Pr)]).map (stp f))) := Own.farS HO8.out (grown_setCells _ _ _ _) HZ2.out
            have HG9 : Hid (w2.grownBy (w8.setCells w.heap.size 0 [.slice a4 c2.ns.length d4, .slice a5 c2.ts.length d5, .slice a6 c2.bs.length d6, .int .u64 (c2.fe : Nat)]) (some w.heap.size)) := grown_tr HG8.out (grown_setCells _ _ _ _)
            have HK9 : Hid (BkIn w (w8.setCells w.heap.size 0 [.slice a4 c2.ns.length d4, .slice a5 c2.ts.length d5, .slice a6 c2.bs.length d6, .int .u64 (c2.fe : Nat)]) c2 (.slice a4 c2.ns.length d4) (.slice a5 c2.ts.length d5) (.slice a6 c2.bs.length d6)) := .inr ⟨w7, HZ7.out, HK8.out.far HZ7.out 0 _⟩
            have HB9 : Hid (Below w.heap.size w (w8.setCells w.heap.size 0 [.slice a4 c2.ns.length d4, .slice a5 c2.ts.length d5, .slice a6 c2.bs.length d6, .int .u64 (c2.fe : Nat)])) := below_setCells HB8.out (Nat.le_refl _) _ _
            go_wp2
            go_roundg gg
            case measure => omega
            case rel => exact ⟨k + 1, c2, s ++ [(⟨x.td.n, on⟩ : Rg.Pr)], a4, a5, a6, d4, d5, d6, by have := HKG.out; omega, by simp, HI2.out, HO9.out, HX9.out, HG9.out, HK9.out, HB9.out⟩
          · go_simp
            (with_reducible refine (HBI.out c.fe wd).mono ?_)
            rintro e w7 ⟨rfl, hb⟩
            have HX7 := Lib.hid (H6d.out.below hb)
            have HT7 := Lib.hid (HT6d.out.below hb)
            have HK7 := Lib.hid (HK6d.out.keep hb)
            have HB7 : Hid (Below w.heap.size w w7) := HB6d.out.trans (hb.mono HB6d.out.size)
            have HG7 : Hid (w2.grownBy w7 (some w.heap.size)) := grown_tr HG6d.out (grown_of _ hb)
            have HO7 := Lib.hid (HO6d.out.keep hb)
            clear hb
            refine hK.out _ _ (HP.out _ HX7.out HT7.out) (fun hHeld2 => ?_)
            clear hK K hHeld
            have hHeld := hHeld2
            clear hHeld2
            try simp only [Act.put, List.setIfInBounds_toArray, List.set_cons_zero, List.set_cons_succ, List.getElem_toArray, List.getElem_cons_succ, List.getElem_cons_zero]
            refine wpAnyH_ready (rs := [0]) (by kernel_rfl) (by simp) ?_
            refine AllReadyH.cons rfl (fun K hK => ?_) AllReadyH.nil
            have b0 : w7.cell? ⟨w.heap.size, 0, none⟩ = some (.slice a1 c.ns.length d1) := HX7.out.cell 0
            have b1 : w7.cell? ⟨w.heap.size, 1, none⟩ = some (.slice a2 c.ts.length d2) := HX7.out.cell 1
            have b2 : w7.cell? ⟨w.heap.size, 2, none⟩ = some (.slice a3 c.bs.length d3) := HX7.out.cell 2
            have b3 : w7.cell? ⟨w.heap.size, 3, none⟩ = some (.int .u64 (c.fe : Nat)) := HX7.out.cell 3
            go_simp
            refine hK.out _ _ (HP.out _ HX7.out HT7.out) (fun hHeld2 => ?_)
            clear hK K hHeld
            have hHeld := hHeld2
            clear hHeld2
            try simp only [Act.put, List.setIfInBounds_toArray, List.set_cons_zero, List.set_cons_succ, List.getElem_toArray, List.getElem_cons_succ, List.getElem_cons_zero]
            clear b0 b1 b2 b3
            refine wpAnyH_ready (rs := [7]) (by kernel_rfl) (by simp) ?_
            refine AllReadyH.cons rfl (fun K hK => ?_) AllReadyH.nil
            go_simp
            (with_reducible refine (HDO.out w7 (HK7.out.books HB7.out)).mono ?_)
            rintro e w8 ⟨v1, v2, v3, rfl, hkp, hb⟩
            obtain ⟨⟨a4, d4, rfl⟩, ⟨a5, d5, rfl⟩, ⟨a6, d6, rfl⟩⟩ := hkp.slices
            have HX8 := Lib.hid (HX7.out.below hb)
            have HT8 := Lib.hid (HT7.out.below hb)
            have HK8 := Lib.hid hkp
            have HB8 : Hid (Below w.heap.size w w8) := HB7.out.trans (hb.mono HB7.out.size)
            have HG8 : Hid (w2.grownBy w8 (some w.heap.size)) := grown_tr HG7.out (grown_of _ hb)
            have HO8 := Lib.hid (HO7.out.keep hb)
            have HZ7 : Hid (w.heap.size < w7.heap.size) := HX7.out.lt
            clear hb hkp
            refine hK.out _ _ (HP.out _ HX8.out HT8.out) (fun hHeld2 => ?_)
            clear hK K hHeld
            have hHeld := hHeld2
            clear hHeld2
            try simp only [Act.put, List.setIfInBounds_toArray, List.set_cons_zero, List.set_cons_succ, List.getElem_toArray, List.getElem_cons_succ, List.getElem_cons_zero]
            refine wpAnyH_take (i := 8) (v := ?_) rfl (by kernel_rfl) (by kernel_rfl) (by kernel_rfl) (fun _ _ _ h => h) (Or.inl ⟨by rfl, ?_⟩) (by assumption) ?_
            rotate_left
            · intro z hSz
              obtain ⟨c3, c4⟩ := hSz
              go_simp
              try with_reducible rfl
            try simp only [Act.put, List.setIfInBounds_toArray, List.set_cons_zero, List.set_cons_succ, List.getElem_toArray, List.getElem_cons_succ, List.getElem_cons_zero]
            refine wpAnyH_take (i := 9) (v := ?_) rfl (by kernel_rfl) (by kernel_rfl) (by kernel_rfl) (fun _ _ _ h => h) (Or.inl ⟨by rfl, ?_⟩) (by assumption) ?_
            rotate_left
            · intro z hSz
              obtain ⟨c3, c4⟩ := hSz
              go_simp
              try with_reducible rfl
            try simp only [Act.put, List.setIfInBounds_toArray, List.set_cons_zero, List.set_cons_succ, List.getElem_toArray, List.getElem_cons_succ, List.getElem_cons_zero]
            refine wpAnyH_take (i := 10) (v := ?_) rfl (by kernel_rfl) (by kernel_rfl) (by kernel_rfl) (fun _ _ _ h => h) (Or.inl ⟨by rfl, ?_⟩) (by assumption) ?_
            rotate_left
            · intro z hSz
              obtain ⟨c3, c4⟩ := hSz
              go_simp
              try with_reducible rfl
            try simp only [Act.put, List.setIfInBounds_toArray, List.set_cons_zero, List.set_cons_succ, List.getElem_toArray, List.getElem_cons_succ, List.getElem_cons_zero]
            have hth := HX8.out.there 4 rfl
            have HX9 := Lib.hid (HX8.out.all [.slice a4 c2.ns.length d4, .slice a5 c2.ts.length d5, .slice a6 c2.bs.length d6, .int .u64 (c2.fe : Nat)] rfl)
            have HT9 := Lib.hid (bxn_far (o := 0) (vs := [.slice a4 c2.ns.length d4, .slice a5 c2.ts.length d5, .slice a6 c2.bs.length d6, .int .u64 (c2.fe : Nat)]) HT8.out (by have := HZR.out; omega : wr.heap.size ≠ w.heap.size))
            refine wpAnyH_ready (rs := [11]) (by kernel_rfl) (by simp) ?_
            refine AllReadyH.cons rfl (fun K hK => ?_) AllReadyH.nil
            refine wp_store_mid 27 (.tmp 2) (.tmp 53) rfl w.heap.size 0 #[.slice a4 c2.ns.length d4, .slice a5 c2.ts.length d5, .slice a6 c2.bs.length d6, .int .u64 (c2.fe : Nat)] rfl rfl hth rfl (all_oneCell_toArray (List.all_eq_true.1 (show List.all ([.slice a4 c2.ns.length d4, .slice a5 c2.ts.length d5, .slice a6 c2.bs.length d6, .int .u64 (c2.fe : Nat)] : List Value) (fun v => v.oneCell') = true from rfl))) ?_
            refine hK.out _ _ (⟨by rw [← HFE.out]; exact HX9.out.cell 3, HT9.out.cell 0⟩) (fun hHeld2 => ?_)
            clear hK K hHeld
            have hHeld := hHeld2
            clear hHeld2
            try simp only [Act.put, List.getElem_toArray, List.getElem_cons_succ, List.getElem_cons_zero]
            refine wpAnyH_done (by kernel_rfl) ?_ _
            have HO9 : Hid (Own (w8.setCells w.heap.size 0 [.slice a4 c2.ns.length d4, .slice a5 c2.ts.length d5, .slice a6 c2.bs.length d6, .int .u64 (c2.fe : Nat)]) w2.heap.size 55 v4 ((s ++ [(⟨x.td.n, on⟩ : Rg.Pr)]).map (stp f))) := Own.farS HO8.out (grown_setCells _ _ _ _) HZ2.out
            have HG9 : Hid (w2.grownBy (w8.setCells w.heap.size 0 [.slice a4 c2.ns.length d4, .slice a5 c2.ts.length d5, .slice a6 c2.bs.length d6, .int .u64 (c2.fe : Nat)]) (some w.heap.size)) := grown_tr HG8.out (grown_setCells _ _ _ _)
            have HK9 : Hid (BkIn w (w8.setCells w.heap.size 0 [.slice a4 c2.ns.length d4, .slice a5 c2.ts.length d5, .slice a6 c2.bs.length d6, .int .u64 (c2.fe : Nat)]) c2 (.slice a4 c2.ns.length d4) (.slice a5 c2.ts.length d5) (.slice a6 c2.bs.length d6)) := .inr ⟨w7, HZ7.out, HK8.out.far HZ7.out 0 _⟩
            have HB9 : Hid (Below w.heap.size w (w8.setCells w.heap.size 0 [.slice a4 c2.ns.length d4, .slice a5 c2.ts.length d5, .slice a6 c2.bs.length d6, .int .u64 (c2.fe : Nat)])) := below_setCells HB8.out (Nat.le_refl _) _ _
            go_wp2
            go_roundg gg
            case measure => omega
            case rel => exact ⟨k + 1, c2, s ++ [(⟨x.td.n, on⟩ : Rg.Pr)], a4, a5, a6, d4, d5, d6, by have := HKG.out; omega, by simp, HI2.out, HO9.out, HX9.out, HG9.out, HK9.out, HB9.out⟩
end Bo
end Go.Proofs.YthbmnkeigmbbdaaGreat
