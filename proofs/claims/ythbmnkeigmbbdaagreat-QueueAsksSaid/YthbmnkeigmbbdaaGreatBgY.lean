/-
  Merged: BoLook, BoChange, BoCln, BoCo, BoDoA, BoDoNo, BoDoForm, BoDoChg, BoDoLook, BoDo.
-/
import Derived.Test.YthbmnkeigmbbdaaGreatBgB
import Derived.Test.YthbmnkeigmbbdaaGreatBgX
import Derived.Test.YthbmnkeigmbbdaaGreatBoBind
import Derived.Test.YthbmnkeigmbbdaaGreatBookCo
import Derived.Deep.RegionWith
import Derived.Deep.RegionHeld3
/-
  WHERE A TASK IS: book.look.
-/
namespace Go.Proofs.YthbmnkeigmbbdaaGreat
open Go.RowKit Go.Lib
namespace Bo
open Rw
set_option linter.unusedVariables false
end Bo
end Go.Proofs.YthbmnkeigmbbdaaGreat

/-
  A BOOK CHANGED: book.change.
-/
namespace Go.Proofs.YthbmnkeigmbbdaaGreat
open Go.RowKit Go.Lib
namespace Bo
open Rw
set_option linter.unusedVariables false
end Bo
end Go.Proofs.YthbmnkeigmbbdaaGreat

/-
  A BOOK ANEW: book.clone.
-/
namespace Go.Proofs.YthbmnkeigmbbdaaGreat
open Go.RowKit Go.Lib
namespace Bo
open Rw
set_option linter.unusedVariables false

theorem bkC_one {a a' a'' : Option Addr} {n n' n'' c c' c'' : Nat} (b : Bk) : ∀ u ∈ bkC (.slice a n c) (.slice a' n' c') (.slice a'' n'' c'') b, u.oneCell' = true := by
  intro u hu
  simp only [bkC, List.mem_cons, List.not_mem_nil, or_false] at hu
  rcases hu with rfl | rfl | rfl | rfl <;> rfl
/-- A book's copy: its lists in rows made for it. -/
def ClnB (b : Bk) (w : World) (e : Ending) (w' : World) : Prop := ∃ vn vt vb mn mt, e = .returned (.agg #[vn, vt, vb, .int .u64 (b.fe : Nat)]) ∧ b.ns = mn.map (·.nd) ∧ b.ts = mt.map (·.td) ∧ OwnL w' w.heap.size vn vt vb mn mt b.bs ∧ Below w.heap.size w w'
theorem ClnB.mk {b : Bk} {w w' : World} {vn vt vb : Value} (mn : List NdM) (mt : List TdM) (h1 : b.ns = mn.map (·.nd)) (h2 : b.ts = mt.map (·.td)) (h3 : OwnL w' w.heap.size vn vt vb mn mt b.bs) (h4 : Below w.heap.size w w') : ClnB b w (.returned (.agg #[vn, vt, vb, .int .u64 (b.fe : Nat)])) w' := ⟨vn, vt, vb, mn, mt, rfl, h1, h2, h3, h4⟩
set_option maxRecDepth 100000 in
set_option maxHeartbeats 4000000 in
theorem clone_bk (b : Bk) (vn vt vb : Value) (w : World) (hB : Books w w.heap.size vn vt vb b) (hf : Fine b) :
    Calls Tryz.prog 51 #[.agg #[vn, vt, vb, .int .u64 (b.fe : Nat)]] w (ClnB b w) := by
  obtain ⟨W0, hW0⟩ : ∃ W0, W0 = (w.alloc (.cells #[vn, vt, vb, .int .u64 (b.fe : Nat)] 27)).alloc (.cells #[.slice none 0 0, .slice none 0 0, .slice none 0 0, .int .u64 0] 27) := ⟨_, rfl⟩
  have hb0 : Below w.heap.size w W0 := by rw [hW0]; exact ((Below.refl _ w).alloc (Nat.le_refl _) _).alloc (by simp) _
  have hz0 : W0.heap.size = w.heap.size + 1 + 1 := by rw [hW0]; simp
  have hbx : Hd.Bxn W0 w.heap.size [vn, vt, vb, .int .u64 (b.fe : Nat)] := by
    rw [hW0]
    exact (Hd.Bxn.made w [vn, vt, vb, .int .u64 (b.fe : Nat)] 27).below (al _ _)
  have hrs : Hd.Bxn W0 (w.heap.size + 1) [.slice none 0 0, .slice none 0 0, .slice none 0 0, .int .u64 0] := by
    rw [hW0]
    have := Hd.Bxn.made (w.alloc (.cells #[vn, vt, vb, .int .u64 (b.fe : Nat)] 27)) [.slice none 0 0, .slice none 0 0, .slice none 0 0, .int .u64 0] 27
    rwa [World.size_alloc] at this
  obtain ⟨m, hm, hsm, hdm, hlm⟩ := hB.hn
  obtain ⟨n, hn, hsn, hdn, hln⟩ := hB.ht
  have HEN : Hid (Calls Tryz.prog 90 #[vn, .func (.func 91) #[] #[]] W0 (EachN W0 m)) := each_n vn m W0 (hsm.on hb0) (fun x hx => ⟨(hdm x hx).1.on hb0, (hdm x hx).2⟩) (by rw [hm, List.length_map] at hlm; exact hlm)
  have HET : Hid (∀ z, Hid (Below w.heap.size w z) → Calls Tryz.prog 92 #[vt, .func (.func 93) #[] #[]] z (EachT z n)) := fun z hz => each_t vt n z (hsn.on hz.out) (fun x hx => ⟨(hdn x hx).1.on hz.out, (hdn x hx).2⟩) (by rw [hn, List.length_map] at hln; exact hln)
  have HEB : Hid (∀ z, Hid (Below w.heap.size w z) → Calls Tryz.prog 94 #[vb] z fun e w' => ∃ v', e = .returned v' ∧ Own w' z.heap.size 106 v' b.bs ∧ Below z.heap.size z w') := fun z hz => clone_b vb b.bs z (hB.hb.1.on hz.out) hB.hb.2.2
  obtain ⟨an, cn, hvn⟩ := hB.hn.slice
  obtain ⟨at', ct, hvt⟩ := hB.ht.slice
  obtain ⟨ab, cb, hvb⟩ := hB.hb.slice
  subst hvn hvt hvb
  have HM := Lib.hid hm
  have HN := Lib.hid hn
  have HW := Lib.hid hW0
  have HB0 := Lib.hid hb0
  have HSZ := Lib.hid hz0
  have HBX := Lib.hid hbx
  have HRS := Lib.hid hrs
  clear hW0 hb0 hz0 hbx hrs hB hf hm hn hsm hsn hdm hdn hlm hln
  go_enter Tryz.func51, Tryz.ntmps51
  go_upto_region 1 with fail
  rw [← HW.out]
  have b0 : W0.cell? ⟨w.heap.size, 0, none⟩ = some (.slice an b.ns.length cn) := HBX.out.cell 0
  go_wp2_with fail
  refine HEN.out.mono ?_
  rintro e w1 ⟨v1, m1, rfl, he1, ho1, hd1, hb1⟩
  obtain ⟨a1, c1, rfl⟩ := ho1.slice
  have hx1 : Hd.Bxn w1 w.heap.size [.slice an b.ns.length cn, .slice at' b.ts.length ct, .slice ab b.bs.length cb, .int .u64 (b.fe : Nat)] := HBX.out.below hb1
  have q0 : w1.cell? ⟨w.heap.size, 0, none⟩ = some (.slice an b.ns.length cn) := hx1.cell 0
  have f0 := hx1.fz 0
  have hg2 := grown_setCell w1 w.heap.size 0 (.slice a1 m1.length c1)
  have H2 : Hid (Below w.heap.size w (w1.setCell ⟨w.heap.size, 0, none⟩ (.slice a1 m1.length c1))) := (HB0.out.trans (hb1.mono HB0.out.size)).setCell (Nat.le_refl _) _
  have HX2 : Hid (Hd.Bxn (w1.setCell ⟨w.heap.size, 0, none⟩ (.slice a1 m1.length c1)) w.heap.size [.slice a1 m1.length c1, .slice at' b.ts.length ct, .slice ab b.bs.length cb, .int .u64 (b.fe : Nat)]) := hx1.set 0 _
  have HR2 : Hid (Hd.Bxn (w1.setCell ⟨w.heap.size, 0, none⟩ (.slice a1 m1.length c1)) (w.heap.size + 1) [.slice none 0 0, .slice none 0 0, .slice none 0 0, .int .u64 0]) := (HRS.out.below hb1).apart (by omega) _ _
  have HO2 : Hid (Own (w1.setCell ⟨w.heap.size, 0, none⟩ (.slice a1 m1.length c1)) (w.heap.size + 1 + 1) 45 (.slice a1 m1.length c1) m1) := own_far (ho1.le (by rw [HSZ.out]; omega)) hg2 (by omega)
  have HD2 : Hid (∀ y ∈ m1, OwnN (w1.setCell ⟨w.heap.size, 0, none⟩ (.slice a1 m1.length c1)) (w.heap.size + 1 + 1) y) := fun y hy => ⟨own_far ((hd1 y hy).1.le (by rw [HSZ.out]; omega)) hg2 (by omega), own_far ((hd1 y hy).2.le (by rw [HSZ.out]; omega)) hg2 (by omega)⟩
  have HS2 : Hid (w.heap.size + 1 + 1 ≤ (w1.setCell ⟨w.heap.size, 0, none⟩ (.slice a1 m1.length c1)).heap.size) := Lib.hid (by have := hb1.size; rw [HSZ.out] at this; simpa [World.setCell] using this)
  have HE1 := Lib.hid he1
  clear b0 ho1 hd1 hb1 he1 hx1 hg2 HBX HRS HEN
  go_upto_region 2 with fail
  generalize w1.setCell ⟨w.heap.size, 0, none⟩ (.slice a1 m1.length c1) = w2 at *
  have b1 : w2.cell? ⟨w.heap.size, 1, none⟩ = some (.slice at' b.ts.length ct) := HX2.out.cell 1
  clear q0 f0
  go_wp2_with fail
  refine (HET.out _ H2).mono ?_
  rintro e w3 ⟨v3, m3, rfl, he3, ho3, hd3, hb3⟩
  obtain ⟨a3, c3, rfl⟩ := ho3.slice
  have hx3 : Hd.Bxn w3 w.heap.size [.slice a1 m1.length c1, .slice at' b.ts.length ct, .slice ab b.bs.length cb, .int .u64 (b.fe : Nat)] := HX2.out.below hb3
  have q1 : w3.cell? ⟨w.heap.size, 1, none⟩ = some (.slice at' b.ts.length ct) := hx3.cell 1
  have f1 := hx3.fz 1
  have hg4 := grown_setCell w3 w.heap.size 1 (.slice a3 m3.length c3)
  have H4 : Hid (Below w.heap.size w (w3.setCell ⟨w.heap.size, 1, none⟩ (.slice a3 m3.length c3))) := (H2.out.trans (hb3.mono H2.out.size)).setCell (Nat.le_refl _) _
  have HX4 : Hid (Hd.Bxn (w3.setCell ⟨w.heap.size, 1, none⟩ (.slice a3 m3.length c3)) w.heap.size [.slice a1 m1.length c1, .slice a3 m3.length c3, .slice ab b.bs.length cb, .int .u64 (b.fe : Nat)]) := hx3.set 1 _
  have HR4 : Hid (Hd.Bxn (w3.setCell ⟨w.heap.size, 1, none⟩ (.slice a3 m3.length c3)) (w.heap.size + 1) [.slice none 0 0, .slice none 0 0, .slice none 0 0, .int .u64 0]) := (HR2.out.below hb3).apart (by omega) _ _
  have HO4 : Hid (Own (w3.setCell ⟨w.heap.size, 1, none⟩ (.slice a3 m3.length c3)) (w.heap.size + 1 + 1) 45 (.slice a1 m1.length c1) m1) := own_far (HO2.out.keep hb3) hg4 (by omega)
  have HD4 : Hid (∀ y ∈ m1, OwnN (w3.setCell ⟨w.heap.size, 1, none⟩ (.slice a3 m3.length c3)) (w.heap.size + 1 + 1) y) := fun y hy => ⟨own_far ((HD2.out y hy).1.keep hb3) hg4 (by omega), own_far ((HD2.out y hy).2.keep hb3) hg4 (by omega)⟩
  have HP4 : Hid (Own (w3.setCell ⟨w.heap.size, 1, none⟩ (.slice a3 m3.length c3)) (w.heap.size + 1 + 1) 42 (.slice a3 m3.length c3) m3) := own_far (ho3.le HS2.out) hg4 (by omega)
  have HT4 : Hid (∀ y ∈ m3, OwnT (w3.setCell ⟨w.heap.size, 1, none⟩ (.slice a3 m3.length c3)) (w.heap.size + 1 + 1) y) := fun y hy => ⟨own_far ((hd3 y hy).1.le HS2.out) hg4 (by omega), own_far ((hd3 y hy).2.le HS2.out) hg4 (by omega)⟩
  have HS4 : Hid (w.heap.size + 1 + 1 ≤ (w3.setCell ⟨w.heap.size, 1, none⟩ (.slice a3 m3.length c3)).heap.size) := Lib.hid (by have := hb3.size; have h2 := HS2.out; simp only [World.setCell, Array.size_modify]; omega)
  have HE3 := Lib.hid he3
  clear b1 ho3 hd3 hb3 he3 hx3 hg4 HX2 HR2 HO2 HD2 HS2 H2
  go_upto_region 3 with fail
  generalize w3.setCell ⟨w.heap.size, 1, none⟩ (.slice a3 m3.length c3) = w4 at *
  have b2 : w4.cell? ⟨w.heap.size, 2, none⟩ = some (.slice ab b.bs.length cb) := HX4.out.cell 2
  clear q1 f1
  go_wp2_with fail
  refine (HEB.out _ H4).mono ?_
  rintro e w5 ⟨v5, rfl, ho5, hb5⟩
  obtain ⟨a5, c5, rfl⟩ := ho5.slice
  have hx5 : Hd.Bxn w5 w.heap.size [.slice a1 m1.length c1, .slice a3 m3.length c3, .slice ab b.bs.length cb, .int .u64 (b.fe : Nat)] := HX4.out.below hb5
  have q2 : w5.cell? ⟨w.heap.size, 2, none⟩ = some (.slice ab b.bs.length cb) := hx5.cell 2
  have f2 := hx5.fz 2
  have hg6 := grown_setCell w5 w.heap.size 2 (.slice a5 b.bs.length c5)
  have H6 : Hid (Below w.heap.size w (w5.setCell ⟨w.heap.size, 2, none⟩ (.slice a5 b.bs.length c5))) := (H4.out.trans (hb5.mono H4.out.size)).setCell (Nat.le_refl _) _
  have HX6 : Hid (Hd.Bxn (w5.setCell ⟨w.heap.size, 2, none⟩ (.slice a5 b.bs.length c5)) w.heap.size (bkC (.slice a1 m1.length c1) (.slice a3 m3.length c3) (.slice a5 b.bs.length c5) b)) := hx5.set 2 _
  have HR6 : Hid (Hd.Bxn (w5.setCell ⟨w.heap.size, 2, none⟩ (.slice a5 b.bs.length c5)) (w.heap.size + 1) [.slice none 0 0, .slice none 0 0, .slice none 0 0, .int .u64 0]) := (HR4.out.below hb5).apart (by omega) _ _
  have HL6 : Hid (OwnL (w5.setCell ⟨w.heap.size, 2, none⟩ (.slice a5 b.bs.length c5)) (w.heap.size + 1 + 1) (.slice a1 m1.length c1) (.slice a3 m3.length c3) (.slice a5 b.bs.length c5) m1 m3 b.bs) :=
    ⟨own_far (HO4.out.keep hb5) hg6 (by omega), own_far (HP4.out.keep hb5) hg6 (by omega), own_far (ho5.le HS4.out) hg6 (by omega), fun y hy => ⟨own_far ((HD4.out y hy).1.keep hb5) hg6 (by omega), own_far ((HD4.out y hy).2.keep hb5) hg6 (by omega)⟩, fun y hy => ⟨own_far ((HT4.out y hy).1.keep hb5) hg6 (by omega), own_far ((HT4.out y hy).2.keep hb5) hg6 (by omega)⟩⟩
  clear b2 ho5 hb5 hx5 hg6 HX4 HR4 HO4 HD4 HP4 HT4 HS4 H4
  go_upto_region 4 with fail
  generalize w5.setCell ⟨w.heap.size, 2, none⟩ (.slice a5 b.bs.length c5) = w6 at *
  clear q2 f2
  have hth := HR6.out.there 4 rfl
  refine wp_region_list ?_
  refine wpList_load_mid rfl 27 (.tmp 1) rfl w.heap.size 0 rfl (bkC (.slice a1 m1.length c1) (.slice a3 m3.length c3) (.slice a5 b.bs.length c5) b) _ (HX6.out.range 0) Tryz.underlying27 rfl rfl ?_
  refine wpList_store_mid rfl 27 (.tmp 2) (.tmp 15) rfl (w.heap.size + 1) 0 (bkC (.slice a1 m1.length c1) (.slice a3 m3.length c3) (.slice a5 b.bs.length c5) b).toArray rfl rfl hth rfl (all_oneCell_toArray (bkC_one b)) ?_
  rw [show (bkC (.slice a1 m1.length c1) (.slice a3 m3.length c3) (.slice a5 b.bs.length c5) b).toArray.toList = bkC (.slice a1 m1.length c1) (.slice a3 m3.length c3) (.slice a5 b.bs.length c5) b from rfl]
  have HE := Lib.hid (HR6.out.all (bkC (.slice a1 m1.length c1) (.slice a3 m3.length c3) (.slice a5 b.bs.length c5) b) rfl)
  have HBE : Hid (Below w.heap.size w (w6.setCells (w.heap.size + 1) 0 (bkC (.slice a1 m1.length c1) (.slice a3 m3.length c3) (.slice a5 b.bs.length c5) b))) := below_setCells H6.out (by omega) _ _
  have HLE : Hid (OwnL (w6.setCells (w.heap.size + 1) 0 (bkC (.slice a1 m1.length c1) (.slice a3 m3.length c3) (.slice a5 b.bs.length c5) b)) w.heap.size (.slice a1 m1.length c1) (.slice a3 m3.length c3) (.slice a5 b.bs.length c5) m1 m3 b.bs) := (HL6.out.far (grown_setCells _ _ _ _) (by omega)).le (by omega)
  clear hth HR6 HL6 HX6 H6
  generalize w6.setCells (w.heap.size + 1) 0 (bkC (.slice a1 m1.length c1) (.slice a3 m3.length c3) (.slice a5 b.bs.length c5) b) = wE at *
  refine wpList_nil ?_
  go_wp2
  exact Hd.bodyPost_bx rfl (w.heap.size + 1) (bkC (.slice a1 m1.length c1) (.slice a3 m3.length c3) (.slice a5 b.bs.length c5) b) _ rfl rfl HE.out Tryz.underlying27 rfl rfl (ClnB.mk m1 m3 (HM.out.trans HE1.out.symm) (HN.out.trans HE3.out.symm) HLE.out HBE.out)
end Bo
end Go.Proofs.YthbmnkeigmbbdaaGreat

/-
  book.CheckOrder, whatever the kind.
-/
namespace Go.Proofs.YthbmnkeigmbbdaaGreat
open Go.RowKit
namespace Hd
open PM Hc Rg
end Hd
end Go.Proofs.YthbmnkeigmbbdaaGreat

/-
  WHAT AN ORDER COMES TO, and the boxes of book.Do.
-/
namespace Go.Proofs.YthbmnkeigmbbdaaGreat
open Go.RowKit Go.Lib
namespace Bo
open Rw
set_option linter.unusedVariables false
def bk0 : Bk := ⟨[], [], [], 0⟩
/-- A book, and what is told: its lists in rows made for it. -/
def Gave (b : Bk) (r : Nat) (s : ByteArray) (w : World) (e : Ending) (w' : World) : Prop := ∃ vn vt vb mn mt, e = .returned (.tuple #[.agg #[vn, vt, vb, .int .u64 (b.fe : Nat)], .agg #[.int .i64 (r : Nat), .string s]]) ∧ b.ns = mn.map (·.nd) ∧ b.ts = mt.map (·.td) ∧ OwnL w' w.heap.size vn vt vb mn mt b.bs ∧ Below w.heap.size w w'
theorem Gave.mk {b : Bk} {r : Nat} {s : ByteArray} {w w' : World} {vn vt vb : Value} (mn : List NdM) (mt : List TdM) (h1 : b.ns = mn.map (·.nd)) (h2 : b.ts = mt.map (·.td)) (h3 : OwnL w' w.heap.size vn vt vb mn mt b.bs) (h4 : Below w.heap.size w w') : Gave b r s w (.returned (.tuple #[.agg #[vn, vt, vb, .int .u64 (b.fe : Nat)], .agg #[.int .i64 (r : Nat), .string s]])) w' := ⟨vn, vt, vb, mn, mt, rfl, h1, h2, h3, h4⟩
/-- The four boxes of book.Do: what it was given, and what it gives. -/
structure Fr4 (w z : World) (cs : List Value) (os : List Value) (rs : List Value) (ts : List Value) : Prop where
  p : Hd.Bxn z w.heap.size cs
  o : Hd.Bxn z (w.heap.size + 1) os
  r : Hd.Bxn z (w.heap.size + 1 + 1) rs
  t : Hd.Bxn z (w.heap.size + 1 + 1 + 1) ts
  b : Below w.heap.size w z
  s : w.heap.size + 1 + 1 + 1 + 1 ≤ z.heap.size
theorem Fr4.made (w : World) (cs os rs ts : List Value) (T U : TypeId) (V : TypeId) : Fr4 w ((((w.alloc (.cells cs.toArray T)).alloc (.cells os.toArray U)).alloc (.cells rs.toArray T)).alloc (.cells ts.toArray V)) cs os rs ts := by
  have h1 := Hd.Bxn.made w cs T
  have h2 := Hd.Bxn.made (w.alloc (.cells cs.toArray T)) os U
  have h3 := Hd.Bxn.made ((w.alloc (.cells cs.toArray T)).alloc (.cells os.toArray U)) rs T
  have h4 := Hd.Bxn.made (((w.alloc (.cells cs.toArray T)).alloc (.cells os.toArray U)).alloc (.cells rs.toArray T)) ts V
  simp only [World.size_alloc] at h2 h3 h4
  refine ⟨((h1.below (al _ _)).below (al _ _)).below (al _ _), (h2.below (al _ _)).below (al _ _), h3.below (al _ _), h4, ?_, by simp⟩
  exact ((((Below.refl _ w).alloc (Nat.le_refl _) _).alloc (by simp) _).alloc (by simp; omega) _).alloc (by simp; omega) _
theorem Fr4.below {w z z' : World} {cs os rs ts : List Value} (h : Fr4 w z cs os rs ts) (hb : Below z.heap.size z z') : Fr4 w z' cs os rs ts :=
  ⟨h.p.below hb, h.o.below hb, h.r.below hb, h.t.below hb, h.b.trans (hb.mono h.b.size), Nat.le_trans h.s hb.size⟩
theorem bxn_far {z : World} {B P o : Nat} {cs vs : List Value} (h : Hd.Bxn z B cs) (hp : B ≠ P) : Hd.Bxn (z.setCells P o vs) B cs := by
  obtain ⟨T, h⟩ := h
  exact ⟨T, ((grown_setCells z P o vs).block B (by have := (Hd.Bxn.lt ⟨T, h⟩); exact this) (fun e => hp (Option.some.inj e))).trans h⟩
theorem Fr4.setP {w z : World} {cs os rs ts : List Value} (h : Fr4 w z cs os rs ts) (vs : List Value) (hl : vs.length = cs.length) : Fr4 w (z.setCells w.heap.size 0 vs) vs os rs ts :=
  ⟨h.p.all vs hl, bxn_far h.o (by omega), bxn_far h.r (by omega), bxn_far h.t (by omega), below_setCells h.b (by omega) _ _, Nat.le_trans h.s (grown_setCells z w.heap.size 0 vs).size⟩
theorem Fr4.setR {w z : World} {cs os rs ts : List Value} (h : Fr4 w z cs os rs ts) (vs : List Value) (hl : vs.length = rs.length) : Fr4 w (z.setCells (w.heap.size + 1 + 1) 0 vs) cs os vs ts :=
  ⟨bxn_far h.p (by omega), bxn_far h.o (by omega), h.r.all vs hl, bxn_far h.t (by omega), below_setCells h.b (by omega) _ _, Nat.le_trans h.s (grown_setCells z (w.heap.size + 1 + 1) 0 vs).size⟩
/-- What is far from the boxes stays, as a box is written. -/
theorem ownl_set {z : World} {base B o : Nat} {vs : List Value} {vn vt vb : Value} {mn : List NdM} {mt : List TdM} {bs : List Rg.Pr} (h : OwnL z base vn vt vb mn mt bs) (hb : B < base) : OwnL (z.setCells B o vs) base vn vt vb mn mt bs := h.far (grown_setCells _ _ _ _) hb
end Bo
end Go.Proofs.YthbmnkeigmbbdaaGreat

/-
  AN ORDER TO A BOOK THAT IS NOT RIGHT: book.Do.
-/
namespace Go.Proofs.YthbmnkeigmbbdaaGreat
open Go.RowKit Go.Lib
namespace Bo
open Rw
set_option linter.unusedVariables false
theorem b4_one {a a' a'' : Option Addr} {n n' n'' c c' c'' : Nat} (i : Int) : ∀ u ∈ ([.slice a n c, .slice a' n' c', .slice a'' n'' c'', .int .u64 i] : List Value), u.oneCell' = true := by
  intro u hu
  simp only [List.mem_cons, List.not_mem_nil, or_false] at hu
  rcases hu with rfl | rfl | rfl | rfl <;> rfl
end Bo
end Go.Proofs.YthbmnkeigmbbdaaGreat

/-
  AN ORDER OF NO FORM: book.Do.
-/
namespace Go.Proofs.YthbmnkeigmbbdaaGreat
open Go.RowKit Go.Lib
namespace Bo
open Rw
set_option linter.unusedVariables false
end Bo
end Go.Proofs.YthbmnkeigmbbdaaGreat

/-
  AN ORDER THAT CHANGES A BOOK: book.Do.
-/
namespace Go.Proofs.YthbmnkeigmbbdaaGreat
open Go.RowKit Go.Lib
namespace Bo
open Rw
set_option linter.unusedVariables false
end Bo
end Go.Proofs.YthbmnkeigmbbdaaGreat

/-
  AN ORDER THAT LOOKS: book.Do.
-/
namespace Go.Proofs.YthbmnkeigmbbdaaGreat
open Go.RowKit Go.Lib
namespace Bo
open Rw
set_option linter.unusedVariables false
end Bo
end Go.Proofs.YthbmnkeigmbbdaaGreat

/-
  book.Do: WHATEVER THE BOOK, WHATEVER THE ORDER.
-/
namespace Go.Proofs.YthbmnkeigmbbdaaGreat
open Go.RowKit Go.Lib
namespace Bo
open Rw
set_option linter.unusedVariables false
end Bo
end Go.Proofs.YthbmnkeigmbbdaaGreat
