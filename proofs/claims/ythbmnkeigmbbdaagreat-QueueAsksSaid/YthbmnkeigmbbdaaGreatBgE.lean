/-
  Merged: BoClnN, BoEachN, BoClnT, BoEachT.
-/
import Derived.Test.YthbmnkeigmbbdaaGreatBoOwn
import Derived.Deep.RegionWith
/-
  NODES ANEW: book.cloneNode, book.cloneEach.
-/
namespace Go.Proofs.YthbmnkeigmbbdaaGreat
open Go.RowKit Go.Lib
namespace Bo
open Rw
set_option linter.unusedVariables false
set_option maxRecDepth 100000 in
set_option maxHeartbeats 4000000 in
theorem cln_n (x : NdM) (w : World) (hd : DeepN w w.heap.size x) (hf : FitN x.nd) :
    Calls Tryz.prog 91 #[.agg #[.string x.nd.n, .int .i64 x.nd.z0, .int .i64 x.nd.z1, .int .i64 x.nd.z2, .slice x.a2 x.nd.ls.length x.c2, .slice x.a3 x.nd.ts.length x.c3]] w fun e w' => ∃ y : NdM, y.nd = x.nd ∧ OwnN w' w.heap.size y ∧ e = .returned (.agg #[.string y.nd.n, .int .i64 y.nd.z0, .int .i64 y.nd.z1, .int .i64 y.nd.z2, .slice y.a2 y.nd.ls.length y.c2, .slice y.a3 y.nd.ts.length y.c3]) ∧ Below w.heap.size w w' := by
  obtain ⟨W0, hW0⟩ : ∃ W0, W0 = (w.alloc (.cells #[.string x.nd.n, .int .i64 x.nd.z0, .int .i64 x.nd.z1, .int .i64 x.nd.z2, .slice x.a2 x.nd.ls.length x.c2, .slice x.a3 x.nd.ts.length x.c3] 45)).alloc (.cells #[.string ⟨#[]⟩, .int .i64 0, .int .i64 0, .int .i64 0, .slice none 0 0, .slice none 0 0] 45) := ⟨_, rfl⟩
  have hb0 : Below w.heap.size w W0 := by rw [hW0]; exact ((Below.refl _ w).alloc (Nat.le_refl _) _).alloc (by simp) _
  have hz0 : W0.heap.size = w.heap.size + 1 + 1 := by rw [hW0]; simp
  have hbx : Hd.Bxn W0 w.heap.size [.string x.nd.n, .int .i64 x.nd.z0, .int .i64 x.nd.z1, .int .i64 x.nd.z2, .slice x.a2 x.nd.ls.length x.c2, .slice x.a3 x.nd.ts.length x.c3] := by
    rw [hW0]
    exact (Hd.Bxn.made w [.string x.nd.n, .int .i64 x.nd.z0, .int .i64 x.nd.z1, .int .i64 x.nd.z2, .slice x.a2 x.nd.ls.length x.c2, .slice x.a3 x.nd.ts.length x.c3] 45).below (al _ _)
  have hrs : Hd.Bxn W0 (w.heap.size + 1) [.string ByteArray.empty, .int .i64 0, .int .i64 0, .int .i64 0, .slice none 0 0, .slice none 0 0] := by
    rw [hW0]
    have := Hd.Bxn.made (w.alloc (.cells #[.string x.nd.n, .int .i64 x.nd.z0, .int .i64 x.nd.z1, .int .i64 x.nd.z2, .slice x.a2 x.nd.ls.length x.c2, .slice x.a3 x.nd.ts.length x.c3] 45)) [.string ByteArray.empty, .int .i64 0, .int .i64 0, .int .i64 0, .slice none 0 0, .slice none 0 0] 45
    rwa [World.size_alloc] at this
  have HC2 : Hid (∀ z, Hid (Below W0.heap.size W0 z) → Calls Tryz.prog 159 #[.slice x.a2 x.nd.ls.length x.c2] z fun e w' => ∃ a c, e = .returned (.slice a x.nd.ls.length c) ∧ Own w' W0.heap.size 89 (.slice a x.nd.ls.length c) x.nd.ls ∧ Hid (Below z.heap.size z w')) := fun z hz => by
    refine (clone_p _ x.nd.ls z (hd.1.on (hb0.trans (hz.out.mono hb0.size))) hf.2.2.1.1).mono ?_
    rintro e w' ⟨v', he, ho, hb⟩
    obtain ⟨a, c, rfl⟩ := ho.slice
    exact ⟨a, c, he, ho.le hz.out.size, hb⟩
  have HC3 : Hid (∀ z, Hid (Below W0.heap.size W0 z) → Calls Tryz.prog 159 #[.slice x.a3 x.nd.ts.length x.c3] z fun e w' => ∃ a c, e = .returned (.slice a x.nd.ts.length c) ∧ Own w' W0.heap.size 89 (.slice a x.nd.ts.length c) x.nd.ts ∧ Hid (Below z.heap.size z w')) := fun z hz => by
    refine (clone_p _ x.nd.ts z (hd.2.on (hb0.trans (hz.out.mono hb0.size))) hf.2.2.2.1).mono ?_
    rintro e w' ⟨v', he, ho, hb⟩
    obtain ⟨a, c, rfl⟩ := ho.slice
    exact ⟨a, c, he, ho.le hz.out.size, hb⟩
  have HW := Lib.hid hW0
  have HB0 := Lib.hid hb0
  have HSZ := Lib.hid hz0
  have HBX := Lib.hid hbx
  have HRS := Lib.hid hrs
  clear hW0 hb0 hz0 hbx hrs hd hf
  go_enter Tryz.func91, Tryz.ntmps91
  go_upto_region 1 with fail
  rw [← HW.out]
  have H0 : Hid (Below W0.heap.size W0 W0.drew) := ⟨rfl, rfl, rfl, Nat.le_refl _, fun _ _ => rfl⟩
  have c4 : W0.cell? ⟨w.heap.size, 4, none⟩ = some (.slice x.a2 x.nd.ls.length x.c2) := HBX.out.cell 4
  have c5 : W0.cell? ⟨w.heap.size, 5, none⟩ = some (.slice x.a3 x.nd.ts.length x.c3) := HBX.out.cell 5
  go_region_with (first
    | ((with_reducible refine (HC2.out _ ?_).mono ?_); (first | assumption | exact H0); rintro e w7 ⟨a7, c7, rfl, ho7, hb7⟩; have H7 : Hid (Below W0.heap.size W0 w7) := H0.out.trans (hb7.out.mono H0.out.size); have HX7 := Lib.hid (HBX.out.below H7.out); have g5 : w7.cell? ⟨w.heap.size, 5, none⟩ = some (.slice x.a3 x.nd.ts.length x.c3) := HX7.out.cell 5)
    | ((with_reducible refine (HC3.out _ ?_).mono ?_); (first | assumption | exact H0); rintro e w8 ⟨a8, c8, rfl, ho8, hb8⟩; have H8 : Hid (Below W0.heap.size W0 w8) := H7.out.trans (hb8.out.mono H7.out.size); have HX8 := Lib.hid (HBX.out.below H8.out); have k4 : w8.cell? ⟨w.heap.size, 4, none⟩ = some (.slice x.a2 x.nd.ls.length x.c2) := HX8.out.cell 4; have k5 : w8.cell? ⟨w.heap.size, 5, none⟩ = some (.slice x.a3 x.nd.ts.length x.c3) := HX8.out.cell 5; have f4 := HX8.out.fz 4; have f5 := HX8.out.fz 5))
  all_goals
    have HY : Hid (Hd.Bxn ((w8.setCell ⟨w.heap.size, 4, none⟩ (.slice a7 x.nd.ls.length c7)).setCell ⟨w.heap.size, 5, none⟩ (.slice a8 x.nd.ts.length c8)) w.heap.size (ndE ⟨x.nd, a7, c7, a8, c8⟩)) := (HX8.out.set 4 _).set 5 _
    have HR9 : Hid (Hd.Bxn ((w8.setCell ⟨w.heap.size, 4, none⟩ (.slice a7 x.nd.ls.length c7)).setCell ⟨w.heap.size, 5, none⟩ (.slice a8 x.nd.ts.length c8)) (w.heap.size + 1) [.string ByteArray.empty, .int .i64 0, .int .i64 0, .int .i64 0, .slice none 0 0, .slice none 0 0]) := ((HRS.out.below H8.out).apart (by omega) _ _).apart (by omega) _ _
    have HB9 : Hid (Below w.heap.size w ((w8.setCell ⟨w.heap.size, 4, none⟩ (.slice a7 x.nd.ls.length c7)).setCell ⟨w.heap.size, 5, none⟩ (.slice a8 x.nd.ts.length c8))) := ((HB0.out.trans (H8.out.mono HB0.out.size)).setCell (Nat.le_refl _) _).setCell (Nat.le_refl _) _
    have hg9 : w8.grownBy ((w8.setCell ⟨w.heap.size, 4, none⟩ (.slice a7 x.nd.ls.length c7)).setCell ⟨w.heap.size, 5, none⟩ (.slice a8 x.nd.ts.length c8)) (some w.heap.size) := ((Hd.Only.refl w.heap.size w8).set 4 _).set 5 _
    have HO9 : Hid (Own ((w8.setCell ⟨w.heap.size, 4, none⟩ (.slice a7 x.nd.ls.length c7)).setCell ⟨w.heap.size, 5, none⟩ (.slice a8 x.nd.ts.length c8)) W0.heap.size 89 (.slice a7 x.nd.ls.length c7) x.nd.ls) := (ho7.keep hb8.out).other hg9 (.inr fun e => by have := ((ho7.keep hb8.out).lt _ e).1; rw [HSZ.out] at this; omega)
    have HO9' : Hid (Own ((w8.setCell ⟨w.heap.size, 4, none⟩ (.slice a7 x.nd.ls.length c7)).setCell ⟨w.heap.size, 5, none⟩ (.slice a8 x.nd.ts.length c8)) W0.heap.size 89 (.slice a8 x.nd.ts.length c8) x.nd.ts) := ho8.other hg9 (.inr fun e => by have := (ho8.lt _ e).1; rw [HSZ.out] at this; omega)
    clear hg9 ho7 ho8 k4 k5 f4 f5 g5 c4 c5
    go_upto_region 2 with fail
    generalize (w8.setCell ⟨w.heap.size, 4, none⟩ (.slice a7 x.nd.ls.length c7)).setCell ⟨w.heap.size, 5, none⟩ (.slice a8 x.nd.ts.length c8) = w9 at *
    have hth := HR9.out.there 6 rfl
    refine wp_region_list ?_
    refine wpList_load_mid rfl 45 (.tmp 1) rfl w.heap.size 0 rfl (ndE ⟨x.nd, a7, c7, a8, c8⟩) _ (HY.out.range 0) Tryz.underlying45 rfl rfl ?_
    refine wpList_store_mid rfl 45 (.tmp 2) (.tmp 11) rfl (w.heap.size + 1) 0 (ndE ⟨x.nd, a7, c7, a8, c8⟩).toArray rfl rfl hth rfl (all_oneCell_toArray (ndE_one _)) ?_
    rw [show (ndE ⟨x.nd, a7, c7, a8, c8⟩).toArray.toList = ndE ⟨x.nd, a7, c7, a8, c8⟩ from rfl]
    have HE := Lib.hid (HR9.out.all (ndE ⟨x.nd, a7, c7, a8, c8⟩) rfl)
    have HBE : Hid (Below w.heap.size w (w9.setCells (w.heap.size + 1) 0 (ndE ⟨x.nd, a7, c7, a8, c8⟩))) := below_setCells HB9.out (by omega) _ _
    have hgE : w9.grownBy (w9.setCells (w.heap.size + 1) 0 (ndE ⟨x.nd, a7, c7, a8, c8⟩)) (some (w.heap.size + 1)) := grown_setCells _ _ _ _
    have HP : Hid (OwnN (w9.setCells (w.heap.size + 1) 0 (ndE ⟨x.nd, a7, c7, a8, c8⟩)) w.heap.size ⟨x.nd, a7, c7, a8, c8⟩) :=
      ⟨(HO9.out.other hgE (.inr fun e => by have := (HO9.out.lt _ e).1; rw [HSZ.out] at this; omega)).le (by rw [HSZ.out]; omega), (HO9'.out.other hgE (.inr fun e => by have := (HO9'.out.lt _ e).1; rw [HSZ.out] at this; omega)).le (by rw [HSZ.out]; omega)⟩
    clear hth hgE HR9 HB9 HO9 HO9' HY
    generalize w9.setCells (w.heap.size + 1) 0 (ndE ⟨x.nd, a7, c7, a8, c8⟩) = wE at *
    refine wpList_nil ?_
    go_wp2
    exact Hd.bodyPost_bx rfl (w.heap.size + 1) (ndE ⟨x.nd, a7, c7, a8, c8⟩) _ rfl rfl HE.out Tryz.underlying45 rfl rfl ⟨⟨x.nd, a7, c7, a8, c8⟩, rfl, HP.out, rfl, HBE.out⟩
end Bo
end Go.Proofs.YthbmnkeigmbbdaaGreat

/-
  ALL OF NODES ANEW: book.cloneEach.
-/
namespace Go.Proofs.YthbmnkeigmbbdaaGreat
open Go.RowKit Go.Lib
namespace Bo
open Rw
set_option linter.unusedVariables false
def EachN (w : World) (m : List NdM) (e : Ending) (w' : World) : Prop := ∃ v' m', e = .returned v' ∧ m'.map (·.nd) = m.map (·.nd) ∧ Own w' w.heap.size 45 v' m' ∧ (∀ y ∈ m', OwnN w' w.heap.size y) ∧ Below w.heap.size w w'
theorem EachN.mk {w w' : World} {m : List NdM} {v' : Value} (m' : List NdM) (h1 : m'.map (·.nd) = m.map (·.nd)) (h2 : Own w' w.heap.size 45 v' m') (h3 : ∀ y ∈ m', OwnN w' w.heap.size y) (h4 : Below w.heap.size w w') : EachN w m (.returned v') w' := ⟨v', m', rfl, h1, h2, h3, h4⟩
set_option maxRecDepth 100000 in
set_option maxHeartbeats 4000000 in
theorem each_n (v : Value) (m : List NdM) (w : World) (hs : Sl w 0 w.heap.size v m) (hdp : ∀ x ∈ m, DeepN w w.heap.size x ∧ FitN x.nd) (hby : m.length * 88 ≤ 140737488355328) :
    Calls Tryz.prog 90 #[v, .func (.func 91) #[] #[]] w (EachN w m) := by
  have hE : ∀ args z, (callFunc 91 args).run Tryz.prog z = .ok (.enter 91 args) z := enters_of Tryz.func91 (by kernel_rfl) rfl
  have HCL := Lib.hid (clone_n v m w hs hby)
  have HCE : Hid (∀ x ∈ m, ∀ z, Below w.heap.size w z → Calls Tryz.prog 91 #[.agg #[.string x.nd.n, .int .i64 x.nd.z0, .int .i64 x.nd.z1, .int .i64 x.nd.z2, .slice x.a2 x.nd.ls.length x.c2, .slice x.a3 x.nd.ts.length x.c3]] z fun e w' => ∃ y : NdM, y.nd = x.nd ∧ OwnN w' z.heap.size y ∧ e = .returned (.agg #[.string y.nd.n, .int .i64 y.nd.z0, .int .i64 y.nd.z1, .int .i64 y.nd.z2, .slice y.a2 y.nd.ls.length y.c2, .slice y.a3 y.nd.ts.length y.c3]) ∧ Below z.heap.size z w') := fun x hx z hz => cln_n x z ((hdp x hx).1.on hz) (hdp x hx).2
  have hmx : m.length ≤ 4398046511104 := hs.len
  obtain ⟨a0, c0, hv0⟩ := hs.slice
  subst hv0
  clear hs hdp hby
  go_enter Tryz.func90, Tryz.ntmps90
  go_wp2_with fail
  refine HCL.out.mono ?_
  rintro e w1 ⟨v', rfl, ho1, hb1⟩
  obtain ⟨a, c, rfl⟩ := ho1.slice
  have HO1 := Lib.hid ho1
  have HB1 := Lib.hid hb1
  clear ho1 hb1 HCL
  go_wp2
  go_loopg [10] m.length (fun gg i wx => ∃ k : Nat, k + gg = m.length ∧ i = .int .i64 k ∧ Aside (∃ dn : List NdM, dn.length = k ∧ dn.map (·.nd) = (m.take k).map (·.nd) ∧ Own wx w.heap.size 45 (.slice a m.length c) (dn ++ m.drop k) ∧ ∀ y ∈ dn, OwnN wx w.heap.size y) ∧ Aside (Below w.heap.size w wx))
  case atStart => exact ⟨0, by omega, rfl, ⟨[], rfl, by simp, HO1.out, by simp⟩, HB1.out⟩
  case round =>
    obtain ⟨k, hkg, rfl, HA, HB⟩ := hrel
    cases gk with
    | zero =>
      obtain rfl : k = m.length := by omega
      clear hkg
      go_wp2
      go_ret
      obtain ⟨dn, h1, h2, h3, h4⟩ := HA.out
      rw [List.take_length] at h2
      rw [List.drop_length, List.append_nil] at h3
      exact EachN.mk dn h2 h3 h4 HB.out
    | succ gg =>
      have hlk : k < m.length := by omega
      have t2 : (k : Int) < (m.length : Int) := by omega
      have t3 : IntKind.i64.wrap ((k : Int) + 1) = (k : Int) + 1 := by rw [IntKind.wrap_i64]; omega
      obtain ⟨dn, hdl, hdm, hown, hdo⟩ := HA.out
      have hdc : m.drop k = m[k] :: m.drop (k + 1) := by rw [List.drop_eq_getElem_cons hlk]
      have hlen : (dn ++ m.drop k).length = m.length := by rw [List.length_append, List.length_drop]; omega
      obtain ⟨g, cap, hv, hbg, hgl, hat, -⟩ := hown.form (by omega)
      rw [hlen] at hv
      simp only [Value.slice.injEq, true_and] at hv
      obtain ⟨rfl, rfl⟩ := hv
      have hgk : (dn ++ m.drop k)[k]'(by omega) = m[k] := by
        rw [List.getElem_append_right (by omega)]
        simp [hdl]
      have hatk : At wr g (k * 6) m[k] := by
        have := hat k (by omega)
        rw [hgk] at this
        exact this
      obtain ⟨d0, d1, d2, d3, d4, d5⟩ := at_nd hatk
      have HD : Hid (dn.length = k ∧ dn.map (·.nd) = (m.take k).map (·.nd) ∧ ∀ y ∈ dn, OwnN wr w.heap.size y) := ⟨hdl, hdm, hdo⟩
      have HOW : Hid (Own wr w.heap.size 45 (.slice (some ⟨g, 0, none⟩) m.length c) (dn ++ m[k] :: m.drop (k + 1))) := by rw [← hdc]; exact hown
      have HTK : Hid ((m.take (k + 1)).map (·.nd) = (m.take k).map (·.nd) ++ [m[k].nd]) := by show _ = _; rw [List.take_succ_eq_append_getElem hlk, List.map_append]; rfl
      have HK := Lib.hid (HCE.out m[k] (List.getElem_mem hlk) wr HB.out)
      have HML : Hid (dn.length + (m.drop (k + 1)).length + 1 = m.length) := by show _ = _; rw [List.length_drop]; omega
      clear hdl hdm hown hdo hdc hlen hat hgk hatk HA
      generalize m[k] = x at *
      obtain ⟨rs, hrs⟩ : ∃ rs, rs = m.drop (k + 1) := ⟨_, rfl⟩
      rw [← hrs] at HOW HML
      have HRS := Lib.hid hrs
      clear hrs
      go_wp2_with fail
      refine HK.out.mono ?_
      rintro e w2 ⟨y, hy, hoy, rfl, hb⟩
      have HY := Lib.hid hy
      have HB2 : Hid (Below w.heap.size w w2) := HB.out.trans (hb.mono HB.out.size)
      have HOY : Hid (OwnN w2 w.heap.size y) := hoy.le HB.out.size
      have HO2 : Hid (Own w2 w.heap.size 45 (.slice (some ⟨g, 0, none⟩) m.length c) (dn ++ x :: rs)) := HOW.out.keep hb
      have HDN : Hid (∀ z ∈ dn, OwnN w2 w.heap.size z) := fun z hz => (HD.out.2.2 z hz).keep hb
      have hlen2 : (dn ++ x :: rs).length = m.length := by rw [List.length_append, List.length_cons]; have := HML.out; omega
      obtain ⟨g', cap', hv', -, -, -, hth'⟩ := HO2.out.form (by omega)
      simp only [Value.slice.injEq, Option.some.injEq, Addr.mk.injEq, and_true] at hv'
      obtain ⟨rfl, -, -⟩ := hv'
      have hth : w2.there g (k * 6) 6 := hth' k (by omega)
      have hset : (dn ++ x :: rs).set k y = (dn ++ [y]) ++ rs := by
        rw [← HD.out.1, List.set_append_right _ _ (Nat.le_refl _)]
        simp
      have HO3 : Hid (Own (w2.setCells g (k * 6) (ndE y)) w.heap.size 45 (.slice (some ⟨g, 0, none⟩) m.length c) ((dn ++ [y]) ++ rs)) := by
        have := HO2.out.set k (by omega) y
        rw [hset] at this
        exact this
      have hgr : w2.grownBy (w2.setCells g (k * 6) (ndE y)) ((.slice (some ⟨g, 0, none⟩) m.length c : Value).ownBlock) := grown_setCells _ _ _ _
      have HB3 : Hid (Below w.heap.size w (w2.setCells g (k * 6) (ndE y))) := below_setCells HB2.out (HO2.out.lt g rfl).1 _ _
      have HDN3 : Hid (∀ z ∈ dn ++ [y], OwnN (w2.setCells g (k * 6) (ndE y)) w.heap.size z) := fun z hz => by
        rcases List.mem_append.1 hz with h | h
        · exact (HDN.out z h).off HO2.out (by decide) hgr
        · rw [List.mem_singleton.1 h]
          exact HOY.out.off HO2.out (by decide) hgr
      have t4 : (0 : Int) ≤ (k : Int) := by omega
      clear hb hoy hy hlen2 hth' hset hgr HO2 HOY HDN HB2 HOW HK HCE HB
      dsimp only
      refine ‹∀ (a : Act) (w : World), wpList Tryz.prog _ _ _ a w → _› _ _ ?_
      refine wpList_plain rfl fun K hK => ?_
      go_simp
      refine hK _ _ ?_
      clear hK K
      refine wpList_store_mid rfl 45 (.tmp 21) (.tmp 20) rfl g (k * 6) (ndE y).toArray (by first | rfl | simp [Act.eval]) rfl hth rfl (all_oneCell_toArray (ndE_one y)) ?_
      rw [show (ndE y).toArray.toList = ndE y from rfl]
      clear hth
      generalize w2.setCells g (k * 6) (ndE y) = w3 at *
      refine wpList_nil ?_
      go_wp2
      go_roundg gg
      case measure => omega
      case rel =>
        refine ⟨k + 1, by omega, by simp, ⟨dn ++ [y], by simp [HD.out.1], ?_, ?_, HDN3.out⟩, HB3.out⟩
        · rw [HTK.out, List.map_append, HD.out.2.1, List.map_singleton, HY.out]
        · rw [← HRS.out]; exact HO3.out
end Bo
end Go.Proofs.YthbmnkeigmbbdaaGreat

/-
  TASKS ANEW: book.cloneTask, book.cloneEach.
-/
namespace Go.Proofs.YthbmnkeigmbbdaaGreat
open Go.RowKit Go.Lib
namespace Bo
open Rw
set_option linter.unusedVariables false
set_option maxRecDepth 100000 in
set_option maxHeartbeats 4000000 in
theorem cln_t (x : TdM) (w : World) (hd : DeepT w w.heap.size x) (hf : FitT x.td) :
    Calls Tryz.prog 93 #[.agg #[.string x.td.n, .int .i64 x.td.z0, .int .i64 x.td.z1, .int .i64 x.td.z2, .slice x.a4 x.td.ws.length x.c4, .slice x.a5 x.td.bs.length x.c5, .string x.td.g, .string x.td.a, .int .i64 x.td.r]] w fun e w' => ∃ y : TdM, y.td = x.td ∧ OwnT w' w.heap.size y ∧ e = .returned (.agg #[.string y.td.n, .int .i64 y.td.z0, .int .i64 y.td.z1, .int .i64 y.td.z2, .slice y.a4 y.td.ws.length y.c4, .slice y.a5 y.td.bs.length y.c5, .string y.td.g, .string y.td.a, .int .i64 y.td.r]) ∧ Below w.heap.size w w' := by
  obtain ⟨W0, hW0⟩ : ∃ W0, W0 = (w.alloc (.cells #[.string x.td.n, .int .i64 x.td.z0, .int .i64 x.td.z1, .int .i64 x.td.z2, .slice x.a4 x.td.ws.length x.c4, .slice x.a5 x.td.bs.length x.c5, .string x.td.g, .string x.td.a, .int .i64 x.td.r] 42)).alloc (.cells #[.string ⟨#[]⟩, .int .i64 0, .int .i64 0, .int .i64 0, .slice none 0 0, .slice none 0 0, .string ⟨#[]⟩, .string ⟨#[]⟩, .int .i64 0] 42) := ⟨_, rfl⟩
  have hb0 : Below w.heap.size w W0 := by rw [hW0]; exact ((Below.refl _ w).alloc (Nat.le_refl _) _).alloc (by simp) _
  have hz0 : W0.heap.size = w.heap.size + 1 + 1 := by rw [hW0]; simp
  have hbx : Hd.Bxn W0 w.heap.size [.string x.td.n, .int .i64 x.td.z0, .int .i64 x.td.z1, .int .i64 x.td.z2, .slice x.a4 x.td.ws.length x.c4, .slice x.a5 x.td.bs.length x.c5, .string x.td.g, .string x.td.a, .int .i64 x.td.r] := by
    rw [hW0]
    exact (Hd.Bxn.made w [.string x.td.n, .int .i64 x.td.z0, .int .i64 x.td.z1, .int .i64 x.td.z2, .slice x.a4 x.td.ws.length x.c4, .slice x.a5 x.td.bs.length x.c5, .string x.td.g, .string x.td.a, .int .i64 x.td.r] 42).below (al _ _)
  have hrs : Hd.Bxn W0 (w.heap.size + 1) [.string ByteArray.empty, .int .i64 0, .int .i64 0, .int .i64 0, .slice none 0 0, .slice none 0 0, .string ByteArray.empty, .string ByteArray.empty, .int .i64 0] := by
    rw [hW0]
    have := Hd.Bxn.made (w.alloc (.cells #[.string x.td.n, .int .i64 x.td.z0, .int .i64 x.td.z1, .int .i64 x.td.z2, .slice x.a4 x.td.ws.length x.c4, .slice x.a5 x.td.bs.length x.c5, .string x.td.g, .string x.td.a, .int .i64 x.td.r] 42)) [.string ByteArray.empty, .int .i64 0, .int .i64 0, .int .i64 0, .slice none 0 0, .slice none 0 0, .string ByteArray.empty, .string ByteArray.empty, .int .i64 0] 42
    rwa [World.size_alloc] at this
  have HC2 : Hid (∀ z, Hid (Below W0.heap.size W0 z) → Calls Tryz.prog 159 #[.slice x.a4 x.td.ws.length x.c4] z fun e w' => ∃ a c, e = .returned (.slice a x.td.ws.length c) ∧ Own w' W0.heap.size 89 (.slice a x.td.ws.length c) x.td.ws ∧ Hid (Below z.heap.size z w')) := fun z hz => by
    refine (clone_p _ x.td.ws z (hd.1.on (hb0.trans (hz.out.mono hb0.size))) hf.2.2.1.1).mono ?_
    rintro e w' ⟨v', he, ho, hb⟩
    obtain ⟨a, c, rfl⟩ := ho.slice
    exact ⟨a, c, he, ho.le hz.out.size, hb⟩
  have HC3 : Hid (∀ z, Hid (Below W0.heap.size W0 z) → Calls Tryz.prog 159 #[.slice x.a5 x.td.bs.length x.c5] z fun e w' => ∃ a c, e = .returned (.slice a x.td.bs.length c) ∧ Own w' W0.heap.size 89 (.slice a x.td.bs.length c) x.td.bs ∧ Hid (Below z.heap.size z w')) := fun z hz => by
    refine (clone_p _ x.td.bs z (hd.2.on (hb0.trans (hz.out.mono hb0.size))) hf.2.2.2.1).mono ?_
    rintro e w' ⟨v', he, ho, hb⟩
    obtain ⟨a, c, rfl⟩ := ho.slice
    exact ⟨a, c, he, ho.le hz.out.size, hb⟩
  have HW := Lib.hid hW0
  have HB0 := Lib.hid hb0
  have HSZ := Lib.hid hz0
  have HBX := Lib.hid hbx
  have HRS := Lib.hid hrs
  clear hW0 hb0 hz0 hbx hrs hd hf
  go_enter Tryz.func93, Tryz.ntmps93
  go_upto_region 1 with fail
  rw [← HW.out]
  have H0 : Hid (Below W0.heap.size W0 W0.drew) := ⟨rfl, rfl, rfl, Nat.le_refl _, fun _ _ => rfl⟩
  have c4 : W0.cell? ⟨w.heap.size, 4, none⟩ = some (.slice x.a4 x.td.ws.length x.c4) := HBX.out.cell 4
  have c5 : W0.cell? ⟨w.heap.size, 5, none⟩ = some (.slice x.a5 x.td.bs.length x.c5) := HBX.out.cell 5
  go_region_with (first
    | ((with_reducible refine (HC2.out _ ?_).mono ?_); (first | assumption | exact H0); rintro e w7 ⟨a7, c7, rfl, ho7, hb7⟩; have H7 : Hid (Below W0.heap.size W0 w7) := H0.out.trans (hb7.out.mono H0.out.size); have HX7 := Lib.hid (HBX.out.below H7.out); have g5 : w7.cell? ⟨w.heap.size, 5, none⟩ = some (.slice x.a5 x.td.bs.length x.c5) := HX7.out.cell 5)
    | ((with_reducible refine (HC3.out _ ?_).mono ?_); (first | assumption | exact H0); rintro e w8 ⟨a8, c8, rfl, ho8, hb8⟩; have H8 : Hid (Below W0.heap.size W0 w8) := H7.out.trans (hb8.out.mono H7.out.size); have HX8 := Lib.hid (HBX.out.below H8.out); have k4 : w8.cell? ⟨w.heap.size, 4, none⟩ = some (.slice x.a4 x.td.ws.length x.c4) := HX8.out.cell 4; have k5 : w8.cell? ⟨w.heap.size, 5, none⟩ = some (.slice x.a5 x.td.bs.length x.c5) := HX8.out.cell 5; have f4 := HX8.out.fz 4; have f5 := HX8.out.fz 5))
  all_goals
    have HY : Hid (Hd.Bxn ((w8.setCell ⟨w.heap.size, 4, none⟩ (.slice a7 x.td.ws.length c7)).setCell ⟨w.heap.size, 5, none⟩ (.slice a8 x.td.bs.length c8)) w.heap.size (tdE ⟨x.td, a7, c7, a8, c8⟩)) := (HX8.out.set 4 _).set 5 _
    have HR9 : Hid (Hd.Bxn ((w8.setCell ⟨w.heap.size, 4, none⟩ (.slice a7 x.td.ws.length c7)).setCell ⟨w.heap.size, 5, none⟩ (.slice a8 x.td.bs.length c8)) (w.heap.size + 1) [.string ByteArray.empty, .int .i64 0, .int .i64 0, .int .i64 0, .slice none 0 0, .slice none 0 0, .string ByteArray.empty, .string ByteArray.empty, .int .i64 0]) := ((HRS.out.below H8.out).apart (by omega) _ _).apart (by omega) _ _
    have HB9 : Hid (Below w.heap.size w ((w8.setCell ⟨w.heap.size, 4, none⟩ (.slice a7 x.td.ws.length c7)).setCell ⟨w.heap.size, 5, none⟩ (.slice a8 x.td.bs.length c8))) := ((HB0.out.trans (H8.out.mono HB0.out.size)).setCell (Nat.le_refl _) _).setCell (Nat.le_refl _) _
    have hg9 : w8.grownBy ((w8.setCell ⟨w.heap.size, 4, none⟩ (.slice a7 x.td.ws.length c7)).setCell ⟨w.heap.size, 5, none⟩ (.slice a8 x.td.bs.length c8)) (some w.heap.size) := ((Hd.Only.refl w.heap.size w8).set 4 _).set 5 _
    have HO9 : Hid (Own ((w8.setCell ⟨w.heap.size, 4, none⟩ (.slice a7 x.td.ws.length c7)).setCell ⟨w.heap.size, 5, none⟩ (.slice a8 x.td.bs.length c8)) W0.heap.size 89 (.slice a7 x.td.ws.length c7) x.td.ws) := (ho7.keep hb8.out).other hg9 (.inr fun e => by have := ((ho7.keep hb8.out).lt _ e).1; rw [HSZ.out] at this; omega)
    have HO9' : Hid (Own ((w8.setCell ⟨w.heap.size, 4, none⟩ (.slice a7 x.td.ws.length c7)).setCell ⟨w.heap.size, 5, none⟩ (.slice a8 x.td.bs.length c8)) W0.heap.size 89 (.slice a8 x.td.bs.length c8) x.td.bs) := ho8.other hg9 (.inr fun e => by have := (ho8.lt _ e).1; rw [HSZ.out] at this; omega)
    clear hg9 ho7 ho8 k4 k5 f4 f5 g5 c4 c5
    go_upto_region 2 with fail
    generalize (w8.setCell ⟨w.heap.size, 4, none⟩ (.slice a7 x.td.ws.length c7)).setCell ⟨w.heap.size, 5, none⟩ (.slice a8 x.td.bs.length c8) = w9 at *
    have hth := HR9.out.there 9 rfl
    refine wp_region_list ?_
    refine wpList_load_mid rfl 42 (.tmp 1) rfl w.heap.size 0 rfl (tdE ⟨x.td, a7, c7, a8, c8⟩) _ (HY.out.range 0) Tryz.underlying42 rfl rfl ?_
    refine wpList_store_mid rfl 42 (.tmp 2) (.tmp 11) rfl (w.heap.size + 1) 0 (tdE ⟨x.td, a7, c7, a8, c8⟩).toArray rfl rfl hth rfl (all_oneCell_toArray (tdE_one _)) ?_
    rw [show (tdE ⟨x.td, a7, c7, a8, c8⟩).toArray.toList = tdE ⟨x.td, a7, c7, a8, c8⟩ from rfl]
    have HE := Lib.hid (HR9.out.all (tdE ⟨x.td, a7, c7, a8, c8⟩) rfl)
    have HBE : Hid (Below w.heap.size w (w9.setCells (w.heap.size + 1) 0 (tdE ⟨x.td, a7, c7, a8, c8⟩))) := below_setCells HB9.out (by omega) _ _
    have hgE : w9.grownBy (w9.setCells (w.heap.size + 1) 0 (tdE ⟨x.td, a7, c7, a8, c8⟩)) (some (w.heap.size + 1)) := grown_setCells _ _ _ _
    have HP : Hid (OwnT (w9.setCells (w.heap.size + 1) 0 (tdE ⟨x.td, a7, c7, a8, c8⟩)) w.heap.size ⟨x.td, a7, c7, a8, c8⟩) :=
      ⟨(HO9.out.other hgE (.inr fun e => by have := (HO9.out.lt _ e).1; rw [HSZ.out] at this; omega)).le (by rw [HSZ.out]; omega), (HO9'.out.other hgE (.inr fun e => by have := (HO9'.out.lt _ e).1; rw [HSZ.out] at this; omega)).le (by rw [HSZ.out]; omega)⟩
    clear hth hgE HR9 HB9 HO9 HO9' HY
    generalize w9.setCells (w.heap.size + 1) 0 (tdE ⟨x.td, a7, c7, a8, c8⟩) = wE at *
    refine wpList_nil ?_
    go_wp2
    exact Hd.bodyPost_bx rfl (w.heap.size + 1) (tdE ⟨x.td, a7, c7, a8, c8⟩) _ rfl rfl HE.out Tryz.underlying42 rfl rfl ⟨⟨x.td, a7, c7, a8, c8⟩, rfl, HP.out, rfl, HBE.out⟩
end Bo
end Go.Proofs.YthbmnkeigmbbdaaGreat

/-
  ALL OF TASKS ANEW: book.cloneEach.
-/
namespace Go.Proofs.YthbmnkeigmbbdaaGreat
open Go.RowKit Go.Lib
namespace Bo
open Rw
set_option linter.unusedVariables false
def EachT (w : World) (m : List TdM) (e : Ending) (w' : World) : Prop := ∃ v' m', e = .returned v' ∧ m'.map (·.td) = m.map (·.td) ∧ Own w' w.heap.size 42 v' m' ∧ (∀ y ∈ m', OwnT w' w.heap.size y) ∧ Below w.heap.size w w'
theorem EachT.mk {w w' : World} {m : List TdM} {v' : Value} (m' : List TdM) (h1 : m'.map (·.td) = m.map (·.td)) (h2 : Own w' w.heap.size 42 v' m') (h3 : ∀ y ∈ m', OwnT w' w.heap.size y) (h4 : Below w.heap.size w w') : EachT w m (.returned v') w' := ⟨v', m', rfl, h1, h2, h3, h4⟩
set_option maxRecDepth 100000 in
set_option maxHeartbeats 4000000 in
theorem each_t (v : Value) (m : List TdM) (w : World) (hs : Sl w 0 w.heap.size v m) (hdp : ∀ x ∈ m, DeepT w w.heap.size x ∧ FitT x.td) (hby : m.length * 128 ≤ 140737488355328) :
    Calls Tryz.prog 92 #[v, .func (.func 93) #[] #[]] w (EachT w m) := by
  have hE : ∀ args z, (callFunc 93 args).run Tryz.prog z = .ok (.enter 93 args) z := enters_of Tryz.func93 (by kernel_rfl) rfl
  have HCL := Lib.hid (clone_t v m w hs hby)
  have HCE : Hid (∀ x ∈ m, ∀ z, Below w.heap.size w z → Calls Tryz.prog 93 #[.agg #[.string x.td.n, .int .i64 x.td.z0, .int .i64 x.td.z1, .int .i64 x.td.z2, .slice x.a4 x.td.ws.length x.c4, .slice x.a5 x.td.bs.length x.c5, .string x.td.g, .string x.td.a, .int .i64 x.td.r]] z fun e w' => ∃ y : TdM, y.td = x.td ∧ OwnT w' z.heap.size y ∧ e = .returned (.agg #[.string y.td.n, .int .i64 y.td.z0, .int .i64 y.td.z1, .int .i64 y.td.z2, .slice y.a4 y.td.ws.length y.c4, .slice y.a5 y.td.bs.length y.c5, .string y.td.g, .string y.td.a, .int .i64 y.td.r]) ∧ Below z.heap.size z w') := fun x hx z hz => cln_t x z ((hdp x hx).1.on hz) (hdp x hx).2
  have hmx : m.length ≤ 4398046511104 := hs.len
  obtain ⟨a0, c0, hv0⟩ := hs.slice
  subst hv0
  clear hs hdp hby
  go_enter Tryz.func92, Tryz.ntmps92
  go_wp2_with fail
  refine HCL.out.mono ?_
  rintro e w1 ⟨v', rfl, ho1, hb1⟩
  obtain ⟨a, c, rfl⟩ := ho1.slice
  have HO1 := Lib.hid ho1
  have HB1 := Lib.hid hb1
  clear ho1 hb1 HCL
  go_wp2
  go_loopg [10] m.length (fun gg i wx => ∃ k : Nat, k + gg = m.length ∧ i = .int .i64 k ∧ Aside (∃ dn : List TdM, dn.length = k ∧ dn.map (·.td) = (m.take k).map (·.td) ∧ Own wx w.heap.size 42 (.slice a m.length c) (dn ++ m.drop k) ∧ ∀ y ∈ dn, OwnT wx w.heap.size y) ∧ Aside (Below w.heap.size w wx))
  case atStart => exact ⟨0, by omega, rfl, ⟨[], rfl, by simp, HO1.out, by simp⟩, HB1.out⟩
  case round =>
    obtain ⟨k, hkg, rfl, HA, HB⟩ := hrel
    cases gk with
    | zero =>
      obtain rfl : k = m.length := by omega
      clear hkg
      go_wp2
      go_ret
      obtain ⟨dn, h1, h2, h3, h4⟩ := HA.out
      rw [List.take_length] at h2
      rw [List.drop_length, List.append_nil] at h3
      exact EachT.mk dn h2 h3 h4 HB.out
    | succ gg =>
      have hlk : k < m.length := by omega
      have t2 : (k : Int) < (m.length : Int) := by omega
      have t3 : IntKind.i64.wrap ((k : Int) + 1) = (k : Int) + 1 := by rw [IntKind.wrap_i64]; omega
      obtain ⟨dn, hdl, hdm, hown, hdo⟩ := HA.out
      have hdc : m.drop k = m[k] :: m.drop (k + 1) := by rw [List.drop_eq_getElem_cons hlk]
      have hlen : (dn ++ m.drop k).length = m.length := by rw [List.length_append, List.length_drop]; omega
      obtain ⟨g, cap, hv, hbg, hgl, hat, -⟩ := hown.form (by omega)
      rw [hlen] at hv
      simp only [Value.slice.injEq, true_and] at hv
      obtain ⟨rfl, rfl⟩ := hv
      have hgk : (dn ++ m.drop k)[k]'(by omega) = m[k] := by
        rw [List.getElem_append_right (by omega)]
        simp [hdl]
      have hatk : At wr g (k * 9) m[k] := by
        have := hat k (by omega)
        rw [hgk] at this
        exact this
      obtain ⟨d0, d1, d2, d3, d4, d5, d6, d7, d8⟩ := at_td hatk
      have HD : Hid (dn.length = k ∧ dn.map (·.td) = (m.take k).map (·.td) ∧ ∀ y ∈ dn, OwnT wr w.heap.size y) := ⟨hdl, hdm, hdo⟩
      have HOW : Hid (Own wr w.heap.size 42 (.slice (some ⟨g, 0, none⟩) m.length c) (dn ++ m[k] :: m.drop (k + 1))) := by rw [← hdc]; exact hown
      have HTK : Hid ((m.take (k + 1)).map (·.td) = (m.take k).map (·.td) ++ [m[k].td]) := by show _ = _; rw [List.take_succ_eq_append_getElem hlk, List.map_append]; rfl
      have HK := Lib.hid (HCE.out m[k] (List.getElem_mem hlk) wr HB.out)
      have HML : Hid (dn.length + (m.drop (k + 1)).length + 1 = m.length) := by show _ = _; rw [List.length_drop]; omega
      clear hdl hdm hown hdo hdc hlen hat hgk hatk HA
      generalize m[k] = x at *
      obtain ⟨rs, hrs⟩ : ∃ rs, rs = m.drop (k + 1) := ⟨_, rfl⟩
      rw [← hrs] at HOW HML
      have HRS := Lib.hid hrs
      clear hrs
      go_wp2_with fail
      refine HK.out.mono ?_
      rintro e w2 ⟨y, hy, hoy, rfl, hb⟩
      have HY := Lib.hid hy
      have HB2 : Hid (Below w.heap.size w w2) := HB.out.trans (hb.mono HB.out.size)
      have HOY : Hid (OwnT w2 w.heap.size y) := hoy.le HB.out.size
      have HO2 : Hid (Own w2 w.heap.size 42 (.slice (some ⟨g, 0, none⟩) m.length c) (dn ++ x :: rs)) := HOW.out.keep hb
      have HDN : Hid (∀ z ∈ dn, OwnT w2 w.heap.size z) := fun z hz => (HD.out.2.2 z hz).keep hb
      have hlen2 : (dn ++ x :: rs).length = m.length := by rw [List.length_append, List.length_cons]; have := HML.out; omega
      obtain ⟨g', cap', hv', -, -, -, hth'⟩ := HO2.out.form (by omega)
      simp only [Value.slice.injEq, Option.some.injEq, Addr.mk.injEq, and_true] at hv'
      obtain ⟨rfl, -, -⟩ := hv'
      have hth : w2.there g (k * 9) 9 := hth' k (by omega)
      have hset : (dn ++ x :: rs).set k y = (dn ++ [y]) ++ rs := by
        rw [← HD.out.1, List.set_append_right _ _ (Nat.le_refl _)]
        simp
      have HO3 : Hid (Own (w2.setCells g (k * 9) (tdE y)) w.heap.size 42 (.slice (some ⟨g, 0, none⟩) m.length c) ((dn ++ [y]) ++ rs)) := by
        have := HO2.out.set k (by omega) y
        rw [hset] at this
        exact this
      have hgr : w2.grownBy (w2.setCells g (k * 9) (tdE y)) ((.slice (some ⟨g, 0, none⟩) m.length c : Value).ownBlock) := grown_setCells _ _ _ _
      have HB3 : Hid (Below w.heap.size w (w2.setCells g (k * 9) (tdE y))) := below_setCells HB2.out (HO2.out.lt g rfl).1 _ _
      have HDN3 : Hid (∀ z ∈ dn ++ [y], OwnT (w2.setCells g (k * 9) (tdE y)) w.heap.size z) := fun z hz => by
        rcases List.mem_append.1 hz with h | h
        · exact (HDN.out z h).off HO2.out (by decide) hgr
        · rw [List.mem_singleton.1 h]
          exact HOY.out.off HO2.out (by decide) hgr
      have t4 : (0 : Int) ≤ (k : Int) := by omega
      clear hb hoy hy hlen2 hth' hset hgr HO2 HOY HDN HB2 HOW HK HCE HB
      dsimp only
      refine ‹∀ (a : Act) (w : World), wpList Tryz.prog _ _ _ a w → _› _ _ ?_
      refine wpList_plain rfl fun K hK => ?_
      go_simp
      refine hK _ _ ?_
      clear hK K
      refine wpList_store_mid rfl 42 (.tmp 21) (.tmp 20) rfl g (k * 9) (tdE y).toArray (by first | rfl | simp [Act.eval]) rfl hth rfl (all_oneCell_toArray (tdE_one y)) ?_
      rw [show (tdE y).toArray.toList = tdE y from rfl]
      clear hth
      generalize w2.setCells g (k * 9) (tdE y) = w3 at *
      refine wpList_nil ?_
      go_wp2
      go_roundg gg
      case measure => omega
      case rel =>
        refine ⟨k + 1, by omega, by simp, ⟨dn ++ [y], by simp [HD.out.1], ?_, ?_, HDN3.out⟩, HB3.out⟩
        · rw [HTK.out, List.map_append, HD.out.2.1, List.map_singleton, HY.out]
        · rw [← HRS.out]; exact HO3.out
end Bo
end Go.Proofs.YthbmnkeigmbbdaaGreat
